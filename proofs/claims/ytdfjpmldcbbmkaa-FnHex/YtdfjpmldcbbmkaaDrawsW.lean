/-
  What DrawRot and DrawAdd32 give: two ints; nothing that was there is written.
-/
import Derived.Test.YtdfjpmldcbbmkaaDrawB
namespace Go.Proofs.Ytdfjpmldcbbmkaa.DrawsW
open Go.RowKit Go.Proofs.Ytdfjpmldcbbmkaa.Mem Go.Proofs.Ytdfjpmldcbbmkaa.App Go.Proofs.Ytdfjpmldcbbmkaa.Draw

theorem big_no (a : Option Addr) (len cap : Nat) (w : World) (h : len ≤ 1048576) :
    Calls Try.prog 13 #[.slice a len cap] w fun e w' => e = .returned (.bool false) ∧ w = w' := by
  have h' : ¬ ((1048576 : Int) < (len : Int)) := by omega
  go_enter Try.func13, Try.ntmps13
  go_wp2
  go_ret
  exact ⟨by simp, rfl⟩
theorem big_yes (a : Option Addr) (len cap : Nat) (w : World) (h : 1048576 < len) :
    Calls Try.prog 13 #[.slice a len cap] w fun e w' => e = .returned (.bool true) ∧ w = w' := by
  have h' : (1048576 : Int) < (len : Int) := by omega
  go_enter Try.func13, Try.ntmps13
  go_wp2
  go_ret
  exact ⟨by simp, rfl⟩

set_option maxHeartbeats 1600000 in
theorem drawRot (a : Option Addr) (len cap : Nat) (l : List Int) (w : World) (hl : len = l.length) (hr : Rd w a l) (hb : Bytes l) (hlen : len ≤ 1048576) :
    Calls Try.prog 20 #[.slice a len cap] w fun e w' => ∃ x n : Int, e = .returned (.tuple #[.int .i64 x, .int .i64 n]) ∧ -9223372036854775808 ≤ x ∧ x ≤ 9223372036854775807 ∧ Below w.heap.size w w' := by
  have HR : Hid (Rd w a l) := hr
  have HB : Hid (Bytes l) := hb
  have HL : Hid (len = l.length) := hl
  clear hr hb hl
  go_enter Try.func20, Try.ntmps20
  go_wp2_with fail
  refine (newCur a len cap l w HL.out HR.out HB.out hlen).mono ?_
  rintro e w1 ⟨p, rfl, r1⟩
  have R1 : Hid (Ready w a len cap l p w1) := r1
  clear r1 HR HB HL
  go_wp2_with fail
  refine (once R1.out 4 (by omega) (by omega)).mono ?_
  rintro e w2 ⟨ok, rfl, r2, _⟩
  have R2 : Hid (Ready w a len cap l p w2) := r2
  clear r2 R1
  cases ok
  · go_wp2_with fail
    refine (below R2.out 16777216 (by omega) (by omega)).mono ?_
    rintro e w3 ⟨x, rfl, x0, x1, r3, _⟩
    have R3 : Hid (Ready w a len cap l p w3) := r3
    clear r3 R2
    go_wp2_with fail
    refine (Draw.byteOf R3.out).mono ?_
    rintro e w4 ⟨y, rfl, y0, y1, r4, _⟩
    have R4 : Hid (Ready w a len cap l p w4) := r4
    clear r4 R3
    go_wp2_with fail
    refine (below R4.out 33 (by omega) (by omega)).mono ?_
    rintro e w5 ⟨n, rfl, n0, n1, r5, _⟩
    have R5 : Hid (Ready w a len cap l p w5) := r5
    clear r5 R4
    go_wp2
    go_ret2
    exact ⟨_, _, rfl, by omega, by omega, R5.out.hB⟩
  · go_wp2_with fail
    refine (odd R2.out).mono ?_
    rintro e w3 ⟨x, rfl, x0, x1, r3, _⟩
    have R3 : Hid (Ready w a len cap l p w3) := r3
    clear r3 R2
    go_wp2_with fail
    refine (odd R3.out).mono ?_
    rintro e w4 ⟨y, rfl, y0, y1, r4, _⟩
    have R4 : Hid (Ready w a len cap l p w4) := r4
    clear r4 R3
    go_wp2
    go_ret2
    exact ⟨_, _, rfl, x0, x1, R4.out.hB⟩

set_option maxHeartbeats 1600000 in
theorem drawAdd (a : Option Addr) (len cap : Nat) (l : List Int) (w : World) (hl : len = l.length) (hr : Rd w a l) (hb : Bytes l) (hlen : len ≤ 1048576) :
    Calls Try.prog 21 #[.slice a len cap] w fun e w' => ∃ x n : Int, e = .returned (.tuple #[.int .i64 x, .int .i64 n]) ∧ Below w.heap.size w w' := by
  have HR : Hid (Rd w a l) := hr
  have HB : Hid (Bytes l) := hb
  have HL : Hid (len = l.length) := hl
  clear hr hb hl
  go_enter Try.func21, Try.ntmps21
  go_wp2_with fail
  refine (newCur a len cap l w HL.out HR.out HB.out hlen).mono ?_
  rintro e w1 ⟨p, rfl, r1⟩
  have R1 : Hid (Ready w a len cap l p w1) := r1
  clear r1 HR HB HL
  go_wp2_with fail
  refine (once R1.out 3 (by omega) (by omega)).mono ?_
  rintro e w2 ⟨ok, rfl, r2, _⟩
  have R2 : Hid (Ready w a len cap l p w2) := r2
  clear r2 R1
  cases ok
  · go_wp2_with fail
    refine (below R2.out 16777216 (by omega) (by omega)).mono ?_
    rintro e w3 ⟨x, rfl, x0, x1, r3, _⟩
    have R3 : Hid (Ready w a len cap l p w3) := r3
    clear r3 R2
    go_wp2_with fail
    refine (below R3.out 16777216 (by omega) (by omega)).mono ?_
    rintro e w4 ⟨y, rfl, y0, y1, r4, _⟩
    have R4 : Hid (Ready w a len cap l p w4) := r4
    clear r4 R3
    go_wp2
    go_ret2
    exact ⟨_, _, rfl, R4.out.hB⟩
  · go_wp2_with fail
    refine (odd R2.out).mono ?_
    rintro e w3 ⟨x, rfl, x0, x1, r3, _⟩
    have R3 : Hid (Ready w a len cap l p w3) := r3
    clear r3 R2
    go_wp2_with fail
    refine (odd R3.out).mono ?_
    rintro e w4 ⟨y, rfl, y0, y1, r4, _⟩
    have R4 : Hid (Ready w a len cap l p w4) := r4
    clear r4 R3
    go_wp2
    go_ret2
    exact ⟨_, _, rfl, R4.out.hB⟩
end Go.Proofs.Ytdfjpmldcbbmkaa.DrawsW

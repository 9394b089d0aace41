/-
  What the laws' own test of a beginning answers where it is one; what DrawPutN and DrawGetN give; and that a number's bytes are that number, as far as they hold it.
-/
import Derived.Test.YtdfjpmldcbbmkaaDrawsW
import Derived.Test.YtdfjpmldcbbmkaaGet
import Derived.Laws.BytesArg
namespace Go.Proofs.Ytdfjpmldcbbmkaa.LawNums
open Go.RowKit Go.Proofs.Ytdfjpmldcbbmkaa.Mem Go.Proofs.Ytdfjpmldcbbmkaa.App Go.Proofs.Ytdfjpmldcbbmkaa.Draw Go.Proofs.Ytdfjpmldcbbmkaa.DrawsW Go.Proofs.Ytdfjpmldcbbmkaa.Get

theorem convert_row {w : World} {g c : Nat} {l : List Int} (h : Rd w (some ⟨g, 0, none⟩) l) (m : Nat) :
    (convert 22 9 (.slice (some ⟨g, 0, none⟩) l.length c)).run Try.prog (w.drewN m) = .ok (.string (strOfNums l)) (w.drewN m) :=
  run_convert_bytes_arg (P := Try.prog) (w.drewN m) 22 5 Try.underlying22 Try.underlying5 g 0 l.length c l rfl (fun i hi => by
    obtain ⟨b, off, e, _, hc⟩ := h i hi
    simp only [Option.some.injEq, Addr.mk.injEq, and_true] at e
    obtain ⟨rfl, rfl⟩ := e
    exact hc) 9 Try.underlying9

set_option maxHeartbeats 800000 in
theorem starts_yes (g c g2 c2 n n2 : Nat) (x y : List Int) (w : World) (hn : n = (x ++ y).length) (hn2 : n2 = x.length) (hc : n ≤ c) (h1 : Rd w (some ⟨g, 0, none⟩) (x ++ y)) (h2 : Rd w (some ⟨g2, 0, none⟩) x) (_hl : n ≤ 4194304) :
    Calls Try.prog 19 #[.slice (some ⟨g, 0, none⟩) n c, .slice (some ⟨g2, 0, none⟩) n2 c2] w fun e w' => e = .returned (.bool true) ∧ ∃ m, w' = w.drewN m := by
  have hx : Rd w (some ⟨g, 0, none⟩) x := by
    intro i hi
    obtain ⟨b, off, e, h, hh⟩ := h1 i (by simp; omega)
    refine ⟨b, off, e, h, ?_⟩
    rw [hh]
    simp [List.getD, List.getElem?_append, hi]
  have cv1 : ∀ m, (convert 22 9 (.slice (some ⟨g, 0, none⟩) n2 c)).run Try.prog (w.drewN m) = .ok (.string (strOfNums x)) (w.drewN m) := by
    subst hn2; exact fun m => convert_row hx m
  have cv2 : ∀ m, (convert 22 9 (.slice (some ⟨g2, 0, none⟩) n2 c2)).run Try.prog (w.drewN m) = .ok (.string (strOfNums x)) (w.drewN m) := by
    subst hn2; exact fun m => convert_row h2 m
  have h12 : n2 ≤ n := by rw [hn, hn2]; simp
  have h12I : (n2 : Int) ≤ (n : Int) := by omega
  clear hx h1 h2 hn hn2
  generalize strOfNums x = s at *
  go_enter Try.func19, Try.ntmps19
  go_wp2
  go_quiet (fail)
  go_wp2
  go_ret
  exact ⟨by simp, _, rfl⟩

set_option maxHeartbeats 1600000 in
theorem drawPutN (a : Option Addr) (len cap : Nat) (l : List Int) (w : World) (hl : len = l.length) (hr : Rd w a l) (hb : Bytes l) (hlen : len ≤ 1048576) :
    Calls Try.prog 14 #[.slice a len cap] w fun e w' => ∃ (g m c : Nat) (r : List Int) (n k : Int), e = .returned (.tuple #[.slice (some ⟨g, 0, none⟩) m c, .int .i64 n, .int .i64 k]) ∧ m = r.length ∧ m ≤ 1000 ∧ Bytes r ∧ -9223372036854775808 ≤ n ∧ n ≤ 9223372036854775807 ∧ w.heap.size ≤ g ∧ Row w' g c r ∧ Below w.heap.size w w' := by
  have HR : Hid (Rd w a l) := hr
  have HB : Hid (Bytes l) := hb
  have HL : Hid (len = l.length) := hl
  clear hr hb hl
  go_enter Try.func14, Try.ntmps14
  go_wp2_with fail
  refine (newCur a len cap l w HL.out HR.out HB.out hlen).mono ?_
  rintro e w1 ⟨p, rfl, r1⟩
  have R1 : Hid (Ready w a len cap l p w1) := r1
  have hp := r1.hp
  clear r1 HR HB HL
  go_wp2_with fail
  refine (below R1.out 4 (by omega) (by omega)).mono ?_
  rintro e w2 ⟨x, rfl, x0, x1, r2, _⟩
  have R2 : Hid (Ready w a len cap l p w2) := r2
  clear r2 R1
  obtain ⟨X, rfl⟩ := Int.eq_ofNat_of_zero_le x0
  go_wp2_with fail
  refine (bytesOf R2.out X (by omega)).mono ?_
  rintro e w3 ⟨g, c, r, rfl, e3, y3, g3, row3, r3, _⟩
  have hpg : g ≠ p := by have := R2.out.hc.lt; omega
  have hwg : w.heap.size ≤ g := Nat.le_trans R2.out.hB.size g3
  have R3 : Hid (Ready w a len cap l p w3) := r3
  have Q3 : Hid (Row w3 g c r) := row3
  have E3 : Hid (X = r.length) := e3
  have Y3 : Hid (Bytes r) := y3
  clear r3 row3 e3 y3 R2
  go_wp2_with fail
  refine (once R3.out 3 (by omega) (by omega)).mono ?_
  rintro e w4 ⟨ok, rfl, r4, b4⟩
  have R4 : Hid (Ready w a len cap l p w4) := r4
  have Q4 : Hid (Row w4 g c r) := Row.but Q3.out b4 hpg
  clear r4 b4 R3 Q3
  cases ok
  · go_wp2_with fail
    refine (below R4.out 16777216 (by omega) (by omega)).mono ?_
    rintro e w5 ⟨u, rfl, u0, u1, r5, b5⟩
    have R5 : Hid (Ready w a len cap l p w5) := r5
    have Q5 : Hid (Row w5 g c r) := Row.but Q4.out b5 hpg
    clear r5 b5 R4 Q4
    go_wp2_with fail
    refine (below R5.out 70000 (by omega) (by omega)).mono ?_
    rintro e w6 ⟨v, rfl, v0, v1, r6, b6⟩
    have R6 : Hid (Ready w a len cap l p w6) := r6
    have Q6 : Hid (Row w6 g c r) := Row.but Q5.out b6 hpg
    clear r6 b6 R5 Q5
    have huv0 : 0 ≤ u * (1 + v) := Int.mul_nonneg u0 (by omega)
    have huv1 : u * (1 + v) ≤ 16777216 * 70000 := Int.mul_le_mul (by omega) (by omega) (by omega) (by omega)
    generalize huv : u * (1 + v) = q at *
    go_wp2_with fail
    refine (below R6.out 6 (by omega) (by omega)).mono ?_
    rintro e w7 ⟨k, rfl, k0, k1, r7, b7⟩
    have R7 : Hid (Ready w a len cap l p w7) := r7
    have Q7 : Hid (Row w7 g c r) := Row.but Q6.out b7 hpg
    clear r7 b7 R6 Q6
    go_wp2
    go_ret3
    exact ⟨g, X, c, r, _, _, rfl, E3.out, by omega, Y3.out, by omega, by omega, hwg, Q7.out, R7.out.hB⟩
  · go_wp2_with fail
    refine (odd R4.out).mono ?_
    rintro e w5 ⟨u, rfl, u0, u1, r5, b5⟩
    have R5 : Hid (Ready w a len cap l p w5) := r5
    have Q5 : Hid (Row w5 g c r) := Row.but Q4.out b5 hpg
    clear r5 b5 R4 Q4
    go_wp2_with fail
    refine (below R5.out 9 (by omega) (by omega)).mono ?_
    rintro e w6 ⟨v, rfl, v0, v1, r6, b6⟩
    have R6 : Hid (Ready w a len cap l p w6) := r6
    have Q6 : Hid (Row w6 g c r) := Row.but Q5.out b6 hpg
    clear r6 b6 R5 Q5
    go_wp2
    go_ret3
    exact ⟨g, X, c, r, _, _, rfl, E3.out, by omega, Y3.out, u0, u1, hwg, Q6.out, R6.out.hB⟩

set_option maxHeartbeats 1600000 in
theorem drawGetN (a : Option Addr) (len cap : Nat) (l : List Int) (w : World) (hl : len = l.length) (hr : Rd w a l) (hb : Bytes l) (hlen : len ≤ 1048576) :
    Calls Try.prog 16 #[.slice a len cap] w fun e w' => ∃ (g m c : Nat) (r : List Int) (n k : Int), e = .returned (.tuple #[.slice (some ⟨g, 0, none⟩) m c, .int .i64 n, .int .i64 k]) ∧ m = r.length ∧ m ≤ 1000 ∧ m ≤ c ∧ Bytes r ∧ n ≤ 9223372036854775807 ∧ w.heap.size ≤ g ∧ Row w' g c r ∧ Below w.heap.size w w' := by
  have HR : Hid (Rd w a l) := hr
  have HB : Hid (Bytes l) := hb
  have HL : Hid (len = l.length) := hl
  clear hr hb hl
  go_enter Try.func16, Try.ntmps16
  go_wp2_with fail
  refine (newCur a len cap l w HL.out HR.out HB.out hlen).mono ?_
  rintro e w1 ⟨p, rfl, r1⟩
  have R1 : Hid (Ready w a len cap l p w1) := r1
  have hp := r1.hp
  clear r1 HR HB HL
  go_wp2_with fail
  refine (below R1.out 9 (by omega) (by omega)).mono ?_
  rintro e w2 ⟨x, rfl, x0, x1, r2, _⟩
  have R2 : Hid (Ready w a len cap l p w2) := r2
  clear r2 R1
  obtain ⟨X, rfl⟩ := Int.eq_ofNat_of_zero_le x0
  go_wp2_with fail
  refine (bytesOf R2.out X (by omega)).mono ?_
  rintro e w3 ⟨g, c, r, rfl, e3, y3, g3, row3, r3, _⟩
  have hpg : g ≠ p := by have := R2.out.hc.lt; omega
  have hwg : w.heap.size ≤ g := Nat.le_trans R2.out.hB.size g3
  have hXc : X ≤ c := by rw [e3]; exact row3.1
  have R3 : Hid (Ready w a len cap l p w3) := r3
  have Q3 : Hid (Row w3 g c r) := row3
  have E3 : Hid (X = r.length) := e3
  have Y3 : Hid (Bytes r) := y3
  clear r3 row3 e3 y3 R2
  go_wp2_with fail
  refine (intOfList (R3.out.alloc _) w3.heap.size 8 [0, 0, 1, 2, -1, 8, 9, 9223372036854775807] rfl (ints_new w3 _) (by have := R3.out.hc.lt; omega) (by omega) (by omega)).mono ?_
  rintro e w4 ⟨n, rfl, hn, r4, b4⟩
  have hnb : n ≤ 9223372036854775807 := by
    simp only [List.mem_cons, List.not_mem_nil, or_false] at hn
    omega
  have R4 : Hid (Ready w a len cap l p w4) := r4
  have Q4 : Hid (Row w4 g c r) := Row.but Q3.out (((But.refl p w3).alloc _).trans b4) hpg
  have HNB : Hid (n ≤ 9223372036854775807) := hnb
  clear r4 b4 R3 Q3 hn hnb
  go_wp2_with fail
  refine (intOfList (R4.out.alloc _) w4.heap.size 7 [1, 2, 4, 6, 0, 7, -1] rfl (ints_new w4 _) (by have := R4.out.hc.lt; omega) (by omega) (by omega)).mono ?_
  rintro e w5 ⟨k, rfl, hk, r5, b5⟩
  have R5 : Hid (Ready w a len cap l p w5) := r5
  have Q5 : Hid (Row w5 g c r) := Row.but Q4.out (((But.refl p w4).alloc _).trans b5) hpg
  clear r5 b5 R4 Q4 hk
  go_wp2
  go_ret3
  exact ⟨g, X, c, r, n, k, rfl, E3.out, by omega, hXc, Y3.out, HNB.out, hwg, Q5.out, R5.out.hB⟩
end Go.Proofs.Ytdfjpmldcbbmkaa.LawNums

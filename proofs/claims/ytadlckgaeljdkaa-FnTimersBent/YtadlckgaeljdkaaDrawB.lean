/-
  Further draws: a number out of a list, an odd number, bytes, and a new cursor. No value of a draw is told but its bounds.
-/
import Derived.Test.YtadlckgaeljdkaaDraw
namespace Go.Proofs.Ytadlckgaeljdkaa.Draw
open Go.RowKit Go.Proofs.Ytadlckgaeljdkaa.Mem Go.Proofs.Ytadlckgaeljdkaa.App

/-- A block of ints. -/
def IntsAt (w : World) (q : Nat) (L : List Int) : Prop := ∀ j, j < L.length → w.cell? ⟨q, j, none⟩ = some (.int .i64 (L.getD j 0))
set_option maxRecDepth 100000 in
theorem ints_new (w : World) (L : List Int) : IntsAt (w.alloc (.cells (L.map (Value.int .i64)).toArray 3)) w.heap.size L := by
  intro j hj
  rw [cell_of_row _ w.heap.size j _ _ (0, 0) (heap_alloc_new w _)]
  simp [List.getD, hj]
set_option maxRecDepth 100000 in
theorem IntsAt.but {w w' : World} {p q : Nat} {L : List Int} (h : IntsAt w q L) (b : But p w w') (hq : q ≠ p) : IntsAt w' q L := by
  intro j hj
  have := h j hj
  rw [World.cell?_of_block (w := w) (b.block q (World.block_lt_of_cell? w _ this) (by simp only [ne_eq, Option.some.injEq]; exact hq))]
  exact this

set_option maxRecDepth 100000 in
set_option maxHeartbeats 800000 in
theorem intOfList {W0 : World} {a : Option Addr} {len cap : Nat} {l : List Int} {p : Nat} {w : World} (h : Ready W0 a len cap l p w) (q n : Nat) (L : List Int) (hn : n = L.length) (hL : IntsAt w q L) (hq : q ≠ p) (h0 : 0 < n) (h1 : n ≤ 256) :
    Calls Try.prog 26 #[.pointer (some ⟨p, 0, none⟩), .slice (some ⟨q, 0, none⟩) n n] w fun e w' => ∃ x : Int, e = .returned (.int .i64 x) ∧ x ∈ L ∧ Ready W0 a len cap l p w' ∧ But p w w' := by
  have HR : Hid (Ready W0 a len cap l p w) := h
  have HL : Hid (IntsAt w q L) := hL
  have HN : Hid (n = L.length) := hn
  clear h hL hn
  go_enter Try.func26, Try.ntmps26
  go_wp2_with fail
  refine (below HR.out n (by omega) (by omega)).mono ?_
  rintro e w1 ⟨x, rfl, x0, x1, r1, b1⟩
  have R1 : Hid (Ready W0 a len cap l p w1) := r1
  have B1 : Hid (But p w w1) := b1
  obtain ⟨X, rfl⟩ := Int.eq_ofNat_of_zero_le x0
  have hX : X < L.length := by have := HN.out; omega
  have hc := (HL.out.but b1 hq) X hX
  have HM : Hid (L.getD X 0 ∈ L) := by
    show _ ∈ _
    simp [List.getD, hX]
  clear r1 b1 hX
  generalize L.getD X 0 = z at *
  go_wp2
  go_ret
  exact ⟨z, rfl, HM.out, R1.out, B1.out⟩

set_option maxRecDepth 100000 in
theorem but_grown {p g : Nat} {a b c : World} (h : But p a b) (k : b.grownBy c (some g)) (hg : a.heap.size ≤ g) : But p a c :=
  ⟨k.os.trans h.os, k.tape.trans h.tape, k.output.trans h.output, Nat.le_trans h.size k.size, fun i hi hne => (k.block i (Nat.lt_of_lt_of_le hi h.size) (by simp only [ne_eq, Option.some.injEq]; omega)).trans (h.block i hi hne)⟩

set_option maxRecDepth 100000 in
set_option maxHeartbeats 1600000 in
theorem newCur (a : Option Addr) (len cap : Nat) (l : List Int) (w : World) (hl : len = l.length) (hr : Rd w a l) (hb : Bytes l) (hlen : len ≤ 1048576) :
    Calls Try.prog 25 #[.slice a len cap] w fun e w' => ∃ p, e = .returned (.pointer (some ⟨p, 0, none⟩)) ∧ Ready w a len cap l p w' := by
  have HR : Hid (Rd w a l) := hr
  have HB : Hid (Bytes l) := hb
  have HL : Hid (len = l.length) := hl
  have hm := Bits.mask30
  clear hr hb hl
  go_enter Try.func25, Try.ntmps25
  go_wp2
  go_loop [3, 4] (fun v i => ∃ (k : Nat) (h : Int), k ≤ len ∧ k ≤ 4000 ∧ i = .int .i64 k ∧ v = .int .i64 h) (fun _ i => len - (intOf i).toNat)
  case atStart => exact ⟨0, _, Nat.zero_le _, Nat.zero_le _, rfl, rfl⟩
  case round =>
    obtain ⟨k, h, hk, hk4, rfl, rfl⟩ := hrel
    by_cases hlt : k < len
    · by_cases h4 : k < 4000
      · obtain ⟨b, off, rfl, hbl, hc⟩ := HR.out k (by have := HL.out; omega)
        generalize l.getD k 0 = z at *
        have hkI : (k : Int) < (len : Int) := by omega
        have h4I : (k : Int) < 4000 := by omega
        go_wp2
        go_round
        case rel => exact ⟨k + 1, _, by omega, by omega, by go_num, rfl⟩
        case measure => simp [intOf]; omega
      · have hkI : (k : Int) < (len : Int) := by omega
        have h4I : ¬ ((k : Int) < 4000) := by omega
        go_wp2
        go_ret
        exact ⟨w.heap.size, rfl, HL.out, HR.out, HB.out, hlen, (Below.refl _ _).alloc (Nat.le_refl _) _, Nat.le_refl _, ⟨0, h, by omega, by omega, heap_alloc_new w _⟩⟩
    · have hkI : ¬ ((k : Int) < (len : Int)) := by omega
      go_wp2
      go_ret
      exact ⟨w.heap.size, rfl, HL.out, HR.out, HB.out, hlen, (Below.refl _ _).alloc (Nat.le_refl _) _, Nat.le_refl _, ⟨0, h, by omega, by omega, heap_alloc_new w _⟩⟩
end Go.Proofs.Ytadlckgaeljdkaa.Draw

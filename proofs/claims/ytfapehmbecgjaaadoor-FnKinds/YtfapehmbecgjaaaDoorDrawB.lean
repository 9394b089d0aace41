/-
  Further draws: a number out of a list, an odd number, bytes, and a new cursor. No value of a draw is told but its bounds.
-/
import Derived.Test.YtfapehmbecgjaaaDoorDraw
namespace Go.Proofs.YtfapehmbecgjaaaDoor.Draw
open Go.RowKit Go.Proofs.YtfapehmbecgjaaaDoor.Mem Go.Proofs.YtfapehmbecgjaaaDoor.App

/-- A block of ints. -/
def IntsAt (w : World) (q : Nat) (L : List Int) : Prop := ∀ j, j < L.length → w.cell? ⟨q, j, none⟩ = some (.int .i64 (L.getD j 0))
theorem ints_new (w : World) (L : List Int) : IntsAt (w.alloc (.cells (L.map (Value.int .i64)).toArray 3)) w.heap.size L := by
  intro j hj
  rw [cell_of_row _ w.heap.size j _ _ (0, 0) (heap_alloc_new w _)]
  simp [List.getD, hj]
theorem IntsAt.but {w w' : World} {p q : Nat} {L : List Int} (h : IntsAt w q L) (b : But p w w') (hq : q ≠ p) : IntsAt w' q L := by
  intro j hj
  have := h j hj
  rw [World.cell?_of_block (w := w) (b.block q (World.block_lt_of_cell? w _ this) (by simp only [ne_eq, Option.some.injEq]; exact hq))]
  exact this

theorem but_grown {p g : Nat} {a b c : World} (h : But p a b) (k : b.grownBy c (some g)) (hg : a.heap.size ≤ g) : But p a c :=
  ⟨k.os.trans h.os, k.tape.trans h.tape, k.output.trans h.output, Nat.le_trans h.size k.size, fun i hi hne => (k.block i (Nat.lt_of_lt_of_le hi h.size) (by simp only [ne_eq, Option.some.injEq]; omega)).trans (h.block i hi hne)⟩

set_option maxRecDepth 100000 in
set_option maxHeartbeats 1600000 in
theorem newCur (a : Option Addr) (len cap : Nat) (l : List Int) (w : World) (hl : len = l.length) (hr : Rd w a l) (hb : Bytes l) (hlen : len ≤ 1048576) :
    Calls Tryd.prog 14 #[.slice a len cap] w fun e w' => ∃ p, e = .returned (.pointer (some ⟨p, 0, none⟩)) ∧ Ready w a len cap l p w' := by
  have HR : Hid (Rd w a l) := hr
  have HB : Hid (Bytes l) := hb
  have HL : Hid (len = l.length) := hl
  have hm := Bits.mask30
  clear hr hb hl
  go_enter Tryd.func14, Tryd.ntmps14
  go_wp2
  go_loop [3, 4] (fun v i => ∃ (k : Nat) (h : Int), k ≤ len ∧ k ≤ 4000 ∧ i = .int .i64 k ∧ v = .int .i64 h) (fun _ i => len - (intOf i).toNat)
  case atStart => exact ⟨0, _, Nat.zero_le _, Nat.zero_le _, rfl, rfl⟩
  case round =>
    obtain ⟨k, h, hk, hk4, rfl, rfl⟩ := hrel
    by_cases hlt : k < len
    · by_cases h4 : k < 4000
      · obtain ⟨b, off, rfl, hbl, hc⟩ := HR.out k (by have := HL.out; omega)
        generalize l.getD k 0 = z at *
        have hkI : (k : Int) < (len : Int) := by omega
        have h4I : (k : Int) < 4000 := by omega
        go_wp2
        go_round
        case rel => exact ⟨k + 1, _, by omega, by omega, by go_num, rfl⟩
        case measure => simp [intOf]; omega
      · have hkI : (k : Int) < (len : Int) := by omega
        have h4I : ¬ ((k : Int) < 4000) := by omega
        go_wp2
        go_ret
        exact ⟨w.heap.size, rfl, HL.out, HR.out, HB.out, hlen, (Below.refl _ _).alloc (Nat.le_refl _) _, Nat.le_refl _, ⟨0, h, by omega, by omega, heap_alloc_new w _⟩⟩
    · have hkI : ¬ ((k : Int) < (len : Int)) := by omega
      go_wp2
      go_ret
      exact ⟨w.heap.size, rfl, HL.out, HR.out, HB.out, hlen, (Below.refl _ _).alloc (Nat.le_refl _) _, Nat.le_refl _, ⟨0, h, by omega, by omega, heap_alloc_new w _⟩⟩
end Go.Proofs.YtfapehmbecgjaaaDoor.Draw

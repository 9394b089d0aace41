/-
  A list of texts in memory, and one of them drawn.
-/
import Derived.Test.YtfapehmbecgjaaaDoorDrawB
namespace Go.Proofs.YtfapehmbecgjaaaDoor.Strs
open Go.RowKit Go.Proofs.YtfapehmbecgjaaaDoor.Mem Go.Proofs.YtfapehmbecgjaaaDoor.App Go.Proofs.YtfapehmbecgjaaaDoor.Draw

def StrsAt (w : World) (q : Nat) (L : List ByteArray) : Prop := ∀ j, j < L.length → w.cell? ⟨q, j, none⟩ = some (.string (L.getD j ⟨#[]⟩))
theorem strs_new (w : World) (L : List ByteArray) : StrsAt (w.alloc (.cells (L.map Value.string).toArray 9)) w.heap.size L := by
  intro j hj
  rw [cell_of_row _ w.heap.size j _ _ (0, 0) (heap_alloc_new w _)]
  simp [List.getD, hj]
theorem StrsAt.but {w w' : World} {p q : Nat} {L : List ByteArray} (h : StrsAt w q L) (b : But p w w') (hq : q ≠ p) : StrsAt w' q L := by
  intro j hj
  have := h j hj
  rw [World.cell?_of_block (w := w) (b.block q (World.block_lt_of_cell? w _ this) (by simp only [ne_eq, Option.some.injEq]; exact hq))]
  exact this

set_option maxRecDepth 100000 in
set_option maxHeartbeats 800000 in
theorem strOfList {W0 : World} {a : Option Addr} {len cap : Nat} {l : List Int} {p : Nat} {w : World} (h : Ready W0 a len cap l p w) (q n : Nat) (L : List ByteArray) (hn : n = L.length) (hL : StrsAt w q L) (hq : q ≠ p) (h0 : 0 < n) (h1 : n ≤ 256) :
    Calls Tryd.prog 17 #[.pointer (some ⟨p, 0, none⟩), .slice (some ⟨q, 0, none⟩) n n] w fun e w' => ∃ x : ByteArray, e = .returned (.string x) ∧ x ∈ L ∧ Ready W0 a len cap l p w' ∧ But p w w' := by
  have HR : Hid (Ready W0 a len cap l p w) := h
  have HL : Hid (StrsAt w q L) := hL
  have HN : Hid (n = L.length) := hn
  clear h hL hn
  go_enter Tryd.func17, Tryd.ntmps17
  go_wp2_with fail
  refine (below HR.out n (by omega) (by omega)).mono ?_
  rintro e w1 ⟨x, rfl, x0, x1, r1, b1⟩
  have R1 : Hid (Ready W0 a len cap l p w1) := r1
  have B1 : Hid (But p w w1) := b1
  obtain ⟨X, rfl⟩ := Int.eq_ofNat_of_zero_le x0
  have hX : X < L.length := by have := HN.out; omega
  have hc := (HL.out.but b1 hq) X hX
  have HM : Hid (L.getD X ⟨#[]⟩ ∈ L) := by
    show _ ∈ _
    simp [List.getD, hX]
  clear r1 b1 hX
  generalize L.getD X ⟨#[]⟩ = z at *
  go_wp2
  go_ret
  exact ⟨z, rfl, HM.out, R1.out, B1.out⟩
end Go.Proofs.YtfapehmbecgjaaaDoor.Strs

/-
  A list of texts in memory, and one of them drawn.
-/
import Derived.Test.YtpgapjdejelajaaGreatDoorDrawB
namespace Go.Proofs.YtpgapjdejelajaaGreatDoor.Strs
open Go.RowKit Go.Proofs.YtpgapjdejelajaaGreatDoor.Mem Go.Proofs.YtpgapjdejelajaaGreatDoor.App Go.Proofs.YtpgapjdejelajaaGreatDoor.Draw

def StrsAt (w : World) (q : Nat) (L : List ByteArray) : Prop := ∀ j, j < L.length → w.cell? ⟨q, j, none⟩ = some (.string (L.getD j ⟨#[]⟩))
set_option maxRecDepth 100000 in
theorem strs_new (w : World) (L : List ByteArray) : StrsAt (w.alloc (.cells (L.map Value.string).toArray 9)) w.heap.size L := by
  intro j hj
  rw [cell_of_row _ w.heap.size j _ _ (0, 0) (heap_alloc_new w _)]
  simp [List.getD, hj]
set_option maxRecDepth 100000 in
theorem StrsAt.but {w w' : World} {p q : Nat} {L : List ByteArray} (h : StrsAt w q L) (b : But p w w') (hq : q ≠ p) : StrsAt w' q L := by
  intro j hj
  have := h j hj
  rw [World.cell?_of_block (w := w) (b.block q (World.block_lt_of_cell? w _ this) (by simp only [ne_eq, Option.some.injEq]; exact hq))]
  exact this

end Go.Proofs.YtpgapjdejelajaaGreatDoor.Strs

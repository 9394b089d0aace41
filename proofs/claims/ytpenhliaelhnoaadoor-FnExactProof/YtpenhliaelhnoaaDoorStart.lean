/-
  What impl's newSum and impl's and spec's Start answer: the eight words that a sum begins with, in new memory.
-/
import Derived.Test.YtpenhliaelhnoaaDoorWordsOf
namespace Go.Proofs.YtpenhliaelhnoaaDoor.Start
open Go.RowKit Go.Proofs.YtpenhliaelhnoaaDoor.Mem Go.Proofs.YtpenhliaelhnoaaDoor.MemI Go.Proofs.YtpenhliaelhnoaaDoor.Blk Go.Proofs.YtpenhliaelhnoaaDoor.App Go.Proofs.YtpenhliaelhnoaaDoor.Get Go.Proofs.YtpenhliaelhnoaaDoor.ShaP Go.Proofs.YtpenhliaelhnoaaDoor.Word Go.Proofs.YtpenhliaelhnoaaDoor.Bits Go.Proofs.YtpenhliaelhnoaaDoor.Sched Go.Proofs.YtpenhliaelhnoaaDoor.Words Go.Proofs.YtpenhliaelhnoaaDoor.WordsOf

/-- The cells of a sum. -/
def sumCells (h : List Int) (a : Option Addr) (m c : Nat) (n : Int) : List Value := h.map (Value.int .i64) ++ [.slice a m c, .int .i64 n]

set_option maxRecDepth 100000 in
theorem newSum (w : World) :
    Calls Tryd.prog 73 #[] w fun e w' => e = .returned (.pointer (some ⟨w.heap.size, 0, none⟩)) ∧ Blk w' w.heap.size 80 (sumCells start8 none 0 0 0) ∧ Below w.heap.size w w' := by
  go_enter Tryd.func73, Tryd.ntmps73
  go_wp2
  go_ret
  exact ⟨rfl, Blk.new w 80 (sumCells start8 none 0 0 0), (Below.refl _ _).alloc (Nat.le_refl _) _⟩

set_option maxRecDepth 100000 in
theorem specStart (w : World) :
    Calls Tryd.prog 78 #[] w fun e w' => e = .returned (.slice (some ⟨w.heap.size, 0, none⟩) 8 8) ∧ IRow w' w.heap.size 8 start8 ∧ Below w.heap.size w w' := by
  go_enter Tryd.func78, Tryd.ntmps78
  go_wp2
  go_ret
  exact ⟨rfl, irow_new w start8 (by simp [maxLen, start8]), (Below.refl _ _).alloc (Nat.le_refl _) _⟩

set_option maxRecDepth 100000 in
theorem specStartR (w : World) :
    Calls Tryd.prog 78 #[] w fun e w' => ∃ g m c, e = .returned (.slice (some ⟨g, 0, none⟩) m c) ∧ m = start8.length ∧ w.heap.size ≤ g ∧ IRow w' g c start8 ∧ Below w.heap.size w w' :=
  (specStart w).mono fun _ _ ⟨h1, h2, h3⟩ => ⟨w.heap.size, 8, 8, h1, rfl, Nat.le_refl _, h2, h3⟩
end Go.Proofs.YtpenhliaelhnoaaDoor.Start

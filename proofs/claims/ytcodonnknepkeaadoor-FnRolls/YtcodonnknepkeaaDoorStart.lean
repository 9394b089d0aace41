/-
  What impl's newSum and impl's and spec's Start answer: the eight words that a sum begins with, in new memory.
-/
import Derived.Test.YtcodonnknepkeaaDoorWordsOf
namespace Go.Proofs.YtcodonnknepkeaaDoor.Start
open Go.RowKit Go.Proofs.YtcodonnknepkeaaDoor.Mem Go.Proofs.YtcodonnknepkeaaDoor.MemI Go.Proofs.YtcodonnknepkeaaDoor.Blk Go.Proofs.YtcodonnknepkeaaDoor.App Go.Proofs.YtcodonnknepkeaaDoor.Get Go.Proofs.YtcodonnknepkeaaDoor.ShaP Go.Proofs.YtcodonnknepkeaaDoor.Word Go.Proofs.YtcodonnknepkeaaDoor.Bits Go.Proofs.YtcodonnknepkeaaDoor.Sched Go.Proofs.YtcodonnknepkeaaDoor.Words Go.Proofs.YtcodonnknepkeaaDoor.WordsOf

/-- The cells of a sum. -/
def sumCells (h : List Int) (a : Option Addr) (m c : Nat) (n : Int) : List Value := h.map (Value.int .i64) ++ [.slice a m c, .int .i64 n]

set_option maxRecDepth 100000 in
theorem newSum (w : World) :
    Calls Tryd.prog 56 #[] w fun e w' => e = .returned (.pointer (some ⟨w.heap.size, 0, none⟩)) ∧ Blk w' w.heap.size 76 (sumCells start8 none 0 0 0) ∧ Below w.heap.size w w' := by
  go_enter Tryd.func56, Tryd.ntmps56
  go_wp2
  go_ret
  exact ⟨rfl, Blk.new w 76 (sumCells start8 none 0 0 0), (Below.refl _ _).alloc (Nat.le_refl _) _⟩

set_option maxRecDepth 100000 in
theorem specStart (w : World) :
    Calls Tryd.prog 61 #[] w fun e w' => e = .returned (.slice (some ⟨w.heap.size, 0, none⟩) 8 8) ∧ IRow w' w.heap.size 8 start8 ∧ Below w.heap.size w w' := by
  go_enter Tryd.func61, Tryd.ntmps61
  go_wp2
  go_ret
  exact ⟨rfl, irow_new w start8 (by simp [maxLen, start8]), (Below.refl _ _).alloc (Nat.le_refl _) _⟩

set_option maxRecDepth 100000 in
theorem specStartR (w : World) :
    Calls Tryd.prog 61 #[] w fun e w' => ∃ g m c, e = .returned (.slice (some ⟨g, 0, none⟩) m c) ∧ m = start8.length ∧ w.heap.size ≤ g ∧ IRow w' g c start8 ∧ Below w.heap.size w w' :=
  (specStart w).mono fun _ _ ⟨h1, h2, h3⟩ => ⟨w.heap.size, 8, 8, h1, rfl, Nat.le_refl _, h2, h3⟩
end Go.Proofs.YtcodonnknepkeaaDoor.Start

/-
  What impl's newSum and impl's and spec's Start answer: the eight words that a sum begins with, in new memory.
-/
import Derived.Test.YtpgapjdejelajaaDoorWordsOf
namespace Go.Proofs.YtpgapjdejelajaaDoor.Start
open Go.RowKit Go.Proofs.YtpgapjdejelajaaDoor.Mem Go.Proofs.YtpgapjdejelajaaDoor.MemI Go.Proofs.YtpgapjdejelajaaDoor.Blk Go.Proofs.YtpgapjdejelajaaDoor.App Go.Proofs.YtpgapjdejelajaaDoor.Get Go.Proofs.YtpgapjdejelajaaDoor.ShaP Go.Proofs.YtpgapjdejelajaaDoor.Word Go.Proofs.YtpgapjdejelajaaDoor.Bits Go.Proofs.YtpgapjdejelajaaDoor.Sched Go.Proofs.YtpgapjdejelajaaDoor.Words Go.Proofs.YtpgapjdejelajaaDoor.WordsOf

/-- The cells of a sum. -/
def sumCells (h : List Int) (a : Option Addr) (m c : Nat) (n : Int) : List Value := h.map (Value.int .i64) ++ [.slice a m c, .int .i64 n]

set_option maxRecDepth 100000 in
theorem newSum (w : World) :
    Calls Tryd.prog 68 #[] w fun e w' => e = .returned (.pointer (some ⟨w.heap.size, 0, none⟩)) ∧ Blk w' w.heap.size 88 (sumCells start8 none 0 0 0) ∧ Below w.heap.size w w' := by
  go_enter Tryd.func68, Tryd.ntmps68
  go_wp2
  go_ret
  exact ⟨rfl, Blk.new w 88 (sumCells start8 none 0 0 0), (Below.refl _ _).alloc (Nat.le_refl _) _⟩

set_option maxRecDepth 100000 in
theorem specStart (w : World) :
    Calls Tryd.prog 63 #[] w fun e w' => e = .returned (.slice (some ⟨w.heap.size, 0, none⟩) 8 8) ∧ IRow w' w.heap.size 8 start8 ∧ Below w.heap.size w w' := by
  go_enter Tryd.func63, Tryd.ntmps63
  go_wp2
  go_ret
  exact ⟨rfl, irow_new w start8 (by simp [maxLen, start8]), (Below.refl _ _).alloc (Nat.le_refl _) _⟩

set_option maxRecDepth 100000 in
theorem specStartR (w : World) :
    Calls Tryd.prog 63 #[] w fun e w' => ∃ g m c, e = .returned (.slice (some ⟨g, 0, none⟩) m c) ∧ m = start8.length ∧ w.heap.size ≤ g ∧ IRow w' g c start8 ∧ Below w.heap.size w w' :=
  (specStart w).mono fun _ _ ⟨h1, h2, h3⟩ => ⟨w.heap.size, 8, 8, h1, rfl, Nat.le_refl _, h2, h3⟩
end Go.Proofs.YtpgapjdejelajaaDoor.Start

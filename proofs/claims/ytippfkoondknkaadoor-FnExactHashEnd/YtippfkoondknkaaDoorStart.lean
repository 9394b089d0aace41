/-
  What impl's newSum and impl's and spec's Start answer: the eight words that a sum begins with, in new memory.
-/
import Derived.Test.YtippfkoondknkaaDoorWordsOf
namespace Go.Proofs.YtippfkoondknkaaDoor.Start
open Go.RowKit Go.Proofs.YtippfkoondknkaaDoor.Mem Go.Proofs.YtippfkoondknkaaDoor.MemI Go.Proofs.YtippfkoondknkaaDoor.Blk Go.Proofs.YtippfkoondknkaaDoor.App Go.Proofs.YtippfkoondknkaaDoor.Get Go.Proofs.YtippfkoondknkaaDoor.ShaP Go.Proofs.YtippfkoondknkaaDoor.Word Go.Proofs.YtippfkoondknkaaDoor.Bits Go.Proofs.YtippfkoondknkaaDoor.Sched Go.Proofs.YtippfkoondknkaaDoor.Words Go.Proofs.YtippfkoondknkaaDoor.WordsOf

/-- The cells of a sum. -/
def sumCells (h : List Int) (a : Option Addr) (m c : Nat) (n : Int) : List Value := h.map (Value.int .i64) ++ [.slice a m c, .int .i64 n]

theorem newSum (w : World) :
    Calls Tryd.prog 56 #[] w fun e w' => e = .returned (.pointer (some ⟨w.heap.size, 0, none⟩)) ∧ Blk w' w.heap.size 69 (sumCells start8 none 0 0 0) ∧ Below w.heap.size w w' := by
  go_enter Tryd.func56, Tryd.ntmps56
  go_wp2
  go_ret
  exact ⟨rfl, Blk.new w 69 (sumCells start8 none 0 0 0), (Below.refl _ _).alloc (Nat.le_refl _) _⟩

theorem implStart (w : World) :
    Calls Tryd.prog 28 #[] w fun e w' => ∃ g c, e = .returned (.slice (some ⟨g, 0, none⟩) 8 c) ∧ w.heap.size ≤ g ∧ IRow w' g c start8 ∧ Below w.heap.size w w' := by
  go_enter Tryd.func28, Tryd.ntmps28
  go_wp2_with fail
  refine (newSum w).mono ?_
  rintro e w1 ⟨rfl, h1, h2⟩
  have H1 : Hid (Blk w1 w.heap.size 69 (sumCells start8 none 0 0 0)) := h1
  have H2 : Hid (Below w.heap.size w w1) := h2
  clear h1 h2
  go_wp2_with fail
  refine (listOf w.heap.size 69 start8 _ w1 H1.out rfl).mono ?_
  rintro e w2 ⟨g, c, rfl, h3, h4, h5⟩
  have H3 : Hid (w.heap.size ≤ g) := Nat.le_trans H2.out.size h3
  have H4 : Hid (IRow w2 g c start8) := h4
  have H5 : Hid (Below w.heap.size w w2) := H2.out.trans (h5.mono H2.out.size)
  clear h3 h4 h5
  go_wp2
  go_ret
  exact ⟨g, c, rfl, H3.out, H4.out, H5.out⟩

theorem specStart (w : World) :
    Calls Tryd.prog 60 #[] w fun e w' => e = .returned (.slice (some ⟨w.heap.size, 0, none⟩) 8 8) ∧ IRow w' w.heap.size 8 start8 ∧ Below w.heap.size w w' := by
  go_enter Tryd.func60, Tryd.ntmps60
  go_wp2
  go_ret
  exact ⟨rfl, irow_new w start8 (by simp [maxLen, start8]), (Below.refl _ _).alloc (Nat.le_refl _) _⟩

theorem implStartR (w : World) :
    Calls Tryd.prog 28 #[] w fun e w' => ∃ g m c, e = .returned (.slice (some ⟨g, 0, none⟩) m c) ∧ m = start8.length ∧ w.heap.size ≤ g ∧ IRow w' g c start8 ∧ Below w.heap.size w w' :=
  (implStart w).mono fun _ _ ⟨g, c, h1, h2, h3, h4⟩ => ⟨g, 8, c, h1, rfl, h2, h3, h4⟩
theorem specStartR (w : World) :
    Calls Tryd.prog 60 #[] w fun e w' => ∃ g m c, e = .returned (.slice (some ⟨g, 0, none⟩) m c) ∧ m = start8.length ∧ w.heap.size ≤ g ∧ IRow w' g c start8 ∧ Below w.heap.size w w' :=
  (specStart w).mono fun _ _ ⟨h1, h2, h3⟩ => ⟨w.heap.size, 8, 8, h1, rfl, Nat.le_refl _, h2, h3⟩
end Go.Proofs.YtippfkoondknkaaDoor.Start

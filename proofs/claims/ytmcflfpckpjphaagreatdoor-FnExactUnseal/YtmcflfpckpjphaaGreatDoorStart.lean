/-
  What impl's newSum and impl's and spec's Start answer: the eight words that a sum begins with, in new memory.
-/
import Derived.Test.YtmcflfpckpjphaaGreatDoorWordsOf
namespace Go.Proofs.YtmcflfpckpjphaaGreatDoor.Start
open Go.RowKit Go.Proofs.YtmcflfpckpjphaaGreatDoor.Mem Go.Proofs.YtmcflfpckpjphaaGreatDoor.MemI Go.Proofs.YtmcflfpckpjphaaGreatDoor.Blk Go.Proofs.YtmcflfpckpjphaaGreatDoor.App Go.Proofs.YtmcflfpckpjphaaGreatDoor.Get Go.Proofs.YtmcflfpckpjphaaGreatDoor.ShaP Go.Proofs.YtmcflfpckpjphaaGreatDoor.Word Go.Proofs.YtmcflfpckpjphaaGreatDoor.Bits Go.Proofs.YtmcflfpckpjphaaGreatDoor.Sched Go.Proofs.YtmcflfpckpjphaaGreatDoor.Words Go.Proofs.YtmcflfpckpjphaaGreatDoor.WordsOf

/-- The cells of a sum. -/
def sumCells (h : List Int) (a : Option Addr) (m c : Nat) (n : Int) : List Value := h.map (Value.int .i64) ++ [.slice a m c, .int .i64 n]

set_option maxRecDepth 100000 in
theorem newSum (w : World) :
    Calls Tryz.prog 148 #[] w fun e w' => e = .returned (.pointer (some ⟨w.heap.size, 0, none⟩)) ∧ Blk w' w.heap.size 191 (sumCells start8 none 0 0 0) ∧ Below w.heap.size w w' := by
  go_enter Tryz.func148, Tryz.ntmps148
  go_wp2
  go_ret
  exact ⟨rfl, Blk.new w 191 (sumCells start8 none 0 0 0), (Below.refl _ _).alloc (Nat.le_refl _) _⟩

set_option maxRecDepth 100000 in
theorem specStart (w : World) :
    Calls Tryz.prog 164 #[] w fun e w' => e = .returned (.slice (some ⟨w.heap.size, 0, none⟩) 8 8) ∧ IRow w' w.heap.size 8 start8 ∧ Below w.heap.size w w' := by
  go_enter Tryz.func164, Tryz.ntmps164
  go_wp2
  go_ret
  exact ⟨rfl, irow_new w start8 (by simp [maxLen, start8]), (Below.refl _ _).alloc (Nat.le_refl _) _⟩

set_option maxRecDepth 100000 in
theorem specStartR (w : World) :
    Calls Tryz.prog 164 #[] w fun e w' => ∃ g m c, e = .returned (.slice (some ⟨g, 0, none⟩) m c) ∧ m = start8.length ∧ w.heap.size ≤ g ∧ IRow w' g c start8 ∧ Below w.heap.size w w' :=
  (specStart w).mono fun _ _ ⟨h1, h2, h3⟩ => ⟨w.heap.size, 8, 8, h1, rfl, Nat.le_refl _, h2, h3⟩
end Go.Proofs.YtmcflfpckpjphaaGreatDoor.Start

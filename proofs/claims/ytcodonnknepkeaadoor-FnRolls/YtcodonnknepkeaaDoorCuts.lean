/-
  What impl's and spec's Cut answer at every slice of at most 4,194,304 bytes that is not nil and every two ints: the same bytes, in new memory, and the same word on whether they were there.
-/
import Derived.Test.YtcodonnknepkeaaDoorGet
namespace Go.Proofs.YtcodonnknepkeaaDoor.Cuts
open Go.RowKit Go.Proofs.YtcodonnknepkeaaDoor.Mem Go.Proofs.YtcodonnknepkeaaDoor.App Go.Proofs.YtcodonnknepkeaaDoor.Get

/-- What is cut out: the bytes, where they are there; else none. -/
def cutOf (l : List Int) (i k : Int) : List Int := if there l.length i k = true then piece l i.toNat k.toNat else []
set_option maxRecDepth 100000 in
theorem cutOf_length (l : List Int) (i k : Int) : (cutOf l i k).length ≤ l.length := by
  unfold cutOf piece; split
  · rw [List.length_take, List.length_drop]; omega
  · simp

set_option maxRecDepth 100000 in
theorem rd_piece {w : World} {b off : Nat} {l : List Int} (h : Rd w (some ⟨b, off, none⟩) l) (i k : Nat) (hk : i + k ≤ l.length) : Rd w (some ⟨b, off + i, none⟩) (piece l i k) := by
  intro j hj
  rw [piece_length l i k hk] at hj
  obtain ⟨b', off', e, h1, h2⟩ := h (i + j) (by omega)
  simp only [Option.some.injEq, Addr.mk.injEq, and_true] at e
  obtain ⟨rfl, rfl⟩ := e
  refine ⟨b, off + i, rfl, h1, ?_⟩
  have e : (piece l i k).getD j 0 = l.getD (i + j) 0 := by simp [piece, List.getD, hj]
  rw [e, Nat.add_assoc]
  exact h2

set_option maxRecDepth 100000 in
theorem there_flip (len : Nat) (i k : Int) (h : k < 0 ∨ i < 0 ∨ (len : Int) < k ∨ (len : Int) - k < i) : there len i k = false := there_no (by omega)

end Go.Proofs.YtcodonnknepkeaaDoor.Cuts

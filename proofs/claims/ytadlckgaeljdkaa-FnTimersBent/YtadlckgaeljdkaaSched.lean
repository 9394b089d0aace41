/-
  What impl's and spec's Schedule answer at every slice of bytes of at most 4,194,304: the same words, in new memory.
-/
import Derived.Test.YtadlckgaeljdkaaPads
import Derived.Test.YtadlckgaeljdkaaWord
import Derived.Deep.RegionWith
namespace Go.Proofs.Ytadlckgaeljdkaa.Sched
open Go.RowKit Go.Proofs.Ytadlckgaeljdkaa.Mem Go.Proofs.Ytadlckgaeljdkaa.MemI Go.Proofs.Ytadlckgaeljdkaa.Blk Go.Proofs.Ytadlckgaeljdkaa.App Go.Proofs.Ytadlckgaeljdkaa.Get Go.Proofs.Ytadlckgaeljdkaa.ShaP Go.Proofs.Ytadlckgaeljdkaa.Word Go.Proofs.Ytadlckgaeljdkaa.Bits

abbrev z64 : List Int := List.replicate 64 0
/-- k cells filled, the rest 0. -/
def filled (l : List Int) : List Int := l ++ List.replicate (64 - l.length) 0
set_option maxRecDepth 100000 in
theorem filled_set (l : List Int) (z : Int) (h : l.length < 64) : (filled l).set l.length z = filled (l ++ [z]) := by
  unfold filled
  rw [List.set_append, if_neg (by omega), Nat.sub_self, List.length_append, show 64 - l.length = (64 - (l.length + [z].length)) + 1 by simp; omega, List.replicate_succ]
  simp
set_option maxRecDepth 100000 in
theorem filled_length (l : List Int) (h : l.length ≤ 64) : (filled l).length = 64 := by simp [filled]; omega
set_option maxRecDepth 100000 in
theorem filled_getD (l : List Int) (i : Nat) (h : i < l.length) : (filled l).getD i 0 = l.getD i 0 := by simp [filled, List.getD, List.getElem?_append, h]

set_option maxRecDepth 100000 in
theorem blk_setRow {w : World} {g : Nat} {t : TypeId} {cs : List Value} (h : Blk w g t cs) (c' : Array Value) {l : List Value} (e : c' = l.toArray) : Blk (w.setRow g c') g t l := by
  subst e
  unfold Blk at *
  show (w.heap.modify g _)[g]? = _
  rw [Array.getElem?_modify, if_pos rfl, h]; rfl
set_option maxRecDepth 100000 in
theorem below_setRow (w : World) {B g : Nat} (h : B ≤ g) (c' : Array Value) : Below B w (w.setRow g c') := by
  refine ⟨rfl, rfl, rfl, ?_, fun k hk => ?_⟩
  · show w.heap.size ≤ (w.heap.modify g _).size
    rw [Array.size_modify]; exact Nat.le_refl _
  · show (w.heap.modify g _)[k]? = _
    rw [Array.getElem?_modify, if_neg (by omega)]

end Go.Proofs.Ytadlckgaeljdkaa.Sched

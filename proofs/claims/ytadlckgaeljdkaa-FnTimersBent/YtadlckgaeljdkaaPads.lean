/-
  What impl's and spec's Pad answer at every int: the same bytes, in new memory.
-/
import Derived.Test.YtadlckgaeljdkaaShaP
import Derived.Test.YtadlckgaeljdkaaBlk
namespace Go.Proofs.Ytadlckgaeljdkaa.Pads
open Go.RowKit Go.Proofs.Ytadlckgaeljdkaa.Mem Go.Proofs.Ytadlckgaeljdkaa.App Go.Proofs.Ytadlckgaeljdkaa.Get Go.Proofs.Ytadlckgaeljdkaa.ShaP

/-- Whether n may be a text's length. -/
def isLen (n : Int) : Bool := decide (0 ≤ n ∧ n ≤ 1048576)
set_option maxRecDepth 100000 in
theorem isLen_yes {n : Int} (h : 0 ≤ n ∧ n ≤ 1048576) : isLen n = true := by simpa [isLen] using h
set_option maxRecDepth 100000 in
theorem isLen_no {n : Int} (h : ¬ (0 ≤ n ∧ n ≤ 1048576)) : isLen n = false := by unfold isLen; exact decide_eq_false h

def padI (n : Int) : List Int := if 0 ≤ n ∧ n ≤ 1048576 then padOf n.toNat else []
set_option maxRecDepth 100000 in
theorem padI_length (n : Int) : (padI n).length ≤ 72 := by
  unfold padI; split
  · rw [padOf_length]; omega
  · simp

def lenOf : Value → Nat
  | .slice _ n _ => n
  | _ => 0

end Go.Proofs.Ytadlckgaeljdkaa.Pads

/-
  One operation of a region that draws its order: a call of a Go function, by its contract.
-/
import Derived.Test.YtadlckgaeljdkaaCopy
import Derived.Deep.CutBlock
namespace Go.Proofs.Ytadlckgaeljdkaa.Ops
open Go.RowKit Go.Proofs.Ytadlckgaeljdkaa.Mem Go.Proofs.Ytadlckgaeljdkaa.App Go.Proofs.Ytadlckgaeljdkaa.Blk Go.Proofs.Ytadlckgaeljdkaa.Each Go.Proofs.Ytadlckgaeljdkaa.Copy

set_option maxRecDepth 100000 in
theorem op_call {P : Program} {ops : Array Oper} {Q : Exit → Act → World → Prop} {i : Nat} {o : Oper} {K : Act → World → Prop} {a : Act} {w : World} {f : FuncId} {args : Array Value} {R : Ending → World → Prop}
    (hi : ops[i]? = some o) (hg : o.guard = none) (hr : (execOp a.eval o).run P w = .ok (.enter f args) w) (hc : Calls P f args w R)
    (hk : ∀ e w', R e w' → ∃ v, e = .returned v ∧ K (a.put o.dst v) w') : wpOp P ops Q i K a w := by
  refine op_wp hi hg ?_
  unfold Oper.wp
  rw [hr]
  refine hc.mono ?_
  intro e w' h
  obtain ⟨v, rfl, h2⟩ := hk e w' h
  exact h2
end Go.Proofs.Ytadlckgaeljdkaa.Ops

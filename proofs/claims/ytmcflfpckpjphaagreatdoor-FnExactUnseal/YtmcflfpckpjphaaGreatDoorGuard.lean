/-
  One operation of a region that draws its order, under a guard: it runs where its guard holds; else its slot is left undefined.
-/
import Derived.Test.YtmcflfpckpjphaaGreatDoorOps
namespace Go.Proofs.YtmcflfpckpjphaaGreatDoor.Guard
open Go.RowKit Go.Proofs.YtmcflfpckpjphaaGreatDoor.Each Go.Proofs.YtmcflfpckpjphaaGreatDoor.Copy

set_option maxRecDepth 100000 in
theorem wanted_eval {ops : Array Oper} {o : Oper} {a : Act} {j d : Nat} {want b : Bool} (hg : o.guard = some (j, want)) (hd : (ops[j]?).bind (·.dst) = some d) (hv : a.eval (.tmp d) = .bool b) :
    Region.wanted o (yielded ops a.tmps) = (b == want) := by
  have hv' : a.tmps.getD d undef = .bool b := hv
  have ht : a.tmps[d]? = some (.bool b) := by
    cases h : a.tmps[d]? with
    | none =>
      rw [Array.getD_eq_getD_getElem?, h] at hv'
      cases hv'
    | some v =>
      rw [Array.getD_eq_getD_getElem?, h] at hv'
      have hv2 : v = .bool b := hv'
      rw [hv2]
  have hy : yielded ops a.tmps j = some b := by
    unfold yielded
    generalize hx : (ops[j]?).bind (·.dst) = x at *
    subst hd
    simp [ht]
  unfold Region.wanted
  rw [hg]
  show (yielded ops a.tmps j == some want) = _
  rw [hy]
  cases b <;> cases want <;> rfl
set_option maxRecDepth 100000 in
theorem wanted_true {ops : Array Oper} {o : Oper} {a : Act} {j d : Nat} {want : Bool} (hg : o.guard = some (j, want)) (hd : (ops[j]?).bind (·.dst) = some d) (hv : a.eval (.tmp d) = .bool want) :
    Region.wanted o (yielded ops a.tmps) = true := by
  rw [wanted_eval hg hd hv]
  cases want <;> rfl
set_option maxRecDepth 100000 in
theorem wanted_false {ops : Array Oper} {o : Oper} {a : Act} {j d : Nat} {want b : Bool} (hg : o.guard = some (j, want)) (hd : (ops[j]?).bind (·.dst) = some d) (hv : a.eval (.tmp d) = .bool b) (hn : (b == want) = false) :
    Region.wanted o (yielded ops a.tmps) = false := by
  rw [wanted_eval hg hd hv, hn]
set_option maxRecDepth 100000 in
theorem op_wp_g {P : Program} {ops : Array Oper} {Q : Exit → Act → World → Prop} {i : Nat} {o : Oper} {K : Act → World → Prop} {a : Act} {w : World}
    (hi : ops[i]? = some o) (hw : Region.wanted o (yielded ops a.tmps) = true) (h : Oper.wp P o a w K Q) : wpOp P ops Q i K a w := by
  unfold wpOp
  rw [hi]
  simp only [hw, if_true]
  exact .inl h
set_option maxRecDepth 100000 in
theorem op_run_g {P : Program} {ops : Array Oper} {Q : Exit → Act → World → Prop} {i : Nat} {o : Oper} {K : Act → World → Prop} {a : Act} {w w' : World} {v : Value}
    (hi : ops[i]? = some o) (hw : Region.wanted o (yielded ops a.tmps) = true) (hr : (execOp a.eval o).run P w = .ok (.value v) w') (hk : K (a.put o.dst v) w') : wpOp P ops Q i K a w := by
  refine op_wp_g hi hw ?_
  unfold Oper.wp
  rw [hr]
  exact hk
set_option maxRecDepth 100000 in
theorem op_call_g {P : Program} {ops : Array Oper} {Q : Exit → Act → World → Prop} {i : Nat} {o : Oper} {K : Act → World → Prop} {a : Act} {w : World} {f : FuncId} {args : Array Value} {R : Ending → World → Prop}
    (hi : ops[i]? = some o) (hw : Region.wanted o (yielded ops a.tmps) = true) (hr : (execOp a.eval o).run P w = .ok (.enter f args) w) (hc : Calls P f args w R)
    (hk : ∀ e w', R e w' → ∃ v, e = .returned v ∧ K (a.put o.dst v) w') : wpOp P ops Q i K a w := by
  refine op_wp_g hi hw ?_
  unfold Oper.wp
  rw [hr]
  refine hc.mono ?_
  intro e w' h
  obtain ⟨v, rfl, h2⟩ := hk e w' h
  exact h2
set_option maxRecDepth 100000 in
theorem op_skip {P : Program} {ops : Array Oper} {Q : Exit → Act → World → Prop} {i : Nat} {o : Oper} {K : Act → World → Prop} {a : Act} {w : World}
    (hi : ops[i]? = some o) (hw : Region.wanted o (yielded ops a.tmps) = false) (hk : K (a.put o.dst undef) w) : wpOp P ops Q i K a w := by
  unfold wpOp
  rw [hi]
  simp only [hw]
  exact hk
end Go.Proofs.YtmcflfpckpjphaaGreatDoor.Guard

/-
  Of every timer and at every time the program's next timer, and what it tells to do, are the specification's.
-/
import Derived.Test.YtadlckgaeljdkaaRows
import Derived.Test.YtadlckgaeljdkaaMem
import Derived.Test.YtadlckgaeljdkaaBits
import Derived.Test.YtadlckgaeljdkaaApp
import Derived.Test.YtadlckgaeljdkaaGet
import Derived.Test.YtadlckgaeljdkaaShaP
import Derived.Test.YtadlckgaeljdkaaMemI
import Derived.Test.YtadlckgaeljdkaaBlk
import Derived.Test.YtadlckgaeljdkaaPads
import Derived.Test.YtadlckgaeljdkaaWord
import Derived.Test.YtadlckgaeljdkaaSched
import Derived.Test.YtadlckgaeljdkaaWords
import Derived.Test.YtadlckgaeljdkaaTmP
import Derived.Test.YtadlckgaeljdkaaRes
import Derived.Test.YtadlckgaeljdkaaTmE
import Derived.Test.YtadlckgaeljdkaaTmI
import Derived.Test.YtadlckgaeljdkaaTmS
import Derived.Test.YtadlckgaeljdkaaTmL
import Derived.Test.YtadlckgaeljdkaaLawTimerNext
import Derived.Test.YtadlckgaeljdkaaTmF
import Derived.WalkKit
import Derived.ProofKit
import Derived.OpenShut
import Derived.ShutString
import Derived.ChangeOld
import Derived.Below
namespace Go.Proofs.Ytadlckgaeljdkaa.fnExactTimerNext
open Go.ChangeShapes Go.WideShapes Go.ChangeAt Go.RowKit
open Go.ChangeMaps (open_string)
set_option linter.unusedVariables false

theorem own : ownKnob Try.prog.godebug = none := by kernel_rfl
theorem laidOut : laidOutB Try.prog = true := by kernel_rfl

theorem walk (D0 : TmP.TmD) (a1 : Int) (w : World) (w1 : (Lit.int .i64 a1).wf = true) :
    Calls Try.prog 8 #[TmP.tmV D0, .int .i64 a1] w fun e w' => e = .returned (.bool true) ∧ Below w.heap.size w w' := by
  exact LawTimerNext.walk D0 a1 w

set_option maxRecDepth 100000 in
theorem lifted (os : Os) (started : os.Started) (H : Type) (enc : TypeId × Value → H) :
    ReturnsInHanded {} Try.checked os 8 .any (Rows.fnExactTimerNextSpec.pre6 enc Try.prog Try.f8 Rows.fnExactTimerNextRow.domain false) (Rows.fnExactTimerNextSpec.post enc Try.prog Try.f8 false true false false) := by
  refine returnsInHanded_of_change (C := Try.checked) own started (by kernel_rfl) Try.func8
    (ChangeSpec.witness6 (enc := enc) (C := Try.checked) false ⟨#[], #[.agg #[.bool false, .int .i64 0, .int .i64 0, .int .i64 0], .int .i64 0], []⟩ 8 (by kernel_rfl) (by kernel_rfl) (by kernel_rfl) (by kernel_rfl)) ?_
  intro W base args ds gs before hval0 hW hcnd _
  have hval : ∀ (j : Nat) t v, Try.f8.params[j]? = some t → args[j]? = some v → Value.okWide Try.prog W .any base t v := hval0
  have hW' := hW
  obtain ⟨p, q, hA0, hV, rfl, hfz, hnd⟩ := hW
  have hA : DataW.TrodAll enc Try.prog W 0 (fun _ => true) true Try.f8.params.toList args.toList ds p := hA0
  rw [Try.params8] at hA hval
  obtain ⟨v0, vs0, d0, ds0, p0, q0, hargs, rfl, rfl, h0, r0⟩ := trodAll_cons hA
  obtain ⟨v1, vs1, d1, ds1, p1, q1, rfl, rfl, rfl, h1, r1⟩ := trodAll_cons r0
  obtain ⟨rfl, rfl, rfl⟩ := trodAll_nil r1
  obtain rfl : args = #[v0, v1] := by cases args; simp_all
  obtain ⟨rfl, rfl⟩ := trodVars_none hV
  have k0 := h0
  have lt0 : ∀ x ∈ p0, x.block < W.heap.size := by obtain ⟨m, hm⟩ := k0; exact DataW.trod_lt m _ _ _ hm
  obtain ⟨D0, rfl⟩ := TmF.open_it (hval 0 36 v0 rfl rfl) h0
  have k1 := h1
  have lt1 : ∀ x ∈ p1, x.block < W.heap.size := by obtain ⟨m, hm⟩ := k1; exact DataW.trod_lt m _ _ _ hm
  obtain ⟨a1, rfl, _, _, w1⟩ := open_int Try.underlying3 (hval 1 3 v1 rfl rfl) h1
  clear hA0 hval0
  refine (walk D0 a1 W w1).mono fun e W' ⟨he, bel⟩ => ?_
  subst he
  exact ⟨_, rfl, _, _, _, [], _, [], hW', trodAll_mk1 (shut_bool Try.underlying4 _), (trodAll_cons_mk (Below.trod laidOut (by kernel_rfl) (of_decide_eq_true (by kernel_rfl)) k0 bel lt0) (trodAll_cons_mk (Below.trod laidOut (by kernel_rfl) (of_decide_eq_true (by kernel_rfl)) k1 bel lt1) trodAll_mk0)), rfl, bel.frame _, fun h => by cases h⟩

theorem over : Rows.fnExactTimerNextRow.holds Try.pinned (OpenSpec.ofChange Rows.fnExactTimerNextSpec) :=
  OpenClaim.holds_of_wide 8 Try.f8 rfl rfl rfl rfl rfl rfl rfl ⟨rfl, rfl, rfl, rfl, rfl⟩ rfl rfl rfl rfl rfl (by kernel_rfl) Try.func8 (by kernel_rfl)
    (of_decide_eq_true (by kernel_rfl)) (by unfold Func.isWrapper; first | (rw [if_pos (by decide +kernel)]; kernel_rfl) | (rw [if_neg (by decide +kernel)]; exact ⟨rfl, rfl⟩))
    (fun os started H enc _ => lifted os started H enc)

theorem proved : Rows.FnExactTimerNextSaid := over
end Go.Proofs.Ytadlckgaeljdkaa.fnExactTimerNext
namespace Go.Proofs.Ytadlckgaeljdkaa
theorem fnExactTimerNext_holds : Rows.FnExactTimerNextSaid := fnExactTimerNext.proved
#print axioms fnExactTimerNext_holds
end Go.Proofs.Ytadlckgaeljdkaa

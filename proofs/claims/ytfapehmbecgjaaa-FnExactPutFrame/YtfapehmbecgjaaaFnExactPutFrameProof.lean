/-
  At every Frame FnExactPutFrame answers true: impl.PutFrame answers as spec.PutFrame, byte by byte, in new memory of its own; nothing that was there is written.
-/
import Derived.Test.YtfapehmbecgjaaaRows
import Derived.Test.YtfapehmbecgjaaaMem
import Derived.Test.YtfapehmbecgjaaaMemI
import Derived.Test.YtfapehmbecgjaaaBits
import Derived.Test.YtfapehmbecgjaaaApp
import Derived.Test.YtfapehmbecgjaaaBlk
import Derived.Test.YtfapehmbecgjaaaZone
import Derived.Test.YtfapehmbecgjaaaZoneB
import Derived.Test.YtfapehmbecgjaaaRes
import Derived.Test.YtfapehmbecgjaaaFrZ
import Derived.Test.YtfapehmbecgjaaaGet
import Derived.Test.YtfapehmbecgjaaaShaP
import Derived.Test.YtfapehmbecgjaaaPads
import Derived.Test.YtfapehmbecgjaaaWord
import Derived.Test.YtfapehmbecgjaaaSched
import Derived.Test.YtfapehmbecgjaaaWords
import Derived.Test.YtfapehmbecgjaaaFrP
import Derived.Test.YtfapehmbecgjaaaFrS
import Derived.Test.YtfapehmbecgjaaaAppAt
import Derived.Test.YtfapehmbecgjaaaAppStep
import Derived.Test.YtfapehmbecgjaaaFrB
import Derived.Test.YtfapehmbecgjaaaFrPut
import Derived.Test.YtfapehmbecgjaaaDraw
import Derived.Test.YtfapehmbecgjaaaDrawB
import Derived.Test.YtfapehmbecgjaaaStrs
import Derived.Test.YtfapehmbecgjaaaFrK
import Derived.Test.YtfapehmbecgjaaaFrB2
import Derived.Test.YtfapehmbecgjaaaFrQ
import Derived.Test.YtfapehmbecgjaaaFrW
import Derived.Test.YtfapehmbecgjaaaFrW2
import Derived.Test.YtfapehmbecgjaaaFrT
import Derived.Test.YtfapehmbecgjaaaFrW3
import Derived.Test.YtfapehmbecgjaaaFrQ2
import Derived.Test.YtfapehmbecgjaaaSame
import Derived.Test.YtfapehmbecgjaaaFrE
import Derived.Test.YtfapehmbecgjaaaFrO
import Derived.Test.YtfapehmbecgjaaaFrO2
import Derived.Test.YtfapehmbecgjaaaFrQ3
import Derived.Test.YtfapehmbecgjaaaFrI
import Derived.Test.YtfapehmbecgjaaaEach
import Derived.Test.YtfapehmbecgjaaaCopy
import Derived.Test.YtfapehmbecgjaaaOps
import Derived.Test.YtfapehmbecgjaaaLawPutFrame
import Derived.Test.YtfapehmbecgjaaaFrF
import Derived.WalkKit
import Derived.ProofKit
import Derived.OpenShut
import Derived.ShutString
import Derived.ChangeOld
import Derived.Below
namespace Go.Proofs.Ytfapehmbecgjaaa.fnExactPutFrame
open Go.ChangeShapes Go.WideShapes Go.ChangeAt Go.RowKit
open Go.ChangeMaps (open_string)
set_option linter.unusedVariables false

theorem own : ownKnob Try.prog.godebug = none := by kernel_rfl
theorem laidOut : laidOutB Try.prog = true := by kernel_rfl

theorem walk (D0 : FrZ.FrD) (S0 : FrZ.FrS) (w : World) (w0 : FrZ.FrRd w S0 D0) (m0 : FrZ.FrSmall S0) :
    Calls Try.prog 7 #[FrZ.frV D0 S0] w fun e w' => e = .returned (.bool true) ∧ Below w.heap.size w w' := by
  exact LawPutFrame.walk D0 S0 w w0 m0

set_option maxRecDepth 100000 in
theorem lifted (os : Os) (started : os.Started) (H : Type) (enc : TypeId × Value → H) :
    ReturnsInHanded {} Try.checked os 7 .any (Rows.fnExactPutFrameSpec.pre6 enc Try.prog Try.f7 Rows.fnExactPutFrameRow.domain false) (Rows.fnExactPutFrameSpec.post enc Try.prog Try.f7 false true false false) := by
  refine returnsInHanded_of_change (C := Try.checked) own started (by kernel_rfl) Try.func7
    (ChangeSpec.witness6 (enc := enc) (C := Try.checked) false ⟨#[], #[.agg #[.int .i64 0, .int .i64 0, .slice none 0 0, .slice none 0 0, .int .i64 0, .slice none 0 0, .slice none 0 0, .int .i64 0, .int .i64 0, .slice none 0 0, .slice none 0 0]], []⟩ 8 (by kernel_rfl) (by kernel_rfl) (by kernel_rfl) (by kernel_rfl)) ?_
  intro W base args ds gs before hval0 hW hcnd _
  have hval : ∀ (j : Nat) t v, Try.f7.params[j]? = some t → args[j]? = some v → Value.okWide Try.prog W .any base t v := hval0
  have hW' := hW
  obtain ⟨p, q, hA0, hV, rfl, hfz, hnd⟩ := hW
  have hA : DataW.TrodAll enc Try.prog W 0 (fun _ => true) true Try.f7.params.toList args.toList ds p := hA0
  rw [Try.params7] at hA hval
  obtain ⟨v0, vs0, d0, ds0, p0, q0, hargs, rfl, rfl, h0, r0⟩ := trodAll_cons hA
  obtain ⟨rfl, rfl, rfl⟩ := trodAll_nil r0
  obtain rfl : args = #[v0] := by cases args; simp_all
  obtain ⟨rfl, rfl⟩ := trodVars_none hV
  have k0 := h0
  have lt0 : ∀ x ∈ p0, x.block < W.heap.size := by obtain ⟨m, hm⟩ := k0; exact DataW.trod_lt m _ _ _ hm
  obtain ⟨D0, S0, rfl, w0, m0⟩ := FrF.open_it (hval 0 36 v0 rfl rfl) h0
  clear hA0 hval0
  refine (walk D0 S0 W w0 m0).mono fun e W' ⟨he, bel⟩ => ?_
  subst he
  exact ⟨_, rfl, _, _, _, [], _, [], hW', trodAll_mk1 (shut_bool Try.underlying4 _), (trodAll_cons_mk (Below.trod laidOut (by kernel_rfl) (of_decide_eq_true (by kernel_rfl)) k0 bel lt0) trodAll_mk0), rfl, bel.frame _, fun h => by cases h⟩

theorem over : Rows.fnExactPutFrameRow.holds Try.pinned (OpenSpec.ofChange Rows.fnExactPutFrameSpec) :=
  OpenClaim.holds_of_wide 7 Try.f7 rfl rfl rfl rfl rfl rfl rfl ⟨rfl, rfl, rfl, rfl, rfl⟩ rfl rfl rfl rfl rfl (by kernel_rfl) Try.func7 (by kernel_rfl)
    (of_decide_eq_true (by kernel_rfl)) (by unfold Func.isWrapper; first | (rw [if_pos (by decide +kernel)]; kernel_rfl) | (rw [if_neg (by decide +kernel)]; exact ⟨rfl, rfl⟩))
    (fun os started H enc _ => lifted os started H enc)

theorem proved : Rows.FnExactPutFrameSaid := over
end Go.Proofs.Ytfapehmbecgjaaa.fnExactPutFrame
namespace Go.Proofs.Ytfapehmbecgjaaa
theorem fnExactPutFrame_holds : Rows.FnExactPutFrameSaid := fnExactPutFrame.proved
#print axioms fnExactPutFrame_holds
end Go.Proofs.Ytfapehmbecgjaaa

/-
  At every epoch impl.EpOk answers as its specification, and it writes into no argument; for every argument, without further conditions.
-/
import Derived.Test.YtmcflfpckpjphaaRows
import Derived.Test.YtmcflfpckpjphaaMem
import Derived.Test.YtmcflfpckpjphaaMemI
import Derived.Test.YtmcflfpckpjphaaBits
import Derived.Test.YtmcflfpckpjphaaApp
import Derived.Test.YtmcflfpckpjphaaBlk
import Derived.Test.YtmcflfpckpjphaaZone
import Derived.Test.YtmcflfpckpjphaaZoneB
import Derived.Test.YtmcflfpckpjphaaZoneI
import Derived.Test.YtmcflfpckpjphaaRes
import Derived.Test.YtmcflfpckpjphaaWnZ
import Derived.Test.YtmcflfpckpjphaaEpZ
import Derived.Test.YtmcflfpckpjphaaWnL2
import Derived.Test.YtmcflfpckpjphaaEpL
import Derived.Test.YtmcflfpckpjphaaEach
import Derived.Test.YtmcflfpckpjphaaCopy
import Derived.Test.YtmcflfpckpjphaaOps
import Derived.Test.YtmcflfpckpjphaaWnC
import Derived.Test.YtmcflfpckpjphaaWinP
import Derived.Test.YtmcflfpckpjphaaWinB
import Derived.Test.YtmcflfpckpjphaaWnI
import Derived.Test.YtmcflfpckpjphaaWnJ
import Derived.Test.YtmcflfpckpjphaaWnL
import Derived.Test.YtmcflfpckpjphaaWnS
import Derived.Test.YtmcflfpckpjphaaWnM
import Derived.Test.YtmcflfpckpjphaaWnK
import Derived.Test.YtmcflfpckpjphaaWnT
import Derived.Test.YtmcflfpckpjphaaWnU
import Derived.Test.YtmcflfpckpjphaaWnV
import Derived.Test.YtmcflfpckpjphaaWnG
import Derived.Test.YtmcflfpckpjphaaGet
import Derived.Test.YtmcflfpckpjphaaShaP
import Derived.Test.YtmcflfpckpjphaaPads
import Derived.Test.YtmcflfpckpjphaaWord
import Derived.Test.YtmcflfpckpjphaaSched
import Derived.Test.YtmcflfpckpjphaaWords
import Derived.Test.YtmcflfpckpjphaaEpP
import Derived.Test.YtmcflfpckpjphaaKeyI
import Derived.Test.YtmcflfpckpjphaaEpI
import Derived.Test.YtmcflfpckpjphaaEpS
import Derived.Test.YtmcflfpckpjphaaShp
import Derived.Test.YtmcflfpckpjphaaLawEpOk
import Derived.Test.YtmcflfpckpjphaaEpF
import Derived.WalkKit
import Derived.ProofKit
import Derived.OpenShut
import Derived.ShutString
import Derived.ChangeOld
import Derived.Below
namespace Go.Proofs.Ytmcflfpckpjphaa.fnExactEpOk
open Go.ChangeShapes Go.WideShapes Go.ChangeAt Go.RowKit
open Go.ChangeMaps (open_string)
set_option linter.unusedVariables false

theorem own : ownKnob Try.prog.godebug = none := by kernel_rfl
theorem laidOut : laidOutB Try.prog = true := by kernel_rfl

theorem walk (D0 : EpZ.EpD) (S0 : EpZ.EpS) (w : World) (w0 : EpZ.EpRd w S0 D0) (m0 : EpZ.EpSmall S0) :
    Calls Try.prog 8 #[EpZ.epV D0 S0] w fun e w' => e = .returned (.bool true) ∧ Below w.heap.size w w' := by
  exact LawEpOk.walk D0 S0 w w0 m0

set_option maxRecDepth 100000 in
theorem lifted (os : Os) (started : os.Started) (H : Type) (enc : TypeId × Value → H) :
    ReturnsInHanded {} Try.checked os 8 .any (Rows.fnExactEpOkSpec.pre6 enc Try.prog Try.f8 Rows.fnExactEpOkRow.domain false) (Rows.fnExactEpOkSpec.post enc Try.prog Try.f8 false true false false) := by
  refine returnsInHanded_of_change (C := Try.checked) own started (by kernel_rfl) Try.func8
    (ChangeSpec.witness6 (enc := enc) (C := Try.checked) false ⟨#[], #[.agg #[.int .i64 0, .slice none 0 0, .int .i64 0, .int .i64 0, .slice none 0 0]], []⟩ 8 (by kernel_rfl) (by kernel_rfl) (by kernel_rfl) (by kernel_rfl)) ?_
  intro W base args ds gs before hval0 hW hcnd _
  have hval : ∀ (j : Nat) t v, Try.f8.params[j]? = some t → args[j]? = some v → Value.okWide Try.prog W .any base t v := hval0
  have hW' := hW
  obtain ⟨p, q, hA0, hV, rfl, hfz, hnd⟩ := hW
  have hA : DataW.TrodAll enc Try.prog W 0 (fun _ => true) true Try.f8.params.toList args.toList ds p := hA0
  rw [Try.params8] at hA hval
  obtain ⟨v0, vs0, d0, ds0, p0, q0, hargs, rfl, rfl, h0, r0⟩ := trodAll_cons hA
  obtain ⟨rfl, rfl, rfl⟩ := trodAll_nil r0
  obtain rfl : args = #[v0] := by cases args; simp_all
  obtain ⟨rfl, rfl⟩ := trodVars_none hV
  have k0 := h0
  have lt0 : ∀ x ∈ p0, x.block < W.heap.size := by obtain ⟨m, hm⟩ := k0; exact DataW.trod_lt m _ _ _ hm
  obtain ⟨D0, S0, rfl, w0, m0⟩ := EpF.open_it (hval 0 61 v0 rfl rfl) h0
  clear hA0 hval0
  refine (walk D0 S0 W w0 m0).mono fun e W' ⟨he, bel⟩ => ?_
  subst he
  exact ⟨_, rfl, _, _, _, [], _, [], hW', trodAll_mk1 (shut_bool Try.underlying4 _), (trodAll_cons_mk (Below.trod laidOut (by kernel_rfl) (of_decide_eq_true (by kernel_rfl)) k0 bel lt0) trodAll_mk0), rfl, bel.frame _, fun h => by cases h⟩

theorem over : Rows.fnExactEpOkRow.holds Try.pinned (OpenSpec.ofChange Rows.fnExactEpOkSpec) :=
  OpenClaim.holds_of_wide 8 Try.f8 rfl rfl rfl rfl rfl rfl rfl ⟨rfl, rfl, rfl, rfl, rfl⟩ rfl rfl rfl rfl rfl (by kernel_rfl) Try.func8 (by kernel_rfl)
    (of_decide_eq_true (by kernel_rfl)) (by unfold Func.isWrapper; first | (rw [if_pos (by decide +kernel)]; kernel_rfl) | (rw [if_neg (by decide +kernel)]; exact ⟨rfl, rfl⟩))
    (fun os started H enc _ => lifted os started H enc)

theorem proved : Rows.FnExactEpOkSaid := over
end Go.Proofs.Ytmcflfpckpjphaa.fnExactEpOk
namespace Go.Proofs.Ytmcflfpckpjphaa
theorem fnExactEpOk_holds : Rows.FnExactEpOkSaid := fnExactEpOk.proved
#print axioms fnExactEpOk_holds
end Go.Proofs.Ytmcflfpckpjphaa

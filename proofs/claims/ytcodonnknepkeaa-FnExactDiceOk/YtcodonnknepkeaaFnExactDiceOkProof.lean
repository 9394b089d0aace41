/-
  At every dice impl.DiceOk answers as its specification, and it writes into no argument; for every argument, without further conditions.
-/
import Derived.Test.YtcodonnknepkeaaRows
import Derived.Test.YtcodonnknepkeaaMem
import Derived.Test.YtcodonnknepkeaaMemI
import Derived.Test.YtcodonnknepkeaaBits
import Derived.Test.YtcodonnknepkeaaApp
import Derived.Test.YtcodonnknepkeaaBlk
import Derived.Test.YtcodonnknepkeaaZone
import Derived.Test.YtcodonnknepkeaaZoneB
import Derived.Test.YtcodonnknepkeaaRes
import Derived.Test.YtcodonnknepkeaaDiZ
import Derived.Test.YtcodonnknepkeaaZoneI
import Derived.Test.YtcodonnknepkeaaDiL
import Derived.Test.YtcodonnknepkeaaGet
import Derived.Test.YtcodonnknepkeaaShaP
import Derived.Test.YtcodonnknepkeaaPads
import Derived.Test.YtcodonnknepkeaaWord
import Derived.Test.YtcodonnknepkeaaSched
import Derived.Test.YtcodonnknepkeaaWords
import Derived.Test.YtcodonnknepkeaaDiP
import Derived.Test.YtcodonnknepkeaaEach
import Derived.Test.YtcodonnknepkeaaCopy
import Derived.Test.YtcodonnknepkeaaOps
import Derived.Test.YtcodonnknepkeaaDiI
import Derived.Test.YtcodonnknepkeaaDiS
import Derived.Test.YtcodonnknepkeaaShp
import Derived.Test.YtcodonnknepkeaaLawDiceOk
import Derived.Test.YtcodonnknepkeaaDiF
import Derived.WalkKit
import Derived.ProofKit
import Derived.OpenShut
import Derived.ShutString
import Derived.ChangeOld
import Derived.Below
namespace Go.Proofs.Ytcodonnknepkeaa.fnExactDiceOk
open Go.ChangeShapes Go.WideShapes Go.ChangeAt Go.RowKit
open Go.ChangeMaps (open_string)
set_option linter.unusedVariables false

theorem own : ownKnob Try.prog.godebug = none := by kernel_rfl
theorem laidOut : laidOutB Try.prog = true := by kernel_rfl

theorem walk (D0 : DiZ.DiD) (S0 : DiZ.DiS) (w : World) (w0 : DiZ.DiRd w S0 D0) (m0 : DiZ.DiSmall S0) :
    Calls Try.prog 3 #[DiZ.diV D0 S0] w fun e w' => e = .returned (.bool true) ∧ Below w.heap.size w w' := by
  exact LawDiceOk.walk D0 S0 w w0 m0

set_option maxRecDepth 100000 in
theorem lifted (os : Os) (started : os.Started) (H : Type) (enc : TypeId × Value → H) :
    ReturnsInHanded {} Try.checked os 3 .any (Rows.fnExactDiceOkSpec.pre6 enc Try.prog Try.f3 Rows.fnExactDiceOkRow.domain false) (Rows.fnExactDiceOkSpec.post enc Try.prog Try.f3 false true false false) := by
  refine returnsInHanded_of_change (C := Try.checked) own started (by kernel_rfl) Try.func3
    (ChangeSpec.witness6 (enc := enc) (C := Try.checked) false ⟨#[], #[.agg #[.slice none 0 0, .int .i64 0]], []⟩ 8 (by kernel_rfl) (by kernel_rfl) (by kernel_rfl) (by kernel_rfl)) ?_
  intro W base args ds gs before hval0 hW hcnd _
  have hval : ∀ (j : Nat) t v, Try.f3.params[j]? = some t → args[j]? = some v → Value.okWide Try.prog W .any base t v := hval0
  have hW' := hW
  obtain ⟨p, q, hA0, hV, rfl, hfz, hnd⟩ := hW
  have hA : DataW.TrodAll enc Try.prog W 0 (fun _ => true) true Try.f3.params.toList args.toList ds p := hA0
  rw [Try.params3] at hA hval
  obtain ⟨v0, vs0, d0, ds0, p0, q0, hargs, rfl, rfl, h0, r0⟩ := trodAll_cons hA
  obtain ⟨rfl, rfl, rfl⟩ := trodAll_nil r0
  obtain rfl : args = #[v0] := by cases args; simp_all
  obtain ⟨rfl, rfl⟩ := trodVars_none hV
  have k0 := h0
  have lt0 : ∀ x ∈ p0, x.block < W.heap.size := by obtain ⟨m, hm⟩ := k0; exact DataW.trod_lt m _ _ _ hm
  obtain ⟨D0, S0, rfl, w0, m0⟩ := DiF.open_it (hval 0 24 v0 rfl rfl) h0
  clear hA0 hval0
  refine (walk D0 S0 W w0 m0).mono fun e W' ⟨he, bel⟩ => ?_
  subst he
  exact ⟨_, rfl, _, _, _, [], _, [], hW', trodAll_mk1 (shut_bool Try.underlying4 _), (trodAll_cons_mk (Below.trod laidOut (by kernel_rfl) (of_decide_eq_true (by kernel_rfl)) k0 bel lt0) trodAll_mk0), rfl, bel.frame _, fun h => by cases h⟩

theorem over : Rows.fnExactDiceOkRow.holds Try.pinned (OpenSpec.ofChange Rows.fnExactDiceOkSpec) :=
  OpenClaim.holds_of_wide 3 Try.f3 rfl rfl rfl rfl rfl rfl rfl ⟨rfl, rfl, rfl, rfl, rfl⟩ rfl rfl rfl rfl rfl (by kernel_rfl) Try.func3 (by kernel_rfl)
    (of_decide_eq_true (by kernel_rfl)) (by unfold Func.isWrapper; first | (rw [if_pos (by decide +kernel)]; kernel_rfl) | (rw [if_neg (by decide +kernel)]; exact ⟨rfl, rfl⟩))
    (fun os started H enc _ => lifted os started H enc)

theorem proved : Rows.FnExactDiceOkSaid := over
end Go.Proofs.Ytcodonnknepkeaa.fnExactDiceOk
namespace Go.Proofs.Ytcodonnknepkeaa
theorem fnExactDiceOk_holds : Rows.FnExactDiceOkSaid := fnExactDiceOk.proved
#print axioms fnExactDiceOk_holds
end Go.Proofs.Ytcodonnknepkeaa

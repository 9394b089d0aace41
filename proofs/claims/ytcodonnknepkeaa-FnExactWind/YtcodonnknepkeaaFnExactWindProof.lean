/-
  At every dice and number impl.Wind answers as its specification, it writes into no argument, keeps nothing of one, and its answer owns its memory, behind another call too; for every argument, without further conditions.
-/
import Derived.Test.YtcodonnknepkeaaRows
import Derived.Test.YtcodonnknepkeaaMem
import Derived.Test.YtcodonnknepkeaaMemI
import Derived.Test.YtcodonnknepkeaaBits
import Derived.Test.YtcodonnknepkeaaApp
import Derived.Test.YtcodonnknepkeaaBlk
import Derived.Test.YtcodonnknepkeaaZone
import Derived.Test.YtcodonnknepkeaaZoneB
import Derived.Test.YtcodonnknepkeaaRes
import Derived.Test.YtcodonnknepkeaaDiZ
import Derived.Test.YtcodonnknepkeaaZoneI
import Derived.Test.YtcodonnknepkeaaDiL
import Derived.Test.YtcodonnknepkeaaGet
import Derived.Test.YtcodonnknepkeaaShaP
import Derived.Test.YtcodonnknepkeaaPads
import Derived.Test.YtcodonnknepkeaaWord
import Derived.Test.YtcodonnknepkeaaSched
import Derived.Test.YtcodonnknepkeaaWords
import Derived.Test.YtcodonnknepkeaaDiP
import Derived.Test.YtcodonnknepkeaaEach
import Derived.Test.YtcodonnknepkeaaCopy
import Derived.Test.YtcodonnknepkeaaOps
import Derived.Test.YtcodonnknepkeaaDiI
import Derived.Test.YtcodonnknepkeaaDiS
import Derived.Test.YtcodonnknepkeaaShp
import Derived.Test.YtcodonnknepkeaaLawWind
import Derived.Test.YtcodonnknepkeaaDiF
import Derived.WalkKit
import Derived.ProofKit
import Derived.OpenShut
import Derived.ShutString
import Derived.ChangeOld
import Derived.Below
namespace Go.Proofs.Ytcodonnknepkeaa.fnExactWind
open Go.ChangeShapes Go.WideShapes Go.ChangeAt Go.RowKit
open Go.ChangeMaps (open_string)
set_option linter.unusedVariables false

theorem own : ownKnob Try.prog.godebug = none := by kernel_rfl
theorem laidOut : laidOutB Try.prog = true := by kernel_rfl

theorem walk (D0 : DiZ.DiD) (S0 : DiZ.DiS) (a1 : Int) (w : World) (w0 : DiZ.DiRd w S0 D0) (m0 : DiZ.DiSmall S0) (w1 : (Lit.int .i64 a1).wf = true) :
    Calls Try.prog 4 #[DiZ.diV D0 S0, .int .i64 a1] w fun e w' => e = .returned (.bool true) ∧ Below w.heap.size w w' := by
  exact LawWind.walk D0 S0 a1 w w0 m0

set_option maxRecDepth 100000 in
theorem lifted (os : Os) (started : os.Started) (H : Type) (enc : TypeId × Value → H) :
    ReturnsInHanded {} Try.checked os 4 .any (Rows.fnExactWindSpec.pre6 enc Try.prog Try.f4 Rows.fnExactWindRow.domain false) (Rows.fnExactWindSpec.post enc Try.prog Try.f4 false true false false) := by
  refine returnsInHanded_of_change (C := Try.checked) own started (by kernel_rfl) Try.func4
    (ChangeSpec.witness6 (enc := enc) (C := Try.checked) false ⟨#[], #[.agg #[.slice none 0 0, .int .i64 0], .int .i64 0], []⟩ 8 (by kernel_rfl) (by kernel_rfl) (by kernel_rfl) (by kernel_rfl)) ?_
  intro W base args ds gs before hval0 hW hcnd _
  have hval : ∀ (j : Nat) t v, Try.f4.params[j]? = some t → args[j]? = some v → Value.okWide Try.prog W .any base t v := hval0
  have hW' := hW
  obtain ⟨p, q, hA0, hV, rfl, hfz, hnd⟩ := hW
  have hA : DataW.TrodAll enc Try.prog W 0 (fun _ => true) true Try.f4.params.toList args.toList ds p := hA0
  rw [Try.params4] at hA hval
  obtain ⟨v0, vs0, d0, ds0, p0, q0, hargs, rfl, rfl, h0, r0⟩ := trodAll_cons hA
  obtain ⟨v1, vs1, d1, ds1, p1, q1, rfl, rfl, rfl, h1, r1⟩ := trodAll_cons r0
  obtain ⟨rfl, rfl, rfl⟩ := trodAll_nil r1
  obtain rfl : args = #[v0, v1] := by cases args; simp_all
  obtain ⟨rfl, rfl⟩ := trodVars_none hV
  have k0 := h0
  have lt0 : ∀ x ∈ p0, x.block < W.heap.size := by obtain ⟨m, hm⟩ := k0; exact DataW.trod_lt m _ _ _ hm
  obtain ⟨D0, S0, rfl, w0, m0⟩ := DiF.open_it (hval 0 24 v0 rfl rfl) h0
  have k1 := h1
  have lt1 : ∀ x ∈ p1, x.block < W.heap.size := by obtain ⟨m, hm⟩ := k1; exact DataW.trod_lt m _ _ _ hm
  obtain ⟨a1, rfl, _, _, w1⟩ := open_int Try.underlying3 (hval 1 3 v1 rfl rfl) h1
  clear hA0 hval0
  refine (walk D0 S0 a1 W w0 m0 w1).mono fun e W' ⟨he, bel⟩ => ?_
  subst he
  exact ⟨_, rfl, _, _, _, [], _, [], hW', trodAll_mk1 (shut_bool Try.underlying4 _), (trodAll_cons_mk (Below.trod laidOut (by kernel_rfl) (of_decide_eq_true (by kernel_rfl)) k0 bel lt0) (trodAll_cons_mk (Below.trod laidOut (by kernel_rfl) (of_decide_eq_true (by kernel_rfl)) k1 bel lt1) trodAll_mk0)), rfl, bel.frame _, fun h => by cases h⟩

theorem over : Rows.fnExactWindRow.holds Try.pinned (OpenSpec.ofChange Rows.fnExactWindSpec) :=
  OpenClaim.holds_of_wide 4 Try.f4 rfl rfl rfl rfl rfl rfl rfl ⟨rfl, rfl, rfl, rfl, rfl⟩ rfl rfl rfl rfl rfl (by kernel_rfl) Try.func4 (by kernel_rfl)
    (of_decide_eq_true (by kernel_rfl)) (by unfold Func.isWrapper; first | (rw [if_pos (by decide +kernel)]; kernel_rfl) | (rw [if_neg (by decide +kernel)]; exact ⟨rfl, rfl⟩))
    (fun os started H enc _ => lifted os started H enc)

theorem proved : Rows.FnExactWindSaid := over
end Go.Proofs.Ytcodonnknepkeaa.fnExactWind
namespace Go.Proofs.Ytcodonnknepkeaa
theorem fnExactWind_holds : Rows.FnExactWindSaid := fnExactWind.proved
#print axioms fnExactWind_holds
end Go.Proofs.Ytcodonnknepkeaa

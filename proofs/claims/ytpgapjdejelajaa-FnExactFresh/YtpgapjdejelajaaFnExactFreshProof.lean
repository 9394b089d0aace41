/-
  At every two times impl.Fresh answers as its specification; for every argument, without further conditions.
-/
import Derived.Test.YtpgapjdejelajaaRows
import Derived.Test.YtpgapjdejelajaaMem
import Derived.Test.YtpgapjdejelajaaMemI
import Derived.Test.YtpgapjdejelajaaBits
import Derived.Test.YtpgapjdejelajaaApp
import Derived.Test.YtpgapjdejelajaaBlk
import Derived.Test.YtpgapjdejelajaaZone
import Derived.Test.YtpgapjdejelajaaZoneB
import Derived.Test.YtpgapjdejelajaaRes
import Derived.Test.YtpgapjdejelajaaJaZ
import Derived.Test.YtpgapjdejelajaaZoneI
import Derived.Test.YtpgapjdejelajaaJaL
import Derived.Test.YtpgapjdejelajaaGet
import Derived.Test.YtpgapjdejelajaaShaP
import Derived.Test.YtpgapjdejelajaaPads
import Derived.Test.YtpgapjdejelajaaWord
import Derived.Test.YtpgapjdejelajaaSched
import Derived.Test.YtpgapjdejelajaaWords
import Derived.Test.YtpgapjdejelajaaStr
import Derived.Test.YtpgapjdejelajaaAddrP
import Derived.Test.YtpgapjdejelajaaAppAt
import Derived.Test.YtpgapjdejelajaaEach
import Derived.Test.YtpgapjdejelajaaCopy
import Derived.Test.YtpgapjdejelajaaOps
import Derived.Test.YtpgapjdejelajaaAddrS
import Derived.Test.YtpgapjdejelajaaCkP
import Derived.Test.YtpgapjdejelajaaShp
import Derived.Test.YtpgapjdejelajaaCkL
import Derived.Test.YtpgapjdejelajaaAddrE
import Derived.Test.YtpgapjdejelajaaAddrI
import Derived.Test.YtpgapjdejelajaaFrZ
import Derived.Test.YtpgapjdejelajaaFrP
import Derived.Test.YtpgapjdejelajaaFrB
import Derived.Test.YtpgapjdejelajaaFrB2
import Derived.Test.YtpgapjdejelajaaFrQ
import Derived.Test.YtpgapjdejelajaaFrW
import Derived.Test.YtpgapjdejelajaaFrW2
import Derived.Test.YtpgapjdejelajaaCkI
import Derived.Test.YtpgapjdejelajaaCkS
import Derived.Test.YtpgapjdejelajaaLawFresh
import Derived.WalkKit
import Derived.ProofKit
import Derived.OpenShut
import Derived.ShutString
import Derived.ChangeOld
import Derived.Below
namespace Go.Proofs.Ytpgapjdejelajaa.fnExactFresh
open Go.ChangeShapes Go.WideShapes Go.ChangeAt Go.RowKit
open Go.ChangeMaps (open_string)
set_option linter.unusedVariables false

theorem own : ownKnob Try.prog.godebug = none := by kernel_rfl
theorem laidOut : laidOutB Try.prog = true := by kernel_rfl

theorem walk (a0 : Int) (a1 : Int) (w : World) (w0 : (Lit.int .i64 a0).wf = true) (w1 : (Lit.int .i64 a1).wf = true) :
    Calls Try.prog 5 #[.int .i64 a0, .int .i64 a1] w fun e w' => e = .returned (.bool true) ∧ Below w.heap.size w w' := by
  exact LawFresh.walk a0 a1 w

set_option maxRecDepth 100000 in
theorem lifted (os : Os) (started : os.Started) (H : Type) (enc : TypeId × Value → H) :
    ReturnsInHanded {} Try.checked os 5 .any (Rows.fnExactFreshSpec.pre6 enc Try.prog Try.f5 Rows.fnExactFreshRow.domain false) (Rows.fnExactFreshSpec.post enc Try.prog Try.f5 false true false false) := by
  refine returnsInHanded_of_change (C := Try.checked) own started (by kernel_rfl) Try.func5
    (ChangeSpec.witness6 (enc := enc) (C := Try.checked) false ⟨#[], #[.int .i64 0, .int .i64 0], []⟩ 8 (by kernel_rfl) (by kernel_rfl) (by kernel_rfl) (by kernel_rfl)) ?_
  intro W base args ds gs before hval0 hW hcnd _
  have hval : ∀ (j : Nat) t v, Try.f5.params[j]? = some t → args[j]? = some v → Value.okWide Try.prog W .any base t v := hval0
  have hW' := hW
  obtain ⟨p, q, hA0, hV, rfl, hfz, hnd⟩ := hW
  have hA : DataW.TrodAll enc Try.prog W 0 (fun _ => true) true Try.f5.params.toList args.toList ds p := hA0
  rw [Try.params5] at hA hval
  obtain ⟨v0, vs0, d0, ds0, p0, q0, hargs, rfl, rfl, h0, r0⟩ := trodAll_cons hA
  obtain ⟨v1, vs1, d1, ds1, p1, q1, rfl, rfl, rfl, h1, r1⟩ := trodAll_cons r0
  obtain ⟨rfl, rfl, rfl⟩ := trodAll_nil r1
  obtain rfl : args = #[v0, v1] := by cases args; simp_all
  obtain ⟨rfl, rfl⟩ := trodVars_none hV
  have k0 := h0
  have lt0 : ∀ x ∈ p0, x.block < W.heap.size := by obtain ⟨m, hm⟩ := k0; exact DataW.trod_lt m _ _ _ hm
  obtain ⟨a0, rfl, _, _, w0⟩ := open_int Try.underlying3 (hval 0 3 v0 rfl rfl) h0
  have k1 := h1
  have lt1 : ∀ x ∈ p1, x.block < W.heap.size := by obtain ⟨m, hm⟩ := k1; exact DataW.trod_lt m _ _ _ hm
  obtain ⟨a1, rfl, _, _, w1⟩ := open_int Try.underlying3 (hval 1 3 v1 rfl rfl) h1
  clear hA0 hval0
  refine (walk a0 a1 W w0 w1).mono fun e W' ⟨he, bel⟩ => ?_
  subst he
  exact ⟨_, rfl, _, _, _, [], _, [], hW', trodAll_mk1 (shut_bool Try.underlying4 _), (trodAll_cons_mk (Below.trod laidOut (by kernel_rfl) (of_decide_eq_true (by kernel_rfl)) k0 bel lt0) (trodAll_cons_mk (Below.trod laidOut (by kernel_rfl) (of_decide_eq_true (by kernel_rfl)) k1 bel lt1) trodAll_mk0)), rfl, bel.frame _, fun h => by cases h⟩

theorem over : Rows.fnExactFreshRow.holds Try.pinned (OpenSpec.ofChange Rows.fnExactFreshSpec) :=
  OpenClaim.holds_of_wide 5 Try.f5 rfl rfl rfl rfl rfl rfl rfl ⟨rfl, rfl, rfl, rfl, rfl⟩ rfl rfl rfl rfl rfl (by kernel_rfl) Try.func5 (by kernel_rfl)
    (of_decide_eq_true (by kernel_rfl)) (by unfold Func.isWrapper; first | (rw [if_pos (by decide +kernel)]; kernel_rfl) | (rw [if_neg (by decide +kernel)]; exact ⟨rfl, rfl⟩))
    (fun os started H enc _ => lifted os started H enc)

theorem proved : Rows.FnExactFreshSaid := over
end Go.Proofs.Ytpgapjdejelajaa.fnExactFresh
namespace Go.Proofs.Ytpgapjdejelajaa
theorem fnExactFresh_holds : Rows.FnExactFreshSaid := fnExactFresh.proved
#print axioms fnExactFresh_holds
end Go.Proofs.Ytpgapjdejelajaa

/-
  At every code, what comes next of the drawn timer, right or not, is as the document has it.
-/
import Derived.Test.YtadlckgaeljdkaaRows
import Derived.Test.YtadlckgaeljdkaaMem
import Derived.Test.YtadlckgaeljdkaaBits
import Derived.Test.YtadlckgaeljdkaaApp
import Derived.Test.YtadlckgaeljdkaaDraw
import Derived.Test.YtadlckgaeljdkaaDrawB
import Derived.Test.YtadlckgaeljdkaaMemI
import Derived.Test.YtadlckgaeljdkaaBlk
import Derived.Test.YtadlckgaeljdkaaZone
import Derived.Test.YtadlckgaeljdkaaDrN
import Derived.Test.YtadlckgaeljdkaaGet
import Derived.Test.YtadlckgaeljdkaaShaP
import Derived.Test.YtadlckgaeljdkaaPads
import Derived.Test.YtadlckgaeljdkaaWord
import Derived.Test.YtadlckgaeljdkaaSched
import Derived.Test.YtadlckgaeljdkaaWords
import Derived.Test.YtadlckgaeljdkaaTmP
import Derived.Test.YtadlckgaeljdkaaRes
import Derived.Test.YtadlckgaeljdkaaTmE
import Derived.Test.YtadlckgaeljdkaaTmS
import Derived.Test.YtadlckgaeljdkaaZoneI
import Derived.Test.YtadlckgaeljdkaaShp
import Derived.Test.YtadlckgaeljdkaaDrTm
import Derived.Test.YtadlckgaeljdkaaTmI
import Derived.Test.YtadlckgaeljdkaaLawTimersBent
import Derived.Test.YtadlckgaeljdkaaTmF
import Derived.WalkKit
import Derived.ProofKit
import Derived.OpenShut
import Derived.ShutString
import Derived.ChangeOld
import Derived.Below
namespace Go.Proofs.Ytadlckgaeljdkaa.fnTimersBent
open Go.ChangeShapes Go.WideShapes Go.ChangeAt Go.RowKit
open Go.ChangeMaps (open_string)
set_option linter.unusedVariables false

theorem own : ownKnob Try.prog.godebug = none := by kernel_rfl
theorem laidOut : laidOutB Try.prog = true := by kernel_rfl

theorem walk (a0 : Option Addr) (len0 cap0 : Nat) (z0 : List Int) (w : World) (w0 : Mem.IsRow .u8 w a0 len0 cap0 z0) :
    Calls Try.prog 4 #[.slice a0 len0 cap0] w fun e w' => e = .returned (.bool true) ∧ Below w.heap.size w w' := by
  exact LawTimersBent.walk a0 len0 cap0 z0 w w0

set_option maxRecDepth 100000 in
theorem lifted (os : Os) (started : os.Started) (H : Type) (enc : TypeId × Value → H) :
    ReturnsInHanded {} Try.checked os 4 .any (Rows.fnTimersBentSpec.pre6 enc Try.prog Try.f4 Rows.fnTimersBentRow.domain false) (Rows.fnTimersBentSpec.post enc Try.prog Try.f4 false true false false) := by
  refine returnsInHanded_of_change (C := Try.checked) own started (by kernel_rfl) Try.func4
    (ChangeSpec.witness6 (enc := enc) (C := Try.checked) false ⟨#[], #[.slice none 0 0], []⟩ 8 (by kernel_rfl) (by kernel_rfl) (by kernel_rfl) (by kernel_rfl)) ?_
  intro W base args ds gs before hval0 hW hcnd _
  have hval : ∀ (j : Nat) t v, Try.f4.params[j]? = some t → args[j]? = some v → Value.okWide Try.prog W .any base t v := hval0
  have hW' := hW
  obtain ⟨p, q, hA0, hV, rfl, hfz, hnd⟩ := hW
  have hA : DataW.TrodAll enc Try.prog W 0 (fun _ => true) true Try.f4.params.toList args.toList ds p := hA0
  rw [Try.params4] at hA hval
  obtain ⟨v0, vs0, d0, ds0, p0, q0, hargs, rfl, rfl, h0, r0⟩ := trodAll_cons hA
  obtain ⟨rfl, rfl, rfl⟩ := trodAll_nil r0
  obtain rfl : args = #[v0] := by cases args; simp_all
  obtain ⟨rfl, rfl⟩ := trodVars_none hV
  have k0 := h0
  have lt0 : ∀ x ∈ p0, x.block < W.heap.size := by obtain ⟨m, hm⟩ := k0; exact DataW.trod_lt m _ _ _ hm
  obtain ⟨a0, len0, cap0, rfl⟩ := okWide_slice Try.underlying22 (hval 0 22 v0 rfl rfl)
  obtain ⟨z0, w0⟩ : ∃ zs, Mem.IsRow .u8 W a0 len0 cap0 zs := by
    obtain ⟨fuel, hf⟩ := h0
    rcases open_ints Try.underlying22 Try.underlying5 (by kernel_rfl) hf with ⟨hcs, _⟩ | ⟨x, l, c, zs, hcs, _, hl, hm, hz, _, hcell, hwz⟩
    · simp [Value.cells] at hcs
      obtain ⟨rfl, rfl, rfl⟩ := hcs
      exact ⟨[], .inl ⟨rfl, rfl, rfl, rfl⟩⟩
    · simp [Value.cells] at hcs
      obtain ⟨rfl, rfl, rfl⟩ := hcs
      exact ⟨zs, .inr ⟨_, rfl, hl, hm, by simpa using hz, hcell, hwz⟩⟩
  clear hA0 hval0
  refine (walk a0 len0 cap0 z0 W w0).mono fun e W' ⟨he, bel⟩ => ?_
  subst he
  exact ⟨_, rfl, _, _, _, [], _, [], hW', trodAll_mk1 (shut_bool Try.underlying4 _), (trodAll_cons_mk (Below.trod laidOut (by kernel_rfl) (of_decide_eq_true (by kernel_rfl)) k0 bel lt0) trodAll_mk0), rfl, bel.frame _, fun h => by cases h⟩

theorem over : Rows.fnTimersBentRow.holds Try.pinned (OpenSpec.ofChange Rows.fnTimersBentSpec) :=
  OpenClaim.holds_of_wide 4 Try.f4 rfl rfl rfl rfl rfl rfl rfl ⟨rfl, rfl, rfl, rfl, rfl⟩ rfl rfl rfl rfl rfl (by kernel_rfl) Try.func4 (by kernel_rfl)
    (of_decide_eq_true (by kernel_rfl)) (by unfold Func.isWrapper; first | (rw [if_pos (by decide +kernel)]; kernel_rfl) | (rw [if_neg (by decide +kernel)]; exact ⟨rfl, rfl⟩))
    (fun os started H enc _ => lifted os started H enc)

theorem proved : Rows.FnTimersBentSaid := over
end Go.Proofs.Ytadlckgaeljdkaa.fnTimersBent
namespace Go.Proofs.Ytadlckgaeljdkaa
theorem fnTimersBent_holds : Rows.FnTimersBentSaid := fnTimersBent.proved
#print axioms fnTimersBent_holds
end Go.Proofs.Ytadlckgaeljdkaa

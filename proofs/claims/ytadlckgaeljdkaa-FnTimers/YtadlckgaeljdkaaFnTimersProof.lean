/-
  At every code, a timer that is set and asked at each number, one by one, fires where its spans say, and then no more.
-/
import Derived.Test.YtadlckgaeljdkaaRows
import Derived.Test.YtadlckgaeljdkaaMem
import Derived.Test.YtadlckgaeljdkaaBits
import Derived.Test.YtadlckgaeljdkaaApp
import Derived.Test.YtadlckgaeljdkaaDraw
import Derived.Test.YtadlckgaeljdkaaDrawB
import Derived.Test.YtadlckgaeljdkaaMemI
import Derived.Test.YtadlckgaeljdkaaBlk
import Derived.Test.YtadlckgaeljdkaaZone
import Derived.Test.YtadlckgaeljdkaaDrN
import Derived.Test.YtadlckgaeljdkaaGet
import Derived.Test.YtadlckgaeljdkaaShaP
import Derived.Test.YtadlckgaeljdkaaPads
import Derived.Test.YtadlckgaeljdkaaWord
import Derived.Test.YtadlckgaeljdkaaSched
import Derived.Test.YtadlckgaeljdkaaWords
import Derived.Test.YtadlckgaeljdkaaTmP
import Derived.Test.YtadlckgaeljdkaaRes
import Derived.Test.YtadlckgaeljdkaaTmE
import Derived.Test.YtadlckgaeljdkaaTmS
import Derived.Test.YtadlckgaeljdkaaZoneI
import Derived.Test.YtadlckgaeljdkaaShp
import Derived.Test.YtadlckgaeljdkaaDrTm
import Derived.Test.YtadlckgaeljdkaaTmI
import Derived.Test.YtadlckgaeljdkaaEach
import Derived.Test.YtadlckgaeljdkaaCopy
import Derived.Test.YtadlckgaeljdkaaOps
import Derived.Test.YtadlckgaeljdkaaLawTimers
import Derived.Test.YtadlckgaeljdkaaTmF
import Derived.WalkKit
import Derived.ProofKit
import Derived.OpenShut
import Derived.ShutString
import Derived.ChangeOld
import Derived.Below
namespace Go.Proofs.Ytadlckgaeljdkaa.fnTimers
open Go.ChangeShapes Go.WideShapes Go.ChangeAt Go.RowKit
open Go.ChangeMaps (open_string)
set_option linter.unusedVariables false

theorem own : ownKnob Try.prog.godebug = none := by kernel_rfl
theorem laidOut : laidOutB Try.prog = true := by kernel_rfl

theorem walk (a0 : Option Addr) (len0 cap0 : Nat) (z0 : List Int) (w : World) (w0 : Mem.IsRow .u8 w a0 len0 cap0 z0) :
    Calls Try.prog 3 #[.slice a0 len0 cap0] w fun e w' => e = .returned (.bool true) ∧ Below w.heap.size w w' := by
  exact LawTimers.walk a0 len0 cap0 z0 w w0

set_option maxRecDepth 100000 in
theorem lifted (os : Os) (started : os.Started) (H : Type) (enc : TypeId × Value → H) :
    ReturnsInHanded {} Try.checked os 3 .any (Rows.fnTimersSpec.pre6 enc Try.prog Try.f3 Rows.fnTimersRow.domain false) (Rows.fnTimersSpec.post enc Try.prog Try.f3 false true false false) := by
  refine returnsInHanded_of_change (C := Try.checked) own started (by kernel_rfl) Try.func3
    (ChangeSpec.witness6 (enc := enc) (C := Try.checked) false ⟨#[], #[.slice none 0 0], []⟩ 8 (by kernel_rfl) (by kernel_rfl) (by kernel_rfl) (by kernel_rfl)) ?_
  intro W base args ds gs before hval0 hW hcnd _
  have hval : ∀ (j : Nat) t v, Try.f3.params[j]? = some t → args[j]? = some v → Value.okWide Try.prog W .any base t v := hval0
  have hW' := hW
  obtain ⟨p, q, hA0, hV, rfl, hfz, hnd⟩ := hW
  have hA : DataW.TrodAll enc Try.prog W 0 (fun _ => true) true Try.f3.params.toList args.toList ds p := hA0
  rw [Try.params3] at hA hval
  obtain ⟨v0, vs0, d0, ds0, p0, q0, hargs, rfl, rfl, h0, r0⟩ := trodAll_cons hA
  obtain ⟨rfl, rfl, rfl⟩ := trodAll_nil r0
  obtain rfl : args = #[v0] := by cases args; simp_all
  obtain ⟨rfl, rfl⟩ := trodVars_none hV
  have k0 := h0
  have lt0 : ∀ x ∈ p0, x.block < W.heap.size := by obtain ⟨m, hm⟩ := k0; exact DataW.trod_lt m _ _ _ hm
  obtain ⟨a0, len0, cap0, rfl⟩ := okWide_slice Try.underlying22 (hval 0 22 v0 rfl rfl)
  obtain ⟨z0, w0⟩ : ∃ zs, Mem.IsRow .u8 W a0 len0 cap0 zs := by
    obtain ⟨fuel, hf⟩ := h0
    rcases open_ints Try.underlying22 Try.underlying5 (by kernel_rfl) hf with ⟨hcs, _⟩ | ⟨x, l, c, zs, hcs, _, hl, hm, hz, _, hcell, hwz⟩
    · simp [Value.cells] at hcs
      obtain ⟨rfl, rfl, rfl⟩ := hcs
      exact ⟨[], .inl ⟨rfl, rfl, rfl, rfl⟩⟩
    · simp [Value.cells] at hcs
      obtain ⟨rfl, rfl, rfl⟩ := hcs
      exact ⟨zs, .inr ⟨_, rfl, hl, hm, by simpa using hz, hcell, hwz⟩⟩
  clear hA0 hval0
  refine (walk a0 len0 cap0 z0 W w0).mono fun e W' ⟨he, bel⟩ => ?_
  subst he
  exact ⟨_, rfl, _, _, _, [], _, [], hW', trodAll_mk1 (shut_bool Try.underlying4 _), (trodAll_cons_mk (Below.trod laidOut (by kernel_rfl) (of_decide_eq_true (by kernel_rfl)) k0 bel lt0) trodAll_mk0), rfl, bel.frame _, fun h => by cases h⟩

theorem over : Rows.fnTimersRow.holds Try.pinned (OpenSpec.ofChange Rows.fnTimersSpec) :=
  OpenClaim.holds_of_wide 3 Try.f3 rfl rfl rfl rfl rfl rfl rfl ⟨rfl, rfl, rfl, rfl, rfl⟩ rfl rfl rfl rfl rfl (by kernel_rfl) Try.func3 (by kernel_rfl)
    (of_decide_eq_true (by kernel_rfl)) (by unfold Func.isWrapper; first | (rw [if_pos (by decide +kernel)]; kernel_rfl) | (rw [if_neg (by decide +kernel)]; exact ⟨rfl, rfl⟩))
    (fun os started H enc _ => lifted os started H enc)

theorem proved : Rows.FnTimersSaid := over
end Go.Proofs.Ytadlckgaeljdkaa.fnTimers
namespace Go.Proofs.Ytadlckgaeljdkaa
theorem fnTimers_holds : Rows.FnTimersSaid := fnTimers.proved
#print axioms fnTimers_holds
end Go.Proofs.Ytadlckgaeljdkaa

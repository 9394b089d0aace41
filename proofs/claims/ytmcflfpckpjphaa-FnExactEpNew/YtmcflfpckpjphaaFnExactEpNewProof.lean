/-
  At every number and key impl.EpNew answers as its specification, it writes into no argument, and its answer owns its memory; for every argument, without further conditions.
-/
import Derived.Test.YtmcflfpckpjphaaRows
import Derived.Test.YtmcflfpckpjphaaMem
import Derived.Test.YtmcflfpckpjphaaMemI
import Derived.Test.YtmcflfpckpjphaaBits
import Derived.Test.YtmcflfpckpjphaaApp
import Derived.Test.YtmcflfpckpjphaaBlk
import Derived.Test.YtmcflfpckpjphaaZone
import Derived.Test.YtmcflfpckpjphaaZoneB
import Derived.Test.YtmcflfpckpjphaaZoneI
import Derived.Test.YtmcflfpckpjphaaRes
import Derived.Test.YtmcflfpckpjphaaWnZ
import Derived.Test.YtmcflfpckpjphaaEpZ
import Derived.Test.YtmcflfpckpjphaaWnL2
import Derived.Test.YtmcflfpckpjphaaEpL
import Derived.Test.YtmcflfpckpjphaaEach
import Derived.Test.YtmcflfpckpjphaaCopy
import Derived.Test.YtmcflfpckpjphaaOps
import Derived.Test.YtmcflfpckpjphaaWnC
import Derived.Test.YtmcflfpckpjphaaWinP
import Derived.Test.YtmcflfpckpjphaaWinB
import Derived.Test.YtmcflfpckpjphaaWnI
import Derived.Test.YtmcflfpckpjphaaWnJ
import Derived.Test.YtmcflfpckpjphaaWnL
import Derived.Test.YtmcflfpckpjphaaWnS
import Derived.Test.YtmcflfpckpjphaaWnM
import Derived.Test.YtmcflfpckpjphaaWnK
import Derived.Test.YtmcflfpckpjphaaWnT
import Derived.Test.YtmcflfpckpjphaaWnU
import Derived.Test.YtmcflfpckpjphaaWnV
import Derived.Test.YtmcflfpckpjphaaWnG
import Derived.Test.YtmcflfpckpjphaaGet
import Derived.Test.YtmcflfpckpjphaaShaP
import Derived.Test.YtmcflfpckpjphaaPads
import Derived.Test.YtmcflfpckpjphaaWord
import Derived.Test.YtmcflfpckpjphaaSched
import Derived.Test.YtmcflfpckpjphaaWords
import Derived.Test.YtmcflfpckpjphaaEpP
import Derived.Test.YtmcflfpckpjphaaKeyI
import Derived.Test.YtmcflfpckpjphaaEpI
import Derived.Test.YtmcflfpckpjphaaEpS
import Derived.Test.YtmcflfpckpjphaaShp
import Derived.Test.YtmcflfpckpjphaaLawEpNew
import Derived.WalkKit
import Derived.ProofKit
import Derived.OpenShut
import Derived.ShutString
import Derived.ChangeOld
import Derived.Below
namespace Go.Proofs.Ytmcflfpckpjphaa.fnExactEpNew
open Go.ChangeShapes Go.WideShapes Go.ChangeAt Go.RowKit
open Go.ChangeMaps (open_string)
set_option linter.unusedVariables false

theorem own : ownKnob Try.prog.godebug = none := by kernel_rfl
theorem laidOut : laidOutB Try.prog = true := by kernel_rfl

theorem walk (a0 : Int) (a1 : Option Addr) (len1 cap1 : Nat) (z1 : List Int) (w : World) (w0 : (Lit.int .i64 a0).wf = true) (w1 : Mem.IsRow .u8 w a1 len1 cap1 z1) :
    Calls Try.prog 7 #[.int .i64 a0, .slice a1 len1 cap1] w fun e w' => e = .returned (.bool true) ∧ Below w.heap.size w w' := by
  exact LawEpNew.walk1 a0 a1 len1 cap1 z1 w w1

set_option maxRecDepth 100000 in
theorem lifted (os : Os) (started : os.Started) (H : Type) (enc : TypeId × Value → H) :
    ReturnsInHanded {} Try.checked os 7 .any (Rows.fnExactEpNewSpec.pre6 enc Try.prog Try.f7 Rows.fnExactEpNewRow.domain false) (Rows.fnExactEpNewSpec.post enc Try.prog Try.f7 false true false false) := by
  refine returnsInHanded_of_change (C := Try.checked) own started (by kernel_rfl) Try.func7
    (ChangeSpec.witness6 (enc := enc) (C := Try.checked) false ⟨#[], #[.int .i64 0, .slice none 0 0], []⟩ 8 (by kernel_rfl) (by kernel_rfl) (by kernel_rfl) (by kernel_rfl)) ?_
  intro W base args ds gs before hval0 hW hcnd _
  have hval : ∀ (j : Nat) t v, Try.f7.params[j]? = some t → args[j]? = some v → Value.okWide Try.prog W .any base t v := hval0
  have hW' := hW
  obtain ⟨p, q, hA0, hV, rfl, hfz, hnd⟩ := hW
  have hA : DataW.TrodAll enc Try.prog W 0 (fun _ => true) true Try.f7.params.toList args.toList ds p := hA0
  rw [Try.params7] at hA hval
  obtain ⟨v0, vs0, d0, ds0, p0, q0, hargs, rfl, rfl, h0, r0⟩ := trodAll_cons hA
  obtain ⟨v1, vs1, d1, ds1, p1, q1, rfl, rfl, rfl, h1, r1⟩ := trodAll_cons r0
  obtain ⟨rfl, rfl, rfl⟩ := trodAll_nil r1
  obtain rfl : args = #[v0, v1] := by cases args; simp_all
  obtain ⟨rfl, rfl⟩ := trodVars_none hV
  have k0 := h0
  have lt0 : ∀ x ∈ p0, x.block < W.heap.size := by obtain ⟨m, hm⟩ := k0; exact DataW.trod_lt m _ _ _ hm
  obtain ⟨a0, rfl, _, _, w0⟩ := open_int Try.underlying3 (hval 0 3 v0 rfl rfl) h0
  have k1 := h1
  have lt1 : ∀ x ∈ p1, x.block < W.heap.size := by obtain ⟨m, hm⟩ := k1; exact DataW.trod_lt m _ _ _ hm
  obtain ⟨a1, len1, cap1, rfl⟩ := okWide_slice Try.underlying22 (hval 1 22 v1 rfl rfl)
  obtain ⟨z1, w1⟩ : ∃ zs, Mem.IsRow .u8 W a1 len1 cap1 zs := by
    obtain ⟨fuel, hf⟩ := h1
    rcases open_ints Try.underlying22 Try.underlying5 (by kernel_rfl) hf with ⟨hcs, _⟩ | ⟨x, l, c, zs, hcs, _, hl, hm, hz, _, hcell, hwz⟩
    · simp [Value.cells] at hcs
      obtain ⟨rfl, rfl, rfl⟩ := hcs
      exact ⟨[], .inl ⟨rfl, rfl, rfl, rfl⟩⟩
    · simp [Value.cells] at hcs
      obtain ⟨rfl, rfl, rfl⟩ := hcs
      exact ⟨zs, .inr ⟨_, rfl, hl, hm, by simpa using hz, hcell, hwz⟩⟩
  clear hA0 hval0
  refine (walk a0 a1 len1 cap1 z1 W w0 w1).mono fun e W' ⟨he, bel⟩ => ?_
  subst he
  exact ⟨_, rfl, _, _, _, [], _, [], hW', trodAll_mk1 (shut_bool Try.underlying4 _), (trodAll_cons_mk (Below.trod laidOut (by kernel_rfl) (of_decide_eq_true (by kernel_rfl)) k0 bel lt0) (trodAll_cons_mk (Below.trod laidOut (by kernel_rfl) (of_decide_eq_true (by kernel_rfl)) k1 bel lt1) trodAll_mk0)), rfl, bel.frame _, fun h => by cases h⟩

theorem over : Rows.fnExactEpNewRow.holds Try.pinned (OpenSpec.ofChange Rows.fnExactEpNewSpec) :=
  OpenClaim.holds_of_wide 7 Try.f7 rfl rfl rfl rfl rfl rfl rfl ⟨rfl, rfl, rfl, rfl, rfl⟩ rfl rfl rfl rfl rfl (by kernel_rfl) Try.func7 (by kernel_rfl)
    (of_decide_eq_true (by kernel_rfl)) (by unfold Func.isWrapper; first | (rw [if_pos (by decide +kernel)]; kernel_rfl) | (rw [if_neg (by decide +kernel)]; exact ⟨rfl, rfl⟩))
    (fun os started H enc _ => lifted os started H enc)

theorem proved : Rows.FnExactEpNewSaid := over
end Go.Proofs.Ytmcflfpckpjphaa.fnExactEpNew
namespace Go.Proofs.Ytmcflfpckpjphaa
theorem fnExactEpNew_holds : Rows.FnExactEpNewSaid := fnExactEpNew.proved
#print axioms fnExactEpNew_holds
end Go.Proofs.Ytmcflfpckpjphaa

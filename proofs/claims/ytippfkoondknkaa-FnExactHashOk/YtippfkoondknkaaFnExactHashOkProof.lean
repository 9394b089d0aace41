/-
  Proved: laws.FnExactHashOk answers true at every hash, in whatever memory, and writes nothing that was there.
-/
import Derived.Test.YtippfkoondknkaaRows
import Derived.Test.YtippfkoondknkaaHashF
import Derived.Test.YtippfkoondknkaaLawHashOk
import Derived.WalkKit
import Derived.ProofKit
import Derived.OpenShut
import Derived.ShutString
import Derived.ChangeOld
import Derived.Below
namespace Go.Proofs.Ytippfkoondknkaa.fnExactHashOk
open Go.ChangeShapes Go.WideShapes Go.ChangeAt Go.RowKit
open Go.ChangeMaps (open_string shut_string)
set_option linter.unusedVariables false

theorem own : ownKnob Try.prog.godebug = none := by kernel_rfl
theorem laidOut : laidOutB Try.prog = true := by kernel_rfl

theorem walk (a0 : Option Addr) (n0 c0 : Nat) (z0 : List Int) (a1 : Option Addr) (n1 c1 : Nat) (z1 : List Int) (N : Int) (w : World) (w0 : Mem.IsRow .i64 w a0 n0 c0 z0) (w1 : Mem.IsRow .u8 w a1 n1 c1 z1) :
    Calls Try.prog 8 #[Hashs.hashV a0 n0 c0 a1 n1 c1 N] w fun e w' => e = .returned (.bool true) ∧ Below w.heap.size w w' := by
  exact LawHashOk.walk a0 n0 c0 z0 a1 n1 c1 z1 N w w0 w1

set_option maxRecDepth 100000 in
theorem lifted (os : Os) (started : os.Started) (H : Type) (enc : TypeId × Value → H) :
    ReturnsInHanded {} Try.checked os 8 .any (Rows.fnExactHashOkSpec.pre6 enc Try.prog Try.f8 Rows.fnExactHashOkRow.domain false) (Rows.fnExactHashOkSpec.post enc Try.prog Try.f8 false true false false) := by
  refine returnsInHanded_of_change (C := Try.checked) own started (by kernel_rfl) Try.func8
    (ChangeSpec.witness6 (enc := enc) (C := Try.checked) false ⟨#[], #[.agg #[.slice none 0 0, .slice none 0 0, .int .i64 0]], []⟩ 8 (by kernel_rfl) (by kernel_rfl) (by kernel_rfl) (by kernel_rfl)) ?_
  intro W base args ds gs before hval0 hW hcnd _
  have hval : ∀ (j : Nat) t v, Try.f8.params[j]? = some t → args[j]? = some v → Value.okWide Try.prog W .any base t v := hval0
  have hW' := hW
  obtain ⟨p, q, hA0, hV, rfl, hfz, hnd⟩ := hW
  have hA : DataW.TrodAll enc Try.prog W 0 (fun _ => true) true Try.f8.params.toList args.toList ds p := hA0
  rw [Try.params8] at hA hval
  obtain ⟨v0, vs0, d0, ds0, p0, q0, hargs, rfl, rfl, h0, r0⟩ := trodAll_cons hA
  obtain ⟨rfl, rfl, rfl⟩ := trodAll_nil r0
  obtain rfl : args = #[v0] := by cases args; simp_all
  obtain ⟨rfl, rfl⟩ := trodVars_none hV
  have k0 := h0
  have lt0 : ∀ x ∈ p0, x.block < W.heap.size := by obtain ⟨m, hm⟩ := k0; exact DataW.trod_lt m _ _ _ hm
  obtain ⟨a0, n0, c0, z0, a1, n1, c1, z1, N, rfl, w0, w1⟩ := HashF.open_hash (hval 0 43 v0 rfl rfl) h0
  clear hA0 hval0
  refine (walk a0 n0 c0 z0 a1 n1 c1 z1 N W w0 w1).mono fun e W' ⟨he, bel⟩ => ?_
  subst he
  exact ⟨_, rfl, _, _, _, [], _, [], hW', trodAll_mk1 (shut_bool Try.underlying4 _), (trodAll_cons_mk (Below.trod laidOut (by kernel_rfl) (of_decide_eq_true (by kernel_rfl)) k0 bel lt0) trodAll_mk0), rfl, bel.frame _, fun h => by cases h⟩

theorem over : Rows.fnExactHashOkRow.holds Try.pinned (OpenSpec.ofChange Rows.fnExactHashOkSpec) :=
  OpenClaim.holds_of_wide 8 Try.f8 rfl rfl rfl rfl rfl rfl rfl ⟨rfl, rfl, rfl, rfl, rfl⟩ rfl rfl rfl rfl rfl (by kernel_rfl) Try.func8 (by kernel_rfl)
    (of_decide_eq_true (by kernel_rfl)) (by unfold Func.isWrapper; first | (rw [if_pos (by decide +kernel)]; kernel_rfl) | (rw [if_neg (by decide +kernel)]; exact ⟨rfl, rfl⟩))
    (fun os started H enc _ => lifted os started H enc)

theorem proved : Rows.FnExactHashOkSaid := over
end Go.Proofs.Ytippfkoondknkaa.fnExactHashOk
namespace Go.Proofs.Ytippfkoondknkaa
theorem fnExactHashOk_holds : Rows.FnExactHashOkSaid := fnExactHashOk.proved
#print axioms fnExactHashOk_holds
end Go.Proofs.Ytippfkoondknkaa

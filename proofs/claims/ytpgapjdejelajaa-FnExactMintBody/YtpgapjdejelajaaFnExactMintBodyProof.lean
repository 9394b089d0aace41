/-
  At every address, id, two nonces and tick impl.MintBody answers as its specification, it writes into no argument, keeps nothing of one, and its answer owns its memory, behind another call too; for every argument, without further conditions.
-/
import Derived.Test.YtpgapjdejelajaaRows
import Derived.Test.YtpgapjdejelajaaMem
import Derived.Test.YtpgapjdejelajaaMemI
import Derived.Test.YtpgapjdejelajaaBits
import Derived.Test.YtpgapjdejelajaaApp
import Derived.Test.YtpgapjdejelajaaBlk
import Derived.Test.YtpgapjdejelajaaZone
import Derived.Test.YtpgapjdejelajaaZoneB
import Derived.Test.YtpgapjdejelajaaRes
import Derived.Test.YtpgapjdejelajaaJaZ
import Derived.Test.YtpgapjdejelajaaZoneI
import Derived.Test.YtpgapjdejelajaaJaL
import Derived.Test.YtpgapjdejelajaaGet
import Derived.Test.YtpgapjdejelajaaShaP
import Derived.Test.YtpgapjdejelajaaPads
import Derived.Test.YtpgapjdejelajaaWord
import Derived.Test.YtpgapjdejelajaaSched
import Derived.Test.YtpgapjdejelajaaWords
import Derived.Test.YtpgapjdejelajaaStr
import Derived.Test.YtpgapjdejelajaaAddrP
import Derived.Test.YtpgapjdejelajaaAppAt
import Derived.Test.YtpgapjdejelajaaEach
import Derived.Test.YtpgapjdejelajaaCopy
import Derived.Test.YtpgapjdejelajaaOps
import Derived.Test.YtpgapjdejelajaaAddrS
import Derived.Test.YtpgapjdejelajaaCkP
import Derived.Test.YtpgapjdejelajaaShp
import Derived.Test.YtpgapjdejelajaaCkL
import Derived.Test.YtpgapjdejelajaaAddrE
import Derived.Test.YtpgapjdejelajaaAddrI
import Derived.Test.YtpgapjdejelajaaFrZ
import Derived.Test.YtpgapjdejelajaaFrP
import Derived.Test.YtpgapjdejelajaaFrB
import Derived.Test.YtpgapjdejelajaaFrB2
import Derived.Test.YtpgapjdejelajaaFrQ
import Derived.Test.YtpgapjdejelajaaFrW
import Derived.Test.YtpgapjdejelajaaFrW2
import Derived.Test.YtpgapjdejelajaaCkI
import Derived.Test.YtpgapjdejelajaaCkS
import Derived.Test.YtpgapjdejelajaaAddrL
import Derived.Test.YtpgapjdejelajaaLawMintBody
import Derived.Test.YtpgapjdejelajaaAddrF
import Derived.WalkKit
import Derived.ProofKit
import Derived.OpenShut
import Derived.ShutString
import Derived.ChangeOld
import Derived.Below
namespace Go.Proofs.Ytpgapjdejelajaa.fnExactMintBody
open Go.ChangeShapes Go.WideShapes Go.ChangeAt Go.RowKit
open Go.ChangeMaps (open_string)
set_option linter.unusedVariables false

theorem own : ownKnob Try.prog.godebug = none := by kernel_rfl
theorem laidOut : laidOutB Try.prog = true := by kernel_rfl

theorem walk (x0 y0 : Int) (a1 : Int) (a2 : Option Addr) (len2 cap2 : Nat) (z2 : List Int) (a3 : Option Addr) (len3 cap3 : Nat) (z3 : List Int) (a4 : Int) (w : World) (w1 : (Lit.int .i64 a1).wf = true) (w2 : Mem.IsRow .u8 w a2 len2 cap2 z2) (w3 : Mem.IsRow .u8 w a3 len3 cap3 z3) (w4 : (Lit.int .i64 a4).wf = true) :
    Calls Try.prog 4 #[AddrS.addrV x0 y0, .int .i64 a1, .slice a2 len2 cap2, .slice a3 len3 cap3, .int .i64 a4] w fun e w' => e = .returned (.bool true) ∧ Below w.heap.size w w' := by
  exact LawMintBody.walk1 x0 y0 a1 a2 len2 cap2 z2 a3 len3 cap3 z3 a4 w w2 w3

set_option maxRecDepth 100000 in
theorem lifted (os : Os) (started : os.Started) (H : Type) (enc : TypeId × Value → H) :
    ReturnsInHanded {} Try.checked os 4 .any (Rows.fnExactMintBodySpec.pre6 enc Try.prog Try.f4 Rows.fnExactMintBodyRow.domain false) (Rows.fnExactMintBodySpec.post enc Try.prog Try.f4 false true false false) := by
  refine returnsInHanded_of_change (C := Try.checked) own started (by kernel_rfl) Try.func4
    (ChangeSpec.witness6 (enc := enc) (C := Try.checked) false ⟨#[], #[.agg #[.int .i64 0, .int .i64 0], .int .i64 0, .slice none 0 0, .slice none 0 0, .int .i64 0], []⟩ 8 (by kernel_rfl) (by kernel_rfl) (by kernel_rfl) (by kernel_rfl)) ?_
  intro W base args ds gs before hval0 hW hcnd _
  have hval : ∀ (j : Nat) t v, Try.f4.params[j]? = some t → args[j]? = some v → Value.okWide Try.prog W .any base t v := hval0
  have hW' := hW
  obtain ⟨p, q, hA0, hV, rfl, hfz, hnd⟩ := hW
  have hA : DataW.TrodAll enc Try.prog W 0 (fun _ => true) true Try.f4.params.toList args.toList ds p := hA0
  rw [Try.params4] at hA hval
  obtain ⟨v0, vs0, d0, ds0, p0, q0, hargs, rfl, rfl, h0, r0⟩ := trodAll_cons hA
  obtain ⟨v1, vs1, d1, ds1, p1, q1, rfl, rfl, rfl, h1, r1⟩ := trodAll_cons r0
  obtain ⟨v2, vs2, d2, ds2, p2, q2, rfl, rfl, rfl, h2, r2⟩ := trodAll_cons r1
  obtain ⟨v3, vs3, d3, ds3, p3, q3, rfl, rfl, rfl, h3, r3⟩ := trodAll_cons r2
  obtain ⟨v4, vs4, d4, ds4, p4, q4, rfl, rfl, rfl, h4, r4⟩ := trodAll_cons r3
  obtain ⟨rfl, rfl, rfl⟩ := trodAll_nil r4
  obtain rfl : args = #[v0, v1, v2, v3, v4] := by cases args; simp_all
  obtain ⟨rfl, rfl⟩ := trodVars_none hV
  have k0 := h0
  have lt0 : ∀ x ∈ p0, x.block < W.heap.size := by obtain ⟨m, hm⟩ := k0; exact DataW.trod_lt m _ _ _ hm
  obtain ⟨x0, y0, rfl⟩ := AddrF.open_addr (hval 0 32 v0 rfl rfl) h0
  have k1 := h1
  have lt1 : ∀ x ∈ p1, x.block < W.heap.size := by obtain ⟨m, hm⟩ := k1; exact DataW.trod_lt m _ _ _ hm
  obtain ⟨a1, rfl, _, _, w1⟩ := open_int Try.underlying3 (hval 1 3 v1 rfl rfl) h1
  have k2 := h2
  have lt2 : ∀ x ∈ p2, x.block < W.heap.size := by obtain ⟨m, hm⟩ := k2; exact DataW.trod_lt m _ _ _ hm
  obtain ⟨a2, len2, cap2, rfl⟩ := okWide_slice Try.underlying22 (hval 2 22 v2 rfl rfl)
  obtain ⟨z2, w2⟩ : ∃ zs, Mem.IsRow .u8 W a2 len2 cap2 zs := by
    obtain ⟨fuel, hf⟩ := h2
    rcases open_ints Try.underlying22 Try.underlying5 (by kernel_rfl) hf with ⟨hcs, _⟩ | ⟨x, l, c, zs, hcs, _, hl, hm, hz, _, hcell, hwz⟩
    · simp [Value.cells] at hcs
      obtain ⟨rfl, rfl, rfl⟩ := hcs
      exact ⟨[], .inl ⟨rfl, rfl, rfl, rfl⟩⟩
    · simp [Value.cells] at hcs
      obtain ⟨rfl, rfl, rfl⟩ := hcs
      exact ⟨zs, .inr ⟨_, rfl, hl, hm, by simpa using hz, hcell, hwz⟩⟩
  have k3 := h3
  have lt3 : ∀ x ∈ p3, x.block < W.heap.size := by obtain ⟨m, hm⟩ := k3; exact DataW.trod_lt m _ _ _ hm
  obtain ⟨a3, len3, cap3, rfl⟩ := okWide_slice Try.underlying22 (hval 3 22 v3 rfl rfl)
  obtain ⟨z3, w3⟩ : ∃ zs, Mem.IsRow .u8 W a3 len3 cap3 zs := by
    obtain ⟨fuel, hf⟩ := h3
    rcases open_ints Try.underlying22 Try.underlying5 (by kernel_rfl) hf with ⟨hcs, _⟩ | ⟨x, l, c, zs, hcs, _, hl, hm, hz, _, hcell, hwz⟩
    · simp [Value.cells] at hcs
      obtain ⟨rfl, rfl, rfl⟩ := hcs
      exact ⟨[], .inl ⟨rfl, rfl, rfl, rfl⟩⟩
    · simp [Value.cells] at hcs
      obtain ⟨rfl, rfl, rfl⟩ := hcs
      exact ⟨zs, .inr ⟨_, rfl, hl, hm, by simpa using hz, hcell, hwz⟩⟩
  have k4 := h4
  have lt4 : ∀ x ∈ p4, x.block < W.heap.size := by obtain ⟨m, hm⟩ := k4; exact DataW.trod_lt m _ _ _ hm
  obtain ⟨a4, rfl, _, _, w4⟩ := open_int Try.underlying3 (hval 4 3 v4 rfl rfl) h4
  clear hA0 hval0
  refine (walk x0 y0 a1 a2 len2 cap2 z2 a3 len3 cap3 z3 a4 W w1 w2 w3 w4).mono fun e W' ⟨he, bel⟩ => ?_
  subst he
  exact ⟨_, rfl, _, _, _, [], _, [], hW', trodAll_mk1 (shut_bool Try.underlying4 _), (trodAll_cons_mk (Below.trod laidOut (by kernel_rfl) (of_decide_eq_true (by kernel_rfl)) k0 bel lt0) (trodAll_cons_mk (Below.trod laidOut (by kernel_rfl) (of_decide_eq_true (by kernel_rfl)) k1 bel lt1) (trodAll_cons_mk (Below.trod laidOut (by kernel_rfl) (of_decide_eq_true (by kernel_rfl)) k2 bel lt2) (trodAll_cons_mk (Below.trod laidOut (by kernel_rfl) (of_decide_eq_true (by kernel_rfl)) k3 bel lt3) (trodAll_cons_mk (Below.trod laidOut (by kernel_rfl) (of_decide_eq_true (by kernel_rfl)) k4 bel lt4) trodAll_mk0))))), rfl, bel.frame _, fun h => by cases h⟩

theorem over : Rows.fnExactMintBodyRow.holds Try.pinned (OpenSpec.ofChange Rows.fnExactMintBodySpec) :=
  OpenClaim.holds_of_wide 4 Try.f4 rfl rfl rfl rfl rfl rfl rfl ⟨rfl, rfl, rfl, rfl, rfl⟩ rfl rfl rfl rfl rfl (by kernel_rfl) Try.func4 (by kernel_rfl)
    (of_decide_eq_true (by kernel_rfl)) (by unfold Func.isWrapper; first | (rw [if_pos (by decide +kernel)]; kernel_rfl) | (rw [if_neg (by decide +kernel)]; exact ⟨rfl, rfl⟩))
    (fun os started H enc _ => lifted os started H enc)

theorem proved : Rows.FnExactMintBodySaid := over
end Go.Proofs.Ytpgapjdejelajaa.fnExactMintBody
namespace Go.Proofs.Ytpgapjdejelajaa
theorem fnExactMintBody_holds : Rows.FnExactMintBodySaid := fnExactMintBody.proved
#print axioms fnExactMintBody_holds
end Go.Proofs.Ytpgapjdejelajaa

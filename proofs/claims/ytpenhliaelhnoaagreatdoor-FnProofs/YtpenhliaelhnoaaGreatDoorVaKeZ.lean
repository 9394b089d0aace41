/-
  What finishes a cookie: its parts, its proof, and that no other proof is right.
-/
import Derived.Test.YtpenhliaelhnoaaGreatDoorVaGz7
import Derived.Test.YtpenhliaelhnoaaGreatDoorVaGz14
set_option maxRecDepth 100000
namespace Go.Proofs.YtpenhliaelhnoaaGreatDoor.KeZ
open Go.RowKit Mem DiffP FrZ FrP FrG FrB KeP KeQ KeW MacP

theorem zero_no (psk : List Int) : pOk psk zeroF = false := pOk_1 rfl
theorem fin_parts {psk : List Int} {id : Int} {F : FrD} (h : finF psk id F = true) : frameOk F = true ∧ F.kind = 2 ∧ proofB psk.length id F.cn.length F.sn.length F.tick F.cookie.length = true := by
 unfold finF at h
 simp only [Bool.and_eq_true, beq_iff_eq, Bool.not_eq_true', beq_eq_false_iff_ne, ne_eq] at h
 refine ⟨h.1.1, h.1.2, ?_⟩
 cases k : proofB psk.length id F.cn.length F.sn.length F.tick F.cookie.length with
 | true => rfl
 | false => exact absurd (by rw [proofK_no k]; rfl) h.2
theorem fin_len {psk : List Int} {id : Int} {F : FrD} (h : finF psk id F = true) : (proofK psk id F.cn F.sn F.tick F.cookie).length = 16 := proofK_len (fin_parts h).2.2
theorem fin_ok {psk : List Int} {id : Int} {F : FrD} (h : finF psk id F = true) (y : List Int) (hy : y.length = 16) : frameOk { finD psk id F with proof := y } = true := by
 obtain ⟨h1, h2, h3⟩ := fin_parts h
 obtain ⟨p1, p2⟩ := Bool.and_eq_true_iff.1 h3
 obtain ⟨q1, q2, q3, q4, q5⟩ := proofF_parts p2
 rcases (ok_iff F).1 h1 with k | ⟨e1, e2, e3, e4, e5, _⟩
 ·
  omega
 rw [finD_yes h]
 exact (ok_iff _).2 (.inr ⟨e1, e2, e3, e4, e5, .inr (.inr ⟨rfl, q1.1, q1.2, q3, q4.1, q4.2, q5, hy⟩)⟩)
theorem fin_of {psk : List Int} {id : Int} {F : FrD} (h : finF psk id F = true) (y : List Int) : ofF psk { finD psk id F with proof := y } = proofK psk id F.cn F.sn F.tick F.cookie := by
 rw [finD_yes h]; rfl
theorem fin_proof {psk : List Int} {id : Int} {F : FrD} (h : finF psk id F = true) : (finD psk id F).proof = proofK psk id F.cn F.sn F.tick F.cookie := by rw [finD_yes h]
theorem fin_kind {psk : List Int} {id : Int} {F : FrD} (h : finF psk id F = true) : (finD psk id F).kind = 3 ∧ (finD psk id F).id = id ∧ (finD psk id F).cn = F.cn ∧ (finD psk id F).sn = F.sn ∧ (finD psk id F).cookie = F.cookie ∧ (finD psk id F).tick = F.tick := by
 rw [finD_yes h]; exact ⟨rfl, rfl, rfl, rfl, rfl, rfl⟩
theorem fin_turn {psk : List Int} {id : Int} {F : FrD} (h : finF psk id F = true) (y : List Int) (hy : y.length = 16) : pOk psk { finD psk id F with proof := y } = sameI y (finD psk id F).proof := by
 rw [pOk_3 (fin_ok h y hy) (by rw [show ({ finD psk id F with proof := y } : FrD).kind = (finD psk id F).kind from rfl, (fin_kind h).1]; rfl), fin_of h y, fin_proof h]
theorem fin_self {psk : List Int} {id : Int} {F : FrD} (h : finF psk id F = true) : frameOk (finD psk id F) = true := fin_ok h (finD psk id F).proof (by rw [fin_proof h]; exact fin_len h)
theorem fin_right {psk : List Int} {id : Int} {F : FrD} (h : finF psk id F = true) : pOk psk (finD psk id F) = sameI (finD psk id F).proof (finD psk id F).proof := fin_turn h (finD psk id F).proof (by rw [fin_proof h]; exact fin_len h)
end Go.Proofs.YtpenhliaelhnoaaGreatDoor.KeZ

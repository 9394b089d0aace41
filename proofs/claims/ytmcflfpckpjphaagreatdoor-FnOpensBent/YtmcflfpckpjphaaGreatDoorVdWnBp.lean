/-
  What is taken into a window is had then, and is taken no more; what was had is had still, if it is not too old.
-/
import Derived.Test.YtmcflfpckpjphaaGreatDoorVdBas2
set_option maxRecDepth 100000
namespace Go.Proofs.YtmcflfpckpjphaaGreatDoor.WnBp
open Go.RowKit WnZ WinP WnK

theorem may_parts {top : Int} {l : List Int} {n : Int} (h : WinP.may top l n = true) : 0 ≤ n ∧ n ≤ 281474976710655 ∧ top - 1024 < n ∧ (top < n ∨ bit l n.toNat = false) := by
 unfold WinP.may at h
 rw [Bool.and_eq_true, decide_eq_true_iff, Bool.or_eq_true, decide_eq_true_iff] at h
 exact ⟨h.1.1, h.1.2.1, h.1.2.2, by simpa using h.2⟩
theorem bit_in {top : Int} {l : List Int} {n : Int} (h : winMay top l n = true) {z : Int} (h0 : 0 ≤ z) (h2 : z ≤ max top n) (h3 : max top n - 1024 < z) :
  bit (addL top l n.toNat) z.toNat = true ↔ (z = n ∨ (z ≤ top ∧ bit l z.toNat = true)) := by
 obtain ⟨hw, hm⟩ := winMay_ok h
 obtain ⟨m0, m1, m2, m3⟩ := may_parts hm
 have q := add_taken (top := top) (l := l) n.toNat z.toNat hw.len hw.lo (by omega) (by omega) (by omega)
 rw [q]
 constructor
 ·
  rintro (a | ⟨a, b⟩)
  ·
   exact .inl (by omega)
  ·
   exact .inr ⟨by omega, b⟩
 ·
  rintro (a | ⟨a, b⟩)
  ·
   exact .inl (by omega)
  ·
   exact .inr ⟨by omega, b⟩
theorem took_ok {D : WnD} {n : Int} (h : winMay D.top D.bits n = true) : winOk (addD D n).top (addD D n).bits = true := by
 rw [add_yes h]; exact winOk_true (add_ok (winMay_ok h).1 (winMay_ok h).2)
theorem took_has {D : WnD} {n : Int} (h : winMay D.top D.bits n = true) : winHas (addD D n).top (addD D n).bits n = true := by
 have ok := took_ok h
 rw [add_yes h] at ok ⊢
 obtain ⟨hw, hm⟩ := winMay_ok h
 obtain ⟨m0, m1, m2, m3⟩ := may_parts hm
 unfold winHas has
 rw [ok, decide_eq_true (by show 0 ≤ n ∧ n ≤ max D.top n ∧ max D.top n - 1024 < n; omega), (bit_in h m0 (by omega) (by omega)).2 (.inl rfl)]; rfl
theorem had_not {D : WnD} {n : Int} (h : winMay D.top D.bits n = true) : winHas D.top D.bits n = false := by
 obtain ⟨hw, hm⟩ := winMay_ok h
 obtain ⟨m0, m1, m2, m3⟩ := may_parts hm
 unfold winHas has
 rcases m3 with m3 | m3
 ·
  have e : decide (0 ≤ n ∧ n ≤ D.top ∧ D.top - 1024 < n) = false := decide_eq_false (by omega)
  rw [e]; simp
 ·
  rw [m3]; simp
end Go.Proofs.YtmcflfpckpjphaaGreatDoor.WnBp

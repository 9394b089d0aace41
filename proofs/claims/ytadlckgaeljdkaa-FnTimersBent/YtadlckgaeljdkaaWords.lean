/-
  What spec's l1In, l2Words and l2K and impl's list of eight words answer, at every slice of ints of at most 4,194,304.
-/
import Derived.Test.YtadlckgaeljdkaaSched
namespace Go.Proofs.Ytadlckgaeljdkaa.Words
open Go.RowKit Go.Proofs.Ytadlckgaeljdkaa.Mem Go.Proofs.Ytadlckgaeljdkaa.MemI Go.Proofs.Ytadlckgaeljdkaa.Blk Go.Proofs.Ytadlckgaeljdkaa.App Go.Proofs.Ytadlckgaeljdkaa.Get Go.Proofs.Ytadlckgaeljdkaa.ShaP Go.Proofs.Ytadlckgaeljdkaa.Word Go.Proofs.Ytadlckgaeljdkaa.Bits Go.Proofs.Ytadlckgaeljdkaa.Sched

def isIn (x a b : Int) : Bool := decide (a ≤ x ∧ x ≤ b)
set_option maxRecDepth 100000 in
theorem isIn_no {x a b : Int} (h : ¬ (a ≤ x ∧ x ≤ b)) : isIn x a b = false := by unfold isIn; exact decide_eq_false h
set_option maxRecDepth 100000 in
theorem isIn_yes {x a b : Int} (h : a ≤ x ∧ x ≤ b) : isIn x a b = true := by unfold isIn; exact decide_eq_true h

set_option maxRecDepth 100000 in
theorem l1In (x a b : Int) (w : World) :
    Calls Try.prog 32 #[.int .i64 x, .int .i64 a, .int .i64 b] w fun e w' => e = .returned (.bool (isIn x a b)) ∧ w = w' := by
  by_cases h1 : a ≤ x
  · by_cases h2 : x ≤ b
    · have H : Hid (isIn x a b = true) := isIn_yes ⟨h1, h2⟩
      go_enter Try.func32, Try.ntmps32
      go_wp2
      go_ret
      exact ⟨by rw [H.out]; simp, rfl⟩
    · have H : Hid (isIn x a b = false) := isIn_no (fun h => h2 h.2)
      go_enter Try.func32, Try.ntmps32
      go_wp2
      go_ret
      exact ⟨by rw [H.out]; simp, rfl⟩
  · have H : Hid (isIn x a b = false) := isIn_no (fun h => h1 h.1)
    go_enter Try.func32, Try.ntmps32
    go_wp2
    go_ret
    exact ⟨by rw [H.out]; simp, rfl⟩

/-- Eight words. -/
def okw (h : List Int) : Bool := decide (h.length = 8) && h.all (fun z => isIn z 0 4294967295)
set_option maxRecDepth 100000 in
theorem okw_iff (h : List Int) : okw h = true ↔ h.length = 8 ∧ Wds h := by
  simp only [okw, Bool.and_eq_true, decide_eq_true_eq, List.all_eq_true, isIn]
  exact Iff.rfl
set_option maxRecDepth 100000 in
theorem okw_bad {h : List Int} (i : Nat) (hb : ¬ Wd (h.getD i 0)) : okw h = false := by
  cases e : okw h with
  | false => rfl
  | true => exact absurd (((okw_iff h).1 e).2.at i) hb
set_option maxRecDepth 100000 in
theorem okw_len {h : List Int} (hb : h.length ≠ 8) : okw h = false := by simp [okw, hb]
set_option maxRecDepth 100000 in
theorem wds_of {h : List Int} {k : Nat} (hk : ¬ k < h.length) (hj : ∀ j, j < k → Wd (h.getD j 0)) : Wds h := by
  intro z hz
  obtain ⟨i, hi, rfl⟩ := List.getElem_of_mem hz
  have := hj i (by omega)
  simpa [List.getD, hi] using this

end Go.Proofs.Ytadlckgaeljdkaa.Words

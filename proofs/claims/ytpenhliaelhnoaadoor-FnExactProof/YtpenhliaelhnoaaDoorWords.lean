/-
  What spec's l1In, l2Words and l2K and impl's list of eight words answer, at every slice of ints of at most 4,194,304.
-/
import Derived.Test.YtpenhliaelhnoaaDoorSched
namespace Go.Proofs.YtpenhliaelhnoaaDoor.Words
open Go.RowKit Go.Proofs.YtpenhliaelhnoaaDoor.Mem Go.Proofs.YtpenhliaelhnoaaDoor.MemI Go.Proofs.YtpenhliaelhnoaaDoor.Blk Go.Proofs.YtpenhliaelhnoaaDoor.App Go.Proofs.YtpenhliaelhnoaaDoor.Get Go.Proofs.YtpenhliaelhnoaaDoor.ShaP Go.Proofs.YtpenhliaelhnoaaDoor.Word Go.Proofs.YtpenhliaelhnoaaDoor.Bits Go.Proofs.YtpenhliaelhnoaaDoor.Sched

def isIn (x a b : Int) : Bool := decide (a ≤ x ∧ x ≤ b)
set_option maxRecDepth 100000 in
theorem isIn_no {x a b : Int} (h : ¬ (a ≤ x ∧ x ≤ b)) : isIn x a b = false := by unfold isIn; exact decide_eq_false h
set_option maxRecDepth 100000 in
theorem isIn_yes {x a b : Int} (h : a ≤ x ∧ x ≤ b) : isIn x a b = true := by unfold isIn; exact decide_eq_true h

set_option maxRecDepth 100000 in
theorem l1In (x a b : Int) (w : World) :
    Calls Tryd.prog 49 #[.int .i64 x, .int .i64 a, .int .i64 b] w fun e w' => e = .returned (.bool (isIn x a b)) ∧ w = w' := by
  by_cases h1 : a ≤ x
  · by_cases h2 : x ≤ b
    · have H : Hid (isIn x a b = true) := isIn_yes ⟨h1, h2⟩
      go_enter Tryd.func49, Tryd.ntmps49
      go_wp2
      go_ret
      exact ⟨by rw [H.out]; simp, rfl⟩
    · have H : Hid (isIn x a b = false) := isIn_no (fun h => h2 h.2)
      go_enter Tryd.func49, Tryd.ntmps49
      go_wp2
      go_ret
      exact ⟨by rw [H.out]; simp, rfl⟩
  · have H : Hid (isIn x a b = false) := isIn_no (fun h => h1 h.1)
    go_enter Tryd.func49, Tryd.ntmps49
    go_wp2
    go_ret
    exact ⟨by rw [H.out]; simp, rfl⟩

/-- Eight words. -/
def okw (h : List Int) : Bool := decide (h.length = 8) && h.all (fun z => isIn z 0 4294967295)
set_option maxRecDepth 100000 in
theorem okw_iff (h : List Int) : okw h = true ↔ h.length = 8 ∧ Wds h := by
  simp only [okw, Bool.and_eq_true, decide_eq_true_eq, List.all_eq_true, isIn]
  exact Iff.rfl
set_option maxRecDepth 100000 in
theorem okw_bad {h : List Int} (i : Nat) (hb : ¬ Wd (h.getD i 0)) : okw h = false := by
  cases e : okw h with
  | false => rfl
  | true => exact absurd (((okw_iff h).1 e).2.at i) hb
set_option maxRecDepth 100000 in
theorem okw_len {h : List Int} (hb : h.length ≠ 8) : okw h = false := by simp [okw, hb]
set_option maxRecDepth 100000 in
theorem wds_of {h : List Int} {k : Nat} (hk : ¬ k < h.length) (hj : ∀ j, j < k → Wd (h.getD j 0)) : Wds h := by
  intro z hz
  obtain ⟨i, hi, rfl⟩ := List.getElem_of_mem hz
  have := hj i (by omega)
  simpa [List.getD, hi] using this

set_option maxRecDepth 100000 in
set_option maxHeartbeats 400000 in
theorem l2Words (a : Option Addr) (n cap : Nat) (h : List Int) (w : World) (hn : n = h.length) (hr : IRd w a h) (hl : n ≤ 4194304) :
    Calls Tryd.prog 83 #[.slice a n cap] w fun e w' => e = .returned (.bool (okw h)) ∧ w = w' := by
  subst hn
  go_enter Tryd.func83, Tryd.ntmps83
  go_wp2
  go_loop [3] (fun i => ∃ k : Nat, k ≤ h.length ∧ i = .int .i64 k ∧ (∀ j, j < k → Wd (h.getD j 0))) (fun i => h.length - (intOf i).toNat)
  case atStart => exact ⟨0, Nat.zero_le _, rfl, (fun j hj => by omega)⟩
  case round =>
    obtain ⟨k, hk, rfl, hj⟩ := hrel
    have HJ : Hid (∀ j, j < k → Wd (h.getD j 0)) := hj
    clear hj
    by_cases hlt : k < h.length
    · obtain ⟨b, off, rfl, _, hc⟩ := hr k hlt
      clear hr
      by_cases hw : Wd (h.getD k 0)
      · have HJ2 : Hid (∀ j, j < k + 1 → Wd (h.getD j 0)) := by
          intro j hj
          by_cases e : j = k
          · subst e; exact hw
          · exact HJ.out j (by omega)
        have hin : isIn (h.getD k 0) 0 4294967295 = true := isIn_yes hw
        clear hw
        generalize h.getD k 0 = z at *
        go_wp2_with fail
        refine (l1In z 0 4294967295 w).mono ?_
        rintro e w1 ⟨rfl, rfl⟩
        go_wp2
        go_round
        case rel => exact ⟨k + 1, by omega, by go_num, HJ2.out⟩
        case measure => simp [intOf]; omega
      · have HO : Hid (okw h = false) := okw_bad k hw
        have hin : isIn (h.getD k 0) 0 4294967295 = false := isIn_no hw
        clear hw
        generalize h.getD k 0 = z at *
        go_wp2_with fail
        refine (l1In z 0 4294967295 w).mono ?_
        rintro e w1 ⟨rfl, rfl⟩
        go_wp2
        go_ret
        exact ⟨by simp [HO.out], rfl⟩
    · clear hr
      have HWs : Hid (Wds h) := wds_of hlt HJ.out
      by_cases h8 : h.length = 8
      · have HO : Hid (okw h = true) := (okw_iff h).2 ⟨h8, HWs.out⟩
        have he : ((h.length : Int) == 8) = true := by simp [h8]
        clear h8
        go_wp2
        go_ret
        exact ⟨by rw [HO.out]; simp, rfl⟩
      · have HO : Hid (okw h = false) := okw_len h8
        have he : ((h.length : Int) == 8) = false := by simp; omega
        clear h8
        go_wp2
        go_ret
        exact ⟨by rw [HO.out]; simp, rfl⟩

set_option maxRecDepth 8000 in
theorem l2K (w : World) :
    Calls Tryd.prog 84 #[] w fun e w' => e = .returned (.slice (some ⟨w.heap.size, 0, none⟩) 64 64) ∧ IRow w' w.heap.size 64 kk ∧ Below w.heap.size w w' := by
  go_enter Tryd.func84, Tryd.ntmps84
  go_wp2
  go_ret
  exact ⟨rfl, irow_new w kk (by simp [maxLen, kk_length]), (Below.refl _ _).alloc (Nat.le_refl _) _⟩

end Go.Proofs.YtpenhliaelhnoaaDoor.Words

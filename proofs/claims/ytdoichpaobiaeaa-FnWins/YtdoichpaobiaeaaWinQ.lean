/-
  What the law FnWins keeps, as plain facts: the numbers that were taken, the window that they leave.
-/
import Derived.Test.YtdoichpaobiaeaaWinP
namespace Go.Proofs.Ytdoichpaobiaeaa.WinQ
open Go.Proofs.Ytdoichpaobiaeaa.WinP

/-- The numbers that were taken, of the first k. -/
noncomputable def gots (L : List Int) : Nat → List Int
  | 0 => []
  | k + 1 => gots L k ++ (if winMay (ofTop L k).1 (ofTop L k).2 (L.getD k 0) then [L.getD k 0] else [])
theorem gots_length (L : List Int) (k : Nat) : (gots L k).length ≤ k := by
  induction k with
  | zero => exact Nat.le_refl _
  | succ k ih =>
    rw [gots, List.length_append]
    split
    · simp; omega
    · simp; omega
structure Inv (top : Int) (l G : List Int) : Prop where
  ok : WOk top l
  mem : ∀ m : Nat, (m : Int) ≤ top → top - 1024 < m → (bit l m = true ↔ (m : Int) ∈ G)
  le : ∀ g ∈ G, 0 ≤ g ∧ g ≤ top
  nodup : G.Nodup
/-- The law's own word of which number may be taken. -/
def mayL (top : Int) (G : List Int) (z : Int) : Bool := decide (0 ≤ z) && decide (z < 281474976710656) && !(G.contains z) && decide (top - 1024 < z)
theorem inv_may {top : Int} {l G : List Int} (h : Inv top l G) (z : Int) : mayL top G z = winMay top l z := by
  unfold mayL winMay
  rw [winOk_true h.ok, Bool.true_and, Bool.eq_iff_iff]
  unfold may
  simp only [Bool.and_eq_true, decide_eq_true_eq, Bool.not_eq_true', Bool.or_eq_true, List.contains_iff_mem, Bool.eq_false_iff, ne_eq]
  constructor
  · rintro ⟨⟨⟨h1, h2⟩, h3⟩, h4⟩
    refine ⟨⟨h1, by omega, h4⟩, ?_⟩
    by_cases ht : top < z
    · exact .inl ht
    · refine .inr fun hb => h3 ?_
      have := (h.mem z.toNat (by omega) (by omega)).1 hb
      rwa [Int.toNat_of_nonneg h1] at this
  · rintro ⟨⟨h1, h2, h4⟩, h5⟩
    refine ⟨⟨⟨h1, by omega⟩, fun hm => ?_⟩, h4⟩
    rcases h5 with h5 | h5
    · have := (h.le z hm).2
      omega
    · by_cases ht : top < z
      · have := (h.le z hm).2
        omega
      · refine h5 ((h.mem z.toNat (by omega) (by omega)).2 ?_)
        rwa [Int.toNat_of_nonneg h1]
theorem inv_add {top : Int} {l G : List Int} (h : Inv top l G) {z : Int} (hm : winMay top l z = true) : Inv (max top z) (addL top l z.toNat) (G ++ [z]) := by
  have hml := (inv_may h z).trans hm
  unfold mayL at hml
  simp only [Bool.and_eq_true, decide_eq_true_eq, Bool.not_eq_true', Bool.eq_false_iff, ne_eq, List.contains_iff_mem] at hml
  obtain ⟨⟨⟨h1, h2⟩, h3⟩, h4⟩ := hml
  have hlo := h.ok.lo
  refine ⟨add_ok h.ok (winMay_ok hm).2, ?_, ?_, ?_⟩
  · intro m hm1 hm2
    have e := add_taken z.toNat m h.ok.len hlo (by omega) (by omega) (by omega)
    rw [e, List.mem_append, List.mem_singleton]
    constructor
    · rintro (h5 | ⟨h5, h6⟩)
      · exact .inr (by omega)
      · exact .inl ((h.mem m h5 (by omega)).1 h6)
    · rintro (h5 | h5)
      · have h6 := (h.le _ h5).2
        exact .inr ⟨h6, (h.mem m h6 (by omega)).2 h5⟩
      · exact .inl (by omega)
  · intro g hg
    rcases List.mem_append.1 hg with hg | hg
    · have := h.le g hg
      omega
    · rw [List.mem_singleton] at hg
      omega
  · rw [List.nodup_append]
    refine ⟨h.nodup, by simp, ?_⟩
    intro a ha b hb e
    rw [List.mem_singleton] at hb
    exact h3 (by rw [← hb, ← e]; exact ha)
theorem inv_of (L : List Int) (k : Nat) : Inv (ofTop L k).1 (ofTop L k).2 (gots L k) := by
  induction k with
  | zero => exact ⟨new_ok, fun m h1 _ => absurd h1 (by show ¬ (m : Int) ≤ -1; omega), (fun g hg => by cases hg), List.nodup_nil⟩
  | succ k ih =>
    by_cases hm : winMay (ofTop L k).1 (ofTop L k).2 (L.getD k 0) = true
    · have e1 : ofTop L (k + 1) = (max (ofTop L k).1 (L.getD k 0), addL (ofTop L k).1 (ofTop L k).2 (L.getD k 0).toNat) := by
        rw [ofTop]; unfold addTop addBits; rw [if_pos hm, if_pos hm]
      have e2 : gots L (k + 1) = gots L k ++ [L.getD k 0] := by rw [gots, if_pos hm]
      rw [e1, e2]
      exact inv_add ih hm
    · have e1 : ofTop L (k + 1) = ofTop L k := by
        rw [ofTop]; unfold addTop addBits; rw [if_neg hm, if_neg hm]
      have e2 : gots L (k + 1) = gots L k := by rw [gots, if_neg hm, List.append_nil]
      rw [e1, e2]
      exact ih
/-- What is told to be taken was, and is not too old; there are as many of it. -/
theorem inv_has {top : Int} {l G : List Int} (h : Inv top l G) {g : Int} (hg : g ∈ G) (hn : top - 1024 < g) : winHas top l g = true := by
  have h1 := h.le g hg
  unfold winHas has
  rw [winOk_true h.ok, decide_eq_true ⟨h1.1, h1.2, hn⟩]
  have := (h.mem g.toNat (by omega) (by omega)).2 (by rwa [Int.toNat_of_nonneg h1.1])
  rw [this]; rfl
theorem inv_count {top : Int} {l G : List Int} (h : Inv top l G) : (G.filter (fun g => decide (top - 1024 < g))).length = (winList top l).length := by
  apply List.Perm.length_eq
  rw [List.perm_ext_iff_of_nodup (h.nodup.filter _) ((winList_sorted top l).imp (fun h => Int.ne_of_lt h))]
  intro z
  rw [List.mem_filter, winList_mem, decide_eq_true_iff]
  constructor
  · rintro ⟨h1, h2⟩
    exact inv_has h h1 h2
  · intro h1
    unfold winHas has at h1
    simp only [Bool.and_eq_true, decide_eq_true_eq] at h1
    obtain ⟨_, ⟨h2, h3, h4⟩, h5⟩ := h1
    refine ⟨?_, h4⟩
    have := (h.mem z.toNat (by omega) (by omega)).1 h5
    rwa [Int.toNat_of_nonneg h2] at this
def cnt (G : List Int) (top : Int) (k : Nat) : Nat := ((G.take k).filter (fun g => decide (top - 1024 < g))).length
theorem cnt_le (G : List Int) (top : Int) (k : Nat) : cnt G top k ≤ k := by
  unfold cnt
  refine Nat.le_trans (List.length_filter_le _ _) ?_
  rw [List.length_take]; omega
theorem cnt_step (G : List Int) (top : Int) (k : Nat) (hk : k < G.length) : cnt G top (k + 1) = cnt G top k + (if top - 1024 < G.getD k 0 then 1 else 0) := by
  unfold cnt
  have e : G.getD k 0 = G[k] := by simp [List.getD, hk]
  rw [List.take_succ_eq_append_getElem hk, List.filter_append, List.length_append, e]
  congr 1
  by_cases h : top - 1024 < G[k]
  · simp [h]
  · simp [h]
theorem cnt_end {top : Int} {l G : List Int} (h : Inv top l G) : cnt G top G.length = (winList top l).length := by
  unfold cnt
  rw [List.take_length]
  exact inv_count h
theorem sorted_at {l : List Int} (h : l.Pairwise (· < ·)) {i : Nat} (hi : i + 1 < l.length) : l.getD i 0 < l.getD (i + 1) 0 := by
  have := List.pairwise_iff_getElem.1 h i (i + 1) (by omega) hi (by omega)
  simpa [List.getD, hi, show i < l.length by omega] using this
theorem mem_at {l : List Int} {i : Nat} (hi : i < l.length) : l.getD i 0 ∈ l := by simp [List.getD, hi]
theorem contains_step (G : List Int) (z : Int) (j : Nat) (hj : j < G.length) : (G.take (j + 1)).contains z = ((G.take j).contains z || (G.getD j 0 == z)) := by
  have e : G.getD j 0 = G[j] := by simp [List.getD, hj]
  rw [List.take_succ_eq_append_getElem hj, e, Bool.eq_iff_iff]
  simp only [List.contains_iff_mem, List.mem_append, List.mem_singleton, Bool.or_eq_true, beq_iff_eq]
  constructor
  · rintro (h | h)
    · exact .inl h
    · exact .inr h.symm
  · rintro (h | h)
    · exact .inl h
    · exact .inr h.symm
end Go.Proofs.Ytdoichpaobiaeaa.WinQ

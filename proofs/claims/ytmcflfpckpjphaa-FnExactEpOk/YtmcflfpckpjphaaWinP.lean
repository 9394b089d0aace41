/-
  Windows as plain functions: a greatest number and 32 words; which numbers are taken, which may be, what is left when one is added, and what a list of them leaves.
-/
import Derived.Test.YtmcflfpckpjphaaBits
namespace Go.Proofs.Ytmcflfpckpjphaa.WinP
open Go.Proofs.Ytmcflfpckpjphaa.Bits

/-- Every number is a word of 32 bits. -/
def Words (l : List Int) : Prop := ∀ z ∈ l, 0 ≤ z ∧ z ≤ 4294967295
theorem Words.at {l : List Int} (h : Words l) (i : Nat) : 0 ≤ l.getD i 0 ∧ l.getD i 0 ≤ 4294967295 := by
  by_cases hi : i < l.length
  · simpa [List.getD, hi] using h _ (List.getElem_mem hi)
  · simp [List.getD, List.getElem?_eq_none (Nat.le_of_not_lt hi)]
theorem Words.set {l : List Int} (h : Words l) (i : Nat) (z : Int) (hz : 0 ≤ z ∧ z ≤ 4294967295) : Words (l.set i z) := by
  intro x hx
  rcases List.mem_or_eq_of_mem_set hx with h1 | rfl
  · exact h x h1
  · exact hz

/-- The bit of the number n. -/
def bit (l : List Int) (n : Nat) : Bool := (l.getD (n % 1024 / 32) 0).toNat.testBit (n % 32)
theorem bit_mod (l : List Int) (n : Nat) : bit l (n % 1024) = bit l n := by
  unfold bit
  rw [Nat.mod_mod, show n % 1024 % 32 = n % 32 by omega]

def clrN (x k : Nat) : Nat := x ^^^ (x &&& 2 ^ k)
def setN (x k : Nat) : Nat := x ||| 2 ^ k
theorem clrN_bit (x k j : Nat) : (clrN x k).testBit j = (x.testBit j && !decide (k = j)) := by
  unfold clrN
  rw [Nat.testBit_xor, Nat.testBit_and, Nat.testBit_two_pow]
  cases x.testBit j <;> cases decide (k = j) <;> rfl
theorem setN_bit (x k j : Nat) : (setN x k).testBit j = (x.testBit j || decide (k = j)) := by
  unfold setN
  rw [Nat.testBit_or, Nat.testBit_two_pow]
theorem clrN_lt (x k : Nat) (h : x < 4294967296) : clrN x k < 4294967296 := by
  have := Nat.xor_lt_two_pow (n := 32) (show x < 2 ^ 32 by omega) (Nat.lt_of_le_of_lt Nat.and_le_left (show x < 2 ^ 32 by omega) : x &&& 2 ^ k < 2 ^ 32)
  unfold clrN; omega
theorem setN_lt (x k : Nat) (h : x < 4294967296) (hk : k < 32) : setN x k < 4294967296 := by
  have := Nat.or_lt_two_pow (n := 32) (show x < 2 ^ 32 by omega) (Nat.pow_lt_pow_right (by omega) hk : 2 ^ k < 2 ^ 32)
  unfold setN; omega

/-- The bit of place j cleared, set. -/
def clrL (l : List Int) (j : Nat) : List Int := l.set (j / 32) (clrN (l.getD (j / 32) 0).toNat (j % 32) : Nat)
def setL (l : List Int) (j : Nat) : List Int := l.set (j / 32) (setN (l.getD (j / 32) 0).toNat (j % 32) : Nat)
theorem clrL_length (l : List Int) (j : Nat) : (clrL l j).length = l.length := by simp [clrL]
theorem setL_length (l : List Int) (j : Nat) : (setL l j).length = l.length := by simp [setL]
theorem clrL_words {l : List Int} (h : Words l) (j : Nat) : Words (clrL l j) := by
  have := h.at (j / 32)
  have := clrN_lt (l.getD (j / 32) 0).toNat (j % 32) (by omega)
  exact h.set _ _ (by omega)
theorem setL_words {l : List Int} (h : Words l) (j : Nat) : Words (setL l j) := by
  have := h.at (j / 32)
  have := setN_lt (l.getD (j / 32) 0).toNat (j % 32) (by omega) (by omega)
  exact h.set _ _ (by omega)
theorem getD_set_self (l : List Int) (i : Nat) (z : Int) (h : i < l.length) : (l.set i z).getD i 0 = z := by simp [List.getD, h]
theorem getD_set_ne (l : List Int) (i k : Nat) (z : Int) (h : i ≠ k) : (l.set i z).getD k 0 = l.getD k 0 := by simp [List.getD, List.getElem?_set_ne h]
theorem clrL_bit (l : List Int) (j m : Nat) (hl : l.length = 32) (hj : j < 1024) : bit (clrL l j) m = (bit l m && !decide (j = m % 1024)) := by
  unfold bit clrL
  by_cases h : j / 32 = m % 1024 / 32
  · rw [← h, getD_set_self _ _ _ (by omega), Int.toNat_natCast, clrN_bit]
    congr 2
    exact decide_eq_decide.2 ⟨fun _ => by omega, fun _ => by omega⟩
  · rw [getD_set_ne _ _ _ _ h, decide_eq_false (by omega)]
    simp
theorem setL_bit (l : List Int) (j m : Nat) (hl : l.length = 32) (hj : j < 1024) : bit (setL l j) m = (bit l m || decide (j = m % 1024)) := by
  unfold bit setL
  by_cases h : j / 32 = m % 1024 / 32
  · rw [← h, getD_set_self _ _ _ (by omega), Int.toNat_natCast, setN_bit]
    congr 1
    exact decide_eq_decide.2 ⟨fun _ => by omega, fun _ => by omega⟩
  · rw [getD_set_ne _ _ _ _ h, decide_eq_false (by omega)]
    simp
/-- Words are told by their bits. -/
theorem bit_ext {l l' : List Int} (h : l.length = 32) (h' : l'.length = 32) (w : Words l) (w' : Words l') (e : ∀ m, m < 1024 → bit l m = bit l' m) : l = l' := by
  apply List.ext_getElem (by omega)
  intro i h1 h2
  have a1 := w.at i
  have a2 := w'.at i
  have e1 : l.getD i 0 = l[i] := by simp [List.getD, h1]
  have e2 : l'.getD i 0 = l'[i] := by simp [List.getD, h2]
  rw [← e1, ← e2]
  have : (l.getD i 0).toNat = (l'.getD i 0).toNat := by
    apply Nat.eq_of_testBit_eq
    intro k
    by_cases hk : k < 32
    · have := e (32 * i + k) (by omega)
      unfold bit at this
      rwa [show (32 * i + k) % 1024 / 32 = i by omega, show (32 * i + k) % 32 = k by omega] at this
    · have p : (2 : Nat) ^ 32 ≤ 2 ^ k := Nat.pow_le_pow_right (by omega) (by omega)
      rw [Nat.testBit_lt_two_pow (by omega), Nat.testBit_lt_two_pow (by omega)]
  omega

/-- The places of a, a + 1, .. cleared, k of them. -/
def clrs (l : List Int) (a : Nat) : Nat → List Int
  | 0 => l
  | k + 1 => clrL (clrs l a k) ((a + k) % 1024)
theorem clrs_length (l : List Int) (a k : Nat) : (clrs l a k).length = l.length := by
  induction k with
  | zero => rfl
  | succ k ih => rw [clrs, clrL_length, ih]
theorem clrs_words {l : List Int} (h : Words l) (a k : Nat) : Words (clrs l a k) := by
  induction k with
  | zero => exact h
  | succ k ih => exact clrL_words ih _
theorem clrs_bit (l : List Int) (a k m : Nat) (hl : l.length = 32) : bit (clrs l a k) m = true ↔ (bit l m = true ∧ ∀ i, a ≤ i → i < a + k → i % 1024 ≠ m % 1024) := by
  induction k with
  | zero => exact ⟨fun h => ⟨h, fun i h1 h2 => by omega⟩, fun h => h.1⟩
  | succ k ih =>
    rw [clrs, clrL_bit _ _ _ (by rw [clrs_length, hl]) (by omega)]
    simp only [Bool.and_eq_true, ih, Bool.not_eq_true', decide_eq_false_iff_not]
    constructor
    · rintro ⟨⟨h1, h2⟩, h3⟩
      refine ⟨h1, fun i h4 h5 => ?_⟩
      by_cases hi : i = a + k
      · rw [hi]; exact h3
      · exact h2 i h4 (by omega)
    · rintro ⟨h1, h2⟩
      exact ⟨⟨h1, fun i h3 h4 => h2 i h3 (by omega)⟩, h2 _ (by omega) (by omega)⟩
/-- The places of n, n - 1, .. cleared, k of them. -/
def down (l : List Int) (n : Nat) : Nat → List Int
  | 0 => l
  | k + 1 => clrL (down l n k) ((n - k) % 1024)
theorem down_length (l : List Int) (a k : Nat) : (down l a k).length = l.length := by
  induction k with
  | zero => rfl
  | succ k ih => rw [down, clrL_length, ih]
theorem down_words {l : List Int} (h : Words l) (a k : Nat) : Words (down l a k) := by
  induction k with
  | zero => exact h
  | succ k ih => exact clrL_words ih _
theorem down_bit (l : List Int) (n k m : Nat) (hl : l.length = 32) (hk : k ≤ n + 1) : bit (down l n k) m = true ↔ (bit l m = true ∧ ∀ i, n + 1 - k ≤ i → i ≤ n → i % 1024 ≠ m % 1024) := by
  induction k with
  | zero => exact ⟨fun h => ⟨h, fun i h1 h2 => by omega⟩, fun h => h.1⟩
  | succ k ih =>
    rw [down, clrL_bit _ _ _ (by rw [down_length, hl]) (by omega)]
    simp only [Bool.and_eq_true, ih (by omega), Bool.not_eq_true', decide_eq_false_iff_not]
    constructor
    · rintro ⟨⟨h1, h2⟩, h3⟩
      refine ⟨h1, fun i h4 h5 => ?_⟩
      by_cases hi : i = n - k
      · rw [hi]; exact h3
      · exact h2 i (by omega) h5
    · rintro ⟨h1, h2⟩
      exact ⟨⟨h1, fun i h3 h4 => h2 i (by omega) h4⟩, h2 _ (by omega) (by omega)⟩
/-- However the places of a leap are gone through, the same is left. -/
theorem down_clrs (l : List Int) (a n : Nat) (hl : l.length = 32) (w : Words l) (h : a ≤ n + 1) : down l n (min (n + 1 - a) 1024) = clrs l a (min (n + 1 - a) 1024) := by
  apply bit_ext (by rw [down_length, hl]) (by rw [clrs_length, hl]) (down_words w _ _) (clrs_words w _ _)
  intro m hm
  rw [Bool.eq_iff_iff, down_bit l n _ m hl (by omega), clrs_bit l a _ m hl]
  by_cases hk : n + 1 - a ≤ 1024
  · rw [Nat.min_eq_left hk]
    exact ⟨fun h => ⟨h.1, fun i h1 h2 => h.2 i (by omega) (by omega)⟩, fun h => ⟨h.1, fun i h1 h2 => h.2 i (by omega) (by omega)⟩⟩
  · rw [Nat.min_eq_right (by omega)]
    constructor
    · rintro ⟨_, h2⟩
      exact absurd (by omega) (h2 (n - (n % 1024 + 1024 - m) % 1024) (by omega) (by omega))
    · rintro ⟨_, h2⟩
      exact absurd (by omega) (h2 (a + (m + 1024 - a % 1024) % 1024) (by omega) (by omega))

/-- A window is right. -/
structure WOk (top : Int) (l : List Int) : Prop where
  len : l.length = 32
  lo : -1 ≤ top
  hi : top ≤ 281474976710655
  words : Words l
  taken : 0 ≤ top → bit l top.toNat = true
  free : ∀ n : Nat, top < (n : Int) → n < 1024 → bit l n = false
open Classical in
noncomputable def winOk (top : Int) (l : List Int) : Bool := decide (WOk top l)
theorem winOk_iff {top : Int} {l : List Int} : winOk top l = true ↔ WOk top l := by unfold winOk; simp
theorem winOk_true {top : Int} {l : List Int} (h : WOk top l) : winOk top l = true := winOk_iff.2 h
theorem winOk_false {top : Int} {l : List Int} (h : ¬ WOk top l) : winOk top l = false := Bool.eq_false_iff.2 fun e => h (winOk_iff.1 e)

def has (top : Int) (l : List Int) (n : Int) : Bool := decide (0 ≤ n ∧ n ≤ top ∧ top - 1024 < n) && bit l n.toNat
def may (top : Int) (l : List Int) (n : Int) : Bool := decide (0 ≤ n ∧ n ≤ 281474976710655 ∧ top - 1024 < n) && (decide (top < n) || !bit l n.toNat)
noncomputable def winHas (top : Int) (l : List Int) (n : Int) : Bool := winOk top l && has top l n
noncomputable def winMay (top : Int) (l : List Int) (n : Int) : Bool := winOk top l && may top l n

def addL (top : Int) (l : List Int) (n : Nat) : List Int := setL (clrs l (top + 1).toNat (min ((n : Int) - top).toNat 1024)) (n % 1024)
noncomputable def addTop (top : Int) (l : List Int) (n : Int) : Int := if winMay top l n then max top n else top
noncomputable def addBits (top : Int) (l : List Int) (n : Int) : List Int := if winMay top l n then addL top l n.toNat else l

theorem addL_length (top : Int) (l : List Int) (n : Nat) : (addL top l n).length = l.length := by unfold addL; rw [setL_length, clrs_length]
theorem addL_words {l : List Int} (h : Words l) (top : Int) (n : Nat) : Words (addL top l n) := setL_words (clrs_words h _ _) _
theorem addL_bit (top : Int) (l : List Int) (n m : Nat) (hl : l.length = 32) (ht : -1 ≤ top) :
    bit (addL top l n) m = true ↔ (n % 1024 = m % 1024 ∨ (bit l m = true ∧ ∀ i : Nat, top < (i : Int) → i ≤ n → (i : Int) ≤ top + 1024 → i % 1024 ≠ m % 1024)) := by
  unfold addL
  rw [setL_bit _ _ _ (by rw [clrs_length, hl]) (by omega), Bool.or_eq_true, clrs_bit _ _ _ _ hl, decide_eq_true_iff]
  constructor
  · rintro (⟨h1, h2⟩ | h)
    · exact .inr ⟨h1, fun i h3 h4 h5 => h2 i (by omega) (by omega)⟩
    · exact .inl h
  · rintro (h | ⟨h1, h2⟩)
    · exact .inr h
    · exact .inl ⟨h1, fun i h3 h4 => h2 i (by omega) (by omega) (by omega)⟩
/-- What is taken behind: n, and what was, as far as it is not too old. -/
theorem add_taken {top : Int} {l : List Int} (n m : Nat) (hl : l.length = 32) (ht : -1 ≤ top) (h1 : top - 1024 < (n : Int)) (h2 : (m : Int) ≤ max top n) (h3 : max top n - 1024 < (m : Int)) :
    bit (addL top l n) m = true ↔ (m = n ∨ ((m : Int) ≤ top ∧ bit l m = true)) := by
  rw [addL_bit top l n m hl ht]
  constructor
  · rintro (h | ⟨h4, h5⟩)
    · exact .inl (by omega)
    · by_cases hm : (m : Int) ≤ top
      · exact .inr ⟨hm, h4⟩
      · exfalso
        by_cases hk : (m : Int) ≤ top + 1024
        · exact h5 m (by omega) (by omega) hk rfl
        · exact h5 ((top + 1).toNat + (m + 1024 - (top + 1).toNat % 1024) % 1024) (by omega) (by omega) (by omega) (by omega)
  · rintro (rfl | ⟨h4, h5⟩)
    · exact .inl rfl
    · exact .inr ⟨h5, fun i h6 h7 h8 => by omega⟩
theorem add_ok {top : Int} {l : List Int} {n : Int} (h : WOk top l) (hm : may top l n = true) : WOk (max top n) (addL top l n.toNat) := by
  unfold may at hm
  rw [Bool.and_eq_true, decide_eq_true_iff] at hm
  obtain ⟨⟨h1, h2, h3⟩, h4⟩ := hm
  have := h.lo
  have := h.hi
  refine ⟨by rw [addL_length, h.len], by omega, by omega, addL_words h.words _ _, ?_, ?_⟩
  · intro h5
    rw [add_taken n.toNat _ h.len h.lo (by omega) (by omega) (by omega)]
    by_cases hn : top < n
    · exact .inl (by omega)
    · have e : max top n = top := by omega
      rw [e]
      exact .inr ⟨by omega, h.taken (by omega)⟩
  · intro m h5 h6
    rw [Bool.eq_false_iff, ne_eq, addL_bit top l _ m h.len h.lo]
    rintro (h7 | ⟨h7, _⟩)
    · omega
    · rw [h.free m (by omega) h6] at h7
      cases h7
theorem winMay_ok {top : Int} {l : List Int} {n : Int} (h : winMay top l n = true) : WOk top l ∧ may top l n = true := by
  unfold winMay at h
  rw [Bool.and_eq_true, winOk_iff] at h
  exact h
theorem addBits_ok {top : Int} {l : List Int} (n : Int) (h : WOk top l) : WOk (addTop top l n) (addBits top l n) := by
  unfold addTop addBits
  by_cases hm : winMay top l n = true
  · rw [if_pos hm, if_pos hm]
    exact add_ok h (winMay_ok hm).2
  · rw [if_neg hm, if_neg hm]
    exact h

/-- The least number that is not too old. -/
def least (top : Int) : Int := if top < 1024 then 0 else top - 1024 + 1
def lst (l : List Int) (a : Nat) : Nat → List Int
  | 0 => []
  | k + 1 => lst l a k ++ (if bit l (a + k) then [((a + k : Nat) : Int)] else [])
theorem lst_length (l : List Int) (a k : Nat) : (lst l a k).length ≤ k := by
  induction k with
  | zero => exact Nat.le_refl _
  | succ k ih =>
    rw [lst, List.length_append]
    split
    · simp; omega
    · simp; omega
theorem lst_mem (l : List Int) (a k : Nat) (z : Int) : z ∈ lst l a k ↔ ∃ n : Nat, z = n ∧ a ≤ n ∧ n < a + k ∧ bit l n = true := by
  induction k with
  | zero => exact ⟨(fun h => by cases h), (fun ⟨n, _, h1, h2, _⟩ => by omega)⟩
  | succ k ih =>
    rw [lst, List.mem_append, ih]
    constructor
    · rintro (⟨n, h1, h2, h3, h4⟩ | h)
      · exact ⟨n, h1, h2, by omega, h4⟩
      · split at h
        · rename_i hb
          exact ⟨a + k, by simpa using h, by omega, by omega, hb⟩
        · cases h
    · rintro ⟨n, h1, h2, h3, h4⟩
      by_cases hn : n = a + k
      · refine .inr ?_
        rw [← hn, if_pos h4, h1]
        exact List.mem_singleton.2 rfl
      · exact .inl ⟨n, h1, h2, by omega, h4⟩
theorem lst_sorted (l : List Int) (a k : Nat) : (lst l a k).Pairwise (· < ·) := by
  induction k with
  | zero => exact List.Pairwise.nil
  | succ k ih =>
    rw [lst, List.pairwise_append]
    refine ⟨ih, ?_, ?_⟩
    · split
      · exact List.pairwise_singleton _ _
      · exact List.Pairwise.nil
    · intro x hx y hy
      obtain ⟨n, rfl, _, h1, _⟩ := (lst_mem l a k x).1 hx
      split at hy
      · obtain rfl : y = ((a + k : Nat) : Int) := by simpa using hy
        omega
      · cases hy
noncomputable def winList (top : Int) (l : List Int) : List Int := if winOk top l then lst l (least top).toNat (top + 1 - least top).toNat else []
theorem winList_length (top : Int) (l : List Int) : (winList top l).length ≤ 1024 := by
  unfold winList
  split
  · refine Nat.le_trans (lst_length _ _ _) ?_
    unfold least
    split <;> omega
  · exact Nat.zero_le _
theorem winList_mem (top : Int) (l : List Int) (z : Int) : z ∈ winList top l ↔ winHas top l z = true := by
  unfold winList winHas has
  by_cases h : winOk top l = true
  · have w := winOk_iff.1 h
    rw [if_pos h, h, lst_mem]
    simp only [Bool.true_and, Bool.and_eq_true, decide_eq_true_iff]
    unfold least
    have := w.lo
    constructor
    · rintro ⟨n, rfl, h1, h2, h3⟩
      refine ⟨?_, by simpa using h3⟩
      split at h1 <;> split at h2 <;> omega
    · rintro ⟨h1, h2⟩
      refine ⟨z.toNat, by omega, ?_, ?_, h2⟩
      · split <;> omega
      · split <;> omega
  · rw [if_neg h, Bool.eq_false_iff.2 h]
    simp
theorem winList_sorted (top : Int) (l : List Int) : (winList top l).Pairwise (· < ·) := by
  unfold winList
  split
  · exact lst_sorted _ _ _
  · exact List.Pairwise.nil

def zeros : List Int := List.replicate 32 0
theorem zeros_bit (m : Nat) : bit zeros m = false := by
  unfold bit zeros
  have : (List.replicate 32 (0 : Int)).getD (m % 1024 / 32) 0 = 0 := by
    rw [List.getD, List.getElem?_replicate]
    split <;> rfl
  rw [this]; simp
theorem new_ok : WOk (-1) zeros := by
  refine ⟨rfl, by omega, by omega, ?_, fun h => by omega, fun n _ _ => zeros_bit n⟩
  intro z hz
  have := List.eq_of_mem_replicate hz
  omega
/-- What a list leaves. -/
noncomputable def ofTop (l : List Int) : Nat → Int × List Int
  | 0 => (-1, zeros)
  | k + 1 => (addTop (ofTop l k).1 (ofTop l k).2 (l.getD k 0), addBits (ofTop l k).1 (ofTop l k).2 (l.getD k 0))
theorem of_ok (l : List Int) (k : Nat) : WOk (ofTop l k).1 (ofTop l k).2 := by
  induction k with
  | zero => exact new_ok
  | succ k ih => exact addBits_ok _ ih
end Go.Proofs.Ytmcflfpckpjphaa.WinP

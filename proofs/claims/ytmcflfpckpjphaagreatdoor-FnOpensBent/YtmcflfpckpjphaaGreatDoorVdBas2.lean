/-
  Windows as plain functions: a greatest number and 32 words; which numbers are taken, which may be, what is left when one is added, and what a list of them leaves.
  Words and their bits, as the program's and the specification's operations reckon them.
  impl's windows while they are worked on: a struct of a number and 32 words, behind a pointer.
  impl's windows: what room a word has, whether a window is right, reading one from what it tells, telling it, listing it.
  impl's windows: a new one, one read from what it tells, telling it, listing it.
  The specification's windows: whether one is right, has a number, may take one.
  impl.windowOf: the window that a Win tells, if it is right.
  What impl's WinNew, WinOk, WinHas, WinMay, WinAdd, WinList and WinOf answer at every window, number and list.
-/
import Derived.Test.YtmcflfpckpjphaaGreatDoorVdBas1
set_option linter.unusedVariables false
set_option maxRecDepth 100000
namespace Go.Proofs.YtmcflfpckpjphaaGreatDoor.WinP
open Bits

def Words (l : List Int) : Prop := ∀ z ∈ l, 0 ≤ z ∧ z ≤ 4294967295
theorem Words.at {l : List Int} (h : Words l) (i : Nat) : 0 ≤ l.getD i 0 ∧ l.getD i 0 ≤ 4294967295 := by
 by_cases hi : i < l.length
 ·
  simpa [List.getD, hi] using h _ (List.getElem_mem hi)
 ·
  simp [List.getD, List.getElem?_eq_none (Nat.le_of_not_lt hi)]
theorem Words.set {l : List Int} (h : Words l) (i : Nat) (z : Int) (hz : 0 ≤ z ∧ z ≤ 4294967295) : Words (l.set i z) := by
 intro x hx
 rcases List.mem_or_eq_of_mem_set hx with h1 | rfl
 ·
  exact h x h1
 ·
  exact hz

def bit (l : List Int) (n : Nat) : Bool := (l.getD (n % 1024 / 32) 0).toNat.testBit (n % 32)
def clrN (x k : Nat) : Nat := x ^^^ (x &&& 2 ^ k)
def setN (x k : Nat) : Nat := x ||| 2 ^ k
theorem clrN_bit (x k j : Nat) : (clrN x k).testBit j = (x.testBit j && !decide (k = j)) := by
 unfold clrN
 rw [Nat.testBit_xor, Nat.testBit_and, Nat.testBit_two_pow]
 cases x.testBit j <;> cases decide (k = j) <;> rfl
theorem setN_bit (x k j : Nat) : (setN x k).testBit j = (x.testBit j || decide (k = j)) := by
 unfold setN
 rw [Nat.testBit_or, Nat.testBit_two_pow]
theorem clrN_lt (x k : Nat) (h : x < 4294967296) : clrN x k < 4294967296 := by
 have := Nat.xor_lt_two_pow (n := 32) (show x < 2 ^ 32 by omega) (Nat.lt_of_le_of_lt Nat.and_le_left (show x < 2 ^ 32 by omega) : x &&& 2 ^ k < 2 ^ 32)
 unfold clrN; omega
theorem setN_lt (x k : Nat) (h : x < 4294967296) (hk : k < 32) : setN x k < 4294967296 := by
 have := Nat.or_lt_two_pow (n := 32) (show x < 2 ^ 32 by omega) (Nat.pow_lt_pow_right (by omega) hk : 2 ^ k < 2 ^ 32)
 unfold setN; omega

def clrL (l : List Int) (j : Nat) : List Int := l.set (j / 32) (clrN (l.getD (j / 32) 0).toNat (j % 32) : Nat)
def setL (l : List Int) (j : Nat) : List Int := l.set (j / 32) (setN (l.getD (j / 32) 0).toNat (j % 32) : Nat)
theorem clrL_length (l : List Int) (j : Nat) : (clrL l j).length = l.length := by simp [clrL]
theorem setL_length (l : List Int) (j : Nat) : (setL l j).length = l.length := by simp [setL]
theorem clrL_words {l : List Int} (h : Words l) (j : Nat) : Words (clrL l j) := by
 have := h.at (j / 32)
 have := clrN_lt (l.getD (j / 32) 0).toNat (j % 32) (by omega)
 exact h.set _ _ (by omega)
theorem setL_words {l : List Int} (h : Words l) (j : Nat) : Words (setL l j) := by
 have := h.at (j / 32)
 have := setN_lt (l.getD (j / 32) 0).toNat (j % 32) (by omega) (by omega)
 exact h.set _ _ (by omega)
theorem getD_set_self (l : List Int) (i : Nat) (z : Int) (h : i < l.length) : (l.set i z).getD i 0 = z := by simp [List.getD, h]
theorem getD_set_ne (l : List Int) (i k : Nat) (z : Int) (h : i ≠ k) : (l.set i z).getD k 0 = l.getD k 0 := by simp [List.getD, List.getElem?_set_ne h]
theorem clrL_bit (l : List Int) (j m : Nat) (hl : l.length = 32) (hj : j < 1024) : bit (clrL l j) m = (bit l m && !decide (j = m % 1024)) := by
 unfold bit clrL
 by_cases h : j / 32 = m % 1024 / 32
 ·
  rw [← h, getD_set_self _ _ _ (by omega), Int.toNat_natCast, clrN_bit]
  congr 2
  exact decide_eq_decide.2 ⟨fun _ => by omega, fun _ => by omega⟩
 ·
  rw [getD_set_ne _ _ _ _ h, decide_eq_false (by omega)]
  simp
theorem setL_bit (l : List Int) (j m : Nat) (hl : l.length = 32) (hj : j < 1024) : bit (setL l j) m = (bit l m || decide (j = m % 1024)) := by
 unfold bit setL
 by_cases h : j / 32 = m % 1024 / 32
 ·
  rw [← h, getD_set_self _ _ _ (by omega), Int.toNat_natCast, setN_bit]
  congr 1
  exact decide_eq_decide.2 ⟨fun _ => by omega, fun _ => by omega⟩
 ·
  rw [getD_set_ne _ _ _ _ h, decide_eq_false (by omega)]
  simp
theorem bit_ext {l l' : List Int} (h : l.length = 32) (h' : l'.length = 32) (w : Words l) (w' : Words l') (e : ∀ m, m < 1024 → bit l m = bit l' m) : l = l' := by
 apply List.ext_getElem (by omega)
 intro i h1 h2
 have a1 := w.at i
 have a2 := w'.at i
 have e1 : l.getD i 0 = l[i] := by simp [List.getD, h1]
 have e2 : l'.getD i 0 = l'[i] := by simp [List.getD, h2]
 rw [← e1, ← e2]
 have : (l.getD i 0).toNat = (l'.getD i 0).toNat := by
  apply Nat.eq_of_testBit_eq
  intro k
  by_cases hk : k < 32
  ·
   have := e (32 * i + k) (by omega)
   unfold bit at this
   rwa [show (32 * i + k) % 1024 / 32 = i by omega, show (32 * i + k) % 32 = k by omega] at this
  ·
   have p : (2 : Nat) ^ 32 ≤ 2 ^ k := Nat.pow_le_pow_right (by omega) (by omega)
   rw [Nat.testBit_lt_two_pow (by omega), Nat.testBit_lt_two_pow (by omega)]
 omega

def clrs (l : List Int) (a : Nat) : Nat → List Int
 | 0 => l
 | k + 1 => clrL (clrs l a k) ((a + k) % 1024)
theorem clrs_length (l : List Int) (a k : Nat) : (clrs l a k).length = l.length := by
 induction k with
 | zero => rfl
 | succ k ih => rw [clrs, clrL_length, ih]
theorem clrs_words {l : List Int} (h : Words l) (a k : Nat) : Words (clrs l a k) := by
 induction k with
 | zero => exact h
 | succ k ih => exact clrL_words ih _
theorem clrs_bit (l : List Int) (a k m : Nat) (hl : l.length = 32) : bit (clrs l a k) m = true ↔ (bit l m = true ∧ ∀ i, a ≤ i → i < a + k → i % 1024 ≠ m % 1024) := by
 induction k with
 | zero => exact ⟨fun h => ⟨h, fun i h1 h2 => by omega⟩, fun h => h.1⟩
 | succ k ih =>
  rw [clrs, clrL_bit _ _ _ (by rw [clrs_length, hl]) (by omega)]
  simp only [Bool.and_eq_true, ih, Bool.not_eq_true', decide_eq_false_iff_not]
  constructor
  ·
   rintro ⟨⟨h1, h2⟩, h3⟩
   refine ⟨h1, fun i h4 h5 => ?_⟩
   by_cases hi : i = a + k
   ·
    rw [hi]; exact h3
   ·
    exact h2 i h4 (by omega)
  ·
   rintro ⟨h1, h2⟩
   exact ⟨⟨h1, fun i h3 h4 => h2 i h3 (by omega)⟩, h2 _ (by omega) (by omega)⟩
def down (l : List Int) (n : Nat) : Nat → List Int
 | 0 => l
 | k + 1 => clrL (down l n k) ((n - k) % 1024)
theorem down_length (l : List Int) (a k : Nat) : (down l a k).length = l.length := by
 induction k with
 | zero => rfl
 | succ k ih => rw [down, clrL_length, ih]
theorem down_words {l : List Int} (h : Words l) (a k : Nat) : Words (down l a k) := by
 induction k with
 | zero => exact h
 | succ k ih => exact clrL_words ih _
theorem down_bit (l : List Int) (n k m : Nat) (hl : l.length = 32) (hk : k ≤ n + 1) : bit (down l n k) m = true ↔ (bit l m = true ∧ ∀ i, n + 1 - k ≤ i → i ≤ n → i % 1024 ≠ m % 1024) := by
 induction k with
 | zero => exact ⟨fun h => ⟨h, fun i h1 h2 => by omega⟩, fun h => h.1⟩
 | succ k ih =>
  rw [down, clrL_bit _ _ _ (by rw [down_length, hl]) (by omega)]
  simp only [Bool.and_eq_true, ih (by omega), Bool.not_eq_true', decide_eq_false_iff_not]
  constructor
  ·
   rintro ⟨⟨h1, h2⟩, h3⟩
   refine ⟨h1, fun i h4 h5 => ?_⟩
   by_cases hi : i = n - k
   ·
    rw [hi]; exact h3
   ·
    exact h2 i (by omega) h5
  ·
   rintro ⟨h1, h2⟩
   exact ⟨⟨h1, fun i h3 h4 => h2 i (by omega) h4⟩, h2 _ (by omega) (by omega)⟩
theorem down_clrs (l : List Int) (a n : Nat) (hl : l.length = 32) (w : Words l) (h : a ≤ n + 1) : down l n (min (n + 1 - a) 1024) = clrs l a (min (n + 1 - a) 1024) := by
 apply bit_ext (by rw [down_length, hl]) (by rw [clrs_length, hl]) (down_words w _ _) (clrs_words w _ _)
 intro m hm
 rw [Bool.eq_iff_iff, down_bit l n _ m hl (by omega), clrs_bit l a _ m hl]
 by_cases hk : n + 1 - a ≤ 1024
 ·
  rw [Nat.min_eq_left hk]
  exact ⟨fun h => ⟨h.1, fun i h1 h2 => h.2 i (by omega) (by omega)⟩, fun h => ⟨h.1, fun i h1 h2 => h.2 i (by omega) (by omega)⟩⟩
 ·
  rw [Nat.min_eq_right (by omega)]
  constructor
  ·
   rintro ⟨_, h2⟩
   exact absurd (by omega) (h2 (n - (n % 1024 + 1024 - m) % 1024) (by omega) (by omega))
  ·
   rintro ⟨_, h2⟩
   exact absurd (by omega) (h2 (a + (m + 1024 - a % 1024) % 1024) (by omega) (by omega))

structure WOk (top : Int) (l : List Int) : Prop where
 len : l.length = 32
 lo : -1 ≤ top
 hi : top ≤ 281474976710655
 words : Words l
 taken : 0 ≤ top → bit l top.toNat = true
 free : ∀ n : Nat, top < (n : Int) → n < 1024 → bit l n = false
open Classical in
noncomputable def winOk (top : Int) (l : List Int) : Bool := decide (WOk top l)
theorem winOk_iff {top : Int} {l : List Int} : winOk top l = true ↔ WOk top l := by unfold winOk; simp
theorem winOk_true {top : Int} {l : List Int} (h : WOk top l) : winOk top l = true := winOk_iff.2 h
theorem winOk_false {top : Int} {l : List Int} (h : ¬ WOk top l) : winOk top l = false := Bool.eq_false_iff.2 fun e => h (winOk_iff.1 e)

def has (top : Int) (l : List Int) (n : Int) : Bool := decide (0 ≤ n ∧ n ≤ top ∧ top - 1024 < n) && bit l n.toNat
def may (top : Int) (l : List Int) (n : Int) : Bool := decide (0 ≤ n ∧ n ≤ 281474976710655 ∧ top - 1024 < n) && (decide (top < n) || !bit l n.toNat)
noncomputable def winHas (top : Int) (l : List Int) (n : Int) : Bool := winOk top l && has top l n
noncomputable def winMay (top : Int) (l : List Int) (n : Int) : Bool := winOk top l && may top l n

def addL (top : Int) (l : List Int) (n : Nat) : List Int := setL (clrs l (top + 1).toNat (min ((n : Int) - top).toNat 1024)) (n % 1024)
noncomputable def addTop (top : Int) (l : List Int) (n : Int) : Int := if winMay top l n then max top n else top
noncomputable def addBits (top : Int) (l : List Int) (n : Int) : List Int := if winMay top l n then addL top l n.toNat else l

theorem addL_length (top : Int) (l : List Int) (n : Nat) : (addL top l n).length = l.length := by unfold addL; rw [setL_length, clrs_length]
theorem addL_words {l : List Int} (h : Words l) (top : Int) (n : Nat) : Words (addL top l n) := setL_words (clrs_words h _ _) _
theorem addL_bit (top : Int) (l : List Int) (n m : Nat) (hl : l.length = 32) (ht : -1 ≤ top) :
  bit (addL top l n) m = true ↔ (n % 1024 = m % 1024 ∨ (bit l m = true ∧ ∀ i : Nat, top < (i : Int) → i ≤ n → (i : Int) ≤ top + 1024 → i % 1024 ≠ m % 1024)) := by
 unfold addL
 rw [setL_bit _ _ _ (by rw [clrs_length, hl]) (by omega), Bool.or_eq_true, clrs_bit _ _ _ _ hl, decide_eq_true_iff]
 constructor
 ·
  rintro (⟨h1, h2⟩ | h)
  ·
   exact .inr ⟨h1, fun i h3 h4 h5 => h2 i (by omega) (by omega)⟩
  ·
   exact .inl h
 ·
  rintro (h | ⟨h1, h2⟩)
  ·
   exact .inr h
  ·
   exact .inl ⟨h1, fun i h3 h4 => h2 i (by omega) (by omega) (by omega)⟩
theorem add_taken {top : Int} {l : List Int} (n m : Nat) (hl : l.length = 32) (ht : -1 ≤ top) (h1 : top - 1024 < (n : Int)) (h2 : (m : Int) ≤ max top n) (h3 : max top n - 1024 < (m : Int)) :
  bit (addL top l n) m = true ↔ (m = n ∨ ((m : Int) ≤ top ∧ bit l m = true)) := by
 rw [addL_bit top l n m hl ht]
 constructor
 ·
  rintro (h | ⟨h4, h5⟩)
  ·
   exact .inl (by omega)
  ·
   by_cases hm : (m : Int) ≤ top
   ·
    exact .inr ⟨hm, h4⟩
   ·
    exfalso
    by_cases hk : (m : Int) ≤ top + 1024
    ·
     exact h5 m (by omega) (by omega) hk rfl
    ·
     exact h5 ((top + 1).toNat + (m + 1024 - (top + 1).toNat % 1024) % 1024) (by omega) (by omega) (by omega) (by omega)
 ·
  rintro (rfl | ⟨h4, h5⟩)
  ·
   exact .inl rfl
  ·
   exact .inr ⟨h5, fun i h6 h7 h8 => by omega⟩
theorem add_ok {top : Int} {l : List Int} {n : Int} (h : WOk top l) (hm : may top l n = true) : WOk (max top n) (addL top l n.toNat) := by
 unfold may at hm
 rw [Bool.and_eq_true, decide_eq_true_iff] at hm
 obtain ⟨⟨h1, h2, h3⟩, h4⟩ := hm
 have := h.lo
 have := h.hi
 refine ⟨by rw [addL_length, h.len], by omega, by omega, addL_words h.words _ _, ?_, ?_⟩
 ·
  intro h5
  rw [add_taken n.toNat _ h.len h.lo (by omega) (by omega) (by omega)]
  by_cases hn : top < n
  ·
   exact .inl (by omega)
  ·
   have e : max top n = top := by omega
   rw [e]
   exact .inr ⟨by omega, h.taken (by omega)⟩
 ·
  intro m h5 h6
  rw [Bool.eq_false_iff, ne_eq, addL_bit top l _ m h.len h.lo]
  rintro (h7 | ⟨h7, _⟩)
  ·
   omega
  ·
   rw [h.free m (by omega) h6] at h7
   cases h7
theorem winMay_ok {top : Int} {l : List Int} {n : Int} (h : winMay top l n = true) : WOk top l ∧ may top l n = true := by
 unfold winMay at h
 rw [Bool.and_eq_true, winOk_iff] at h
 exact h
theorem addBits_ok {top : Int} {l : List Int} (n : Int) (h : WOk top l) : WOk (addTop top l n) (addBits top l n) := by
 unfold addTop addBits
 by_cases hm : winMay top l n = true
 ·
  rw [if_pos hm, if_pos hm]
  exact add_ok h (winMay_ok hm).2
 ·
  rw [if_neg hm, if_neg hm]
  exact h

def least (top : Int) : Int := if top < 1024 then 0 else top - 1024 + 1
def zeros : List Int := List.replicate 32 0
theorem zeros_bit (m : Nat) : bit zeros m = false := by
 unfold bit zeros
 have : (List.replicate 32 (0 : Int)).getD (m % 1024 / 32) 0 = 0 := by
  rw [List.getD, List.getElem?_replicate]
  split <;> rfl
 rw [this]; simp
theorem new_ok : WOk (-1) zeros := by
 refine ⟨rfl, by omega, by omega, ?_, fun h => by omega, fun n _ _ => zeros_bit n⟩
 intro z hz
 have := List.eq_of_mem_replicate hz
 omega
noncomputable def ofTop (l : List Int) : Nat → Int × List Int
 | 0 => (-1, zeros)
 | k + 1 => (addTop (ofTop l k).1 (ofTop l k).2 (l.getD k 0), addBits (ofTop l k).1 (ofTop l k).2 (l.getD k 0))
theorem of_ok (l : List Int) (k : Nat) : WOk (ofTop l k).1 (ofTop l k).2 := by
 induction k with
 | zero => exact new_ok
 | succ k ih => exact addBits_ok _ ih
end Go.Proofs.YtmcflfpckpjphaaGreatDoor.WinP

namespace Go.Proofs.YtmcflfpckpjphaaGreatDoor.WinB
open Go.RowKit Bits WinP

theorem tb_i64 (X k : Nat) : (bits .and .i64 ((X : Int) / 2 ^ k) 1 == 1) = X.testBit k := by
 have e : bits .and .i64 ((X : Int) / 2 ^ k) 1 = ((X : Int) / 2 ^ k) % 2 := mask_i64 1 (by omega) _
 have e2 : ((X : Int) / 2 ^ k) % 2 = ((X / 2 ^ k % 2 : Nat) : Int) := by simp
 rw [e, e2, Nat.testBit_eq_decide_div_mod_eq, Bool.eq_iff_iff]
 simp only [beq_iff_eq, decide_eq_true_iff]
 omega
theorem andNot_nat (v X M : Nat) (hX : X < 2 ^ v) (hM : M < 2 ^ v) : (BitVec.ofInt v (X : Int) &&& ~~~ BitVec.ofInt v (M : Int)).toNat = X ^^^ (X &&& M) := by
 apply Nat.eq_of_testBit_eq
 intro j
 rw [BitVec.testBit_toNat, BitVec.getLsbD_and, BitVec.getLsbD_not, BitVec.ofInt_natCast, BitVec.ofInt_natCast, BitVec.getLsbD_ofNat, BitVec.getLsbD_ofNat, Nat.testBit_xor, Nat.testBit_and]
 by_cases hj : j < v
 ·
  rw [decide_eq_true hj]
  cases X.testBit j <;> cases M.testBit j <;> rfl
 ·
  have : (2 : Nat) ^ v ≤ 2 ^ j := Nat.pow_le_pow_right (by omega) (by omega)
  rw [decide_eq_false hj, Nat.testBit_lt_two_pow (x := X) (by omega), Nat.testBit_lt_two_pow (x := M) (by omega)]
  rfl
theorem andNot_i64 (X M : Nat) (hX : X < 4294967296) (hM : M < 4294967296) : bits .andNot .i64 (X : Int) (M : Int) = ((X ^^^ (X &&& M) : Nat) : Int) := by
 show IntKind.i64.wrap ((BitVec.ofInt 64 (X : Int) &&& ~~~ BitVec.ofInt 64 (M : Int)).toNat : Int) = _
 have h : X ^^^ (X &&& M) < 2 ^ 32 := Nat.xor_lt_two_pow (by omega) (Nat.lt_of_le_of_lt Nat.and_le_left (by omega))
 rw [andNot_nat 64 X M (by omega) (by omega), wrap_i64_nat _ (by omega)]
theorem wrap_u32 (n : Int) : IntKind.u32.wrap n = n % 4294967296 := by simp [IntKind.wrap, IntKind.bits, IntKind.signed]
theorem andNot_u32 (X M : Nat) (hX : X < 4294967296) (hM : M < 4294967296) : bits .andNot .u32 (X : Int) (M : Int) = ((X ^^^ (X &&& M) : Nat) : Int) := by
 show IntKind.u32.wrap ((BitVec.ofInt 32 (X : Int) &&& ~~~ BitVec.ofInt 32 (M : Int)).toNat : Int) = _
 have h : X ^^^ (X &&& M) < 2 ^ 32 := Nat.xor_lt_two_pow (by omega) (Nat.lt_of_le_of_lt Nat.and_le_left (by omega))
 rw [andNot_nat 32 X M (by omega) (by omega), wrap_u32]
 omega
theorem and_u32 (X M : Nat) (hX : X < 4294967296) (hM : M < 4294967296) : bits .and .u32 (X : Int) (M : Int) = ((X &&& M : Nat) : Int) := by
 have e : ∀ c : Nat, c < 4294967296 → (BitVec.ofInt 32 (c : Int)).toNat = c := fun c hc => by rw [BitVec.ofInt_natCast, BitVec.toNat_ofNat]; exact Nat.mod_eq_of_lt (by omega)
 show IntKind.u32.wrap ((BitVec.ofInt 32 (X : Int) &&& BitVec.ofInt 32 (M : Int)).toNat : Int) = _
 have h : X &&& M < 4294967296 := Nat.lt_of_le_of_lt Nat.and_le_left hX
 rw [BitVec.toNat_and, e X hX, e M hM, wrap_u32]
 omega
theorem pow_lt (k : Nat) (hk : k < 32) : 2 ^ k < 4294967296 := by
 have := Nat.pow_lt_pow_right (a := 2) (by omega) hk
 omega
theorem and_pow (X k : Nat) : (X &&& 2 ^ k ≠ 0) ↔ X.testBit k = true := by
 constructor
 ·
  intro h
  by_cases hb : X.testBit k = true
  ·
   exact hb
  ·
   exfalso; apply h
   apply Nat.eq_of_testBit_eq
   intro j
   rw [Nat.testBit_and, Nat.testBit_two_pow, Nat.zero_testBit]
   by_cases hj : k = j
   ·
    subst hj; rw [Bool.eq_false_iff.2 hb]; rfl
   ·
    rw [decide_eq_false hj, Bool.and_false]
 ·
  intro h e
  have := congrArg (Nat.testBit · k) e
  simp [Nat.testBit_and, h] at this
theorem tb_u32 (X k : Nat) (hX : X < 4294967296) (hk : k < 32) : (bits .and .u32 (X : Int) ((2 ^ k : Nat) : Int) != 0) = X.testBit k := by
 rw [and_u32 X (2 ^ k) hX (pow_lt k hk), Bool.eq_iff_iff, ← and_pow X k]
 simp only [bne_iff_ne, ne_eq]
 omega
theorem clr_u32 (X k : Nat) (hX : X < 4294967296) (hk : k < 32) : bits .andNot .u32 (X : Int) ((2 ^ k : Nat) : Int) = (clrN X k : Nat) := andNot_u32 X (2 ^ k) hX (pow_lt k hk)
theorem set_u32 (X k : Nat) (hX : X < 4294967296) (hk : k < 32) : bits .or .u32 (X : Int) ((2 ^ k : Nat) : Int) = (setN X k : Nat) := or_u32 X (2 ^ k) hX (pow_lt k hk)
theorem clr_i64 (X k : Nat) (hX : X < 4294967296) (hk : k < 32) : bits .andNot .i64 (X : Int) ((2 ^ k : Nat) : Int) = (clrN X k : Nat) := andNot_i64 X (2 ^ k) hX (pow_lt k hk)
theorem set_i64 (X k : Nat) (hX : X < 4294967296) (hk : k < 32) : bits .or .i64 (X : Int) ((2 ^ k : Nat) : Int) = (setN X k : Nat) := by
 have := pow_lt k hk
 exact or_i64 X (2 ^ k) (by omega) (by omega)
theorem room_zero (X a : Nat) (hX : X < 4294967296) : X ^^^ (X &&& (2 ^ min a 32 - 1)) = 0 ↔ ∀ j, a ≤ j → j < 32 → X.testBit j = false := by
 rw [Nat.and_two_pow_sub_one_eq_mod]
 constructor
 ·
  intro h j h1 h2
  have := congrArg (Nat.testBit · j) h
  simp only [Nat.testBit_xor, Nat.testBit_mod_two_pow, Nat.zero_testBit] at this
  rw [decide_eq_false (by omega)] at this
  simpa using this
 ·
  intro h
  apply Nat.eq_of_testBit_eq
  intro j
  rw [Nat.testBit_xor, Nat.testBit_mod_two_pow, Nat.zero_testBit]
  by_cases hj : j < min a 32
  ·
   rw [decide_eq_true hj]; simp
  ·
   by_cases hk : j < 32
   ·
    rw [h j (by omega) hk]; simp
   ·
    have : (2 : Nat) ^ 32 ≤ 2 ^ j := Nat.pow_le_pow_right (by omega) (by omega)
    rw [Nat.testBit_lt_two_pow (x := X) (by omega)]; simp
end Go.Proofs.YtmcflfpckpjphaaGreatDoor.WinB

namespace Go.Proofs.YtmcflfpckpjphaaGreatDoor.WnI
open Go.RowKit Mem MemI Blk Zone ZoneI WnZ Res Each Copy Ops WinP WinB Bits

def Wnd (w : World) (g : Nat) (top : Int) (l : List Int) : Prop := l.length = 32 ∧ Words l ∧ Blk w g 152 (.int .i64 top :: l.map (Value.int .u32))
theorem Wnd.later {w w' : World} {g : Nat} {top : Int} {l : List Int} (h : Wnd w g top l) (b : Below w.heap.size w w') : Wnd w' g top l := ⟨h.1, h.2.1, h.2.2.later b⟩
theorem Wnd.lt {w : World} {g : Nat} {top : Int} {l : List Int} (h : Wnd w g top l) : g < w.heap.size := h.2.2.lt
theorem Wnd.topCell {w : World} {g : Nat} {top : Int} {l : List Int} (h : Wnd w g top l) : w.cell? ⟨g, 0, none⟩ = some (.int .i64 top) := h.2.2.cell 0 rfl
theorem Wnd.word {w : World} {g : Nat} {top : Int} {l : List Int} (h : Wnd w g top l) (i : Nat) (hi : i < 32) : w.cell? ⟨g, 1 + i, none⟩ = some (.int .u32 (l.getD i 0)) :=
 h.2.2.cell (1 + i) (by have := h.1; rw [Nat.add_comm 1 i]; simp [List.getD, this, hi])
theorem Wnd.froz {w : World} {g : Nat} {top : Int} {l : List Int} (h : Wnd w g top l) (i : Nat) : w.frozen? ⟨g, i, none⟩ = false := h.2.2.frozen i
theorem Wnd.setTop {w : World} {g : Nat} {top : Int} {l : List Int} (h : Wnd w g top l) (t : Int) : Wnd (w.setCell ⟨g, 0, none⟩ (.int .i64 t)) g t l :=
 ⟨h.1, h.2.1, by have := h.2.2.set 0 (.int .i64 t) (by have := h.1; simp [maxLen]; omega); simpa using this⟩
theorem Wnd.setWord {w : World} {g : Nat} {top : Int} {l : List Int} (h : Wnd w g top l) (i : Nat) (x : Int) (hx : 0 ≤ x ∧ x ≤ 4294967295) : Wnd (w.setCell ⟨g, 1 + i, none⟩ (.int .u32 x)) g top (l.set i x) :=
 ⟨by rw [List.length_set]; exact h.1, h.2.1.set i x hx, by have := h.2.2.set (1 + i) (.int .u32 x) (by have := h.1; simp [maxLen]; omega); rw [Nat.add_comm 1 i] at this ⊢; simpa [List.map_set] using this⟩

set_option maxHeartbeats 400000 in
theorem isSeq (n : Int) (w : World) : Calls Tryz.prog 127 #[.int .i64 n] w fun e w' => e = .returned (.bool (decide (0 ≤ n ∧ n ≤ 281474976710655))) ∧ w = w' := by
 by_cases h0 : n ≥ 0
 ·
  by_cases h1 : n < 281474976710656
  ·
   rw [decide_eq_true ⟨h0, by omega⟩]
   go_enter Tryz.func127, Tryz.ntmps127
   go_wp2
   go_ret
   exact ⟨rfl, rfl⟩
  ·
   rw [decide_eq_false (fun h => h1 (by omega))]
   go_enter Tryz.func127, Tryz.ntmps127
   go_wp2
   go_ret
   exact ⟨rfl, rfl⟩
 ·
  rw [decide_eq_false (fun h => h0 h.1)]
  go_enter Tryz.func127, Tryz.ntmps127
  go_wp2
  go_ret
  exact ⟨rfl, rfl⟩
set_option maxHeartbeats 800000 in
theorem placeOf (n : Nat) (w : World) (hn : n ≤ 562949953421312) : Calls Tryz.prog 129 #[.int .i64 n] w fun e w' => e = .returned (.tuple #[.int .i64 ((n % 1024 / 32 : Nat) : Int), .int .u32 ((2 ^ (n % 32) : Nat) : Int)]) ∧ ∃ m, w' = w.drewN m := by
 go_enter Tryz.func129, Tryz.ntmps129
 go_wp2
 go_quiet (fail)
 go_wp2
 refine bodyPost_ret (v := .tuple #[.int .i64 ((n : Int) % 1024 / 32), .int .u32 (2 ^ (n % 32) % 4294967296)]) (res2 rfl (is_tmp rfl) (is_tmp rfl)) rfl ⟨?_, nq, rfl⟩
 have hlt := pow_lt (n % 32) (by omega)
 have e : (2 : Int) ^ (n % 32) % 4294967296 = ((2 ^ (n % 32) : Nat) : Int) := by
  obtain ⟨M, hM⟩ : ∃ M : Nat, 2 ^ (n % 32) = M := ⟨_, rfl⟩
  have e2 : (2 : Int) ^ (n % 32) = (M : Int) := by rw [← hM]; simp
  rw [hM] at hlt ⊢
  rw [e2]
  omega
 rw [e, show ((n : Int) % 1024 / 32) = ((n % 1024 / 32 : Nat) : Int) by omega]

abbrev DL1 : List Nat := [11, 12, 13, 14, 15, 16, 17, 18, 19, 20, 21]
set_option maxHeartbeats 4000000 in
theorem drop (g : Nat) (top : Int) (l : List Int) (n : Nat) (w : World) (h : Wnd w g top l) (hn : n ≤ 562949953421312) :
  Calls Tryz.prog 183 #[.pointer (some ⟨g, 0, none⟩), .int .i64 n] w fun e w' => e = .returned (.tuple #[]) ∧ Wnd w' g top (clrL l (n % 1024)) ∧ Kept g (g + 1) w w' := by
 have H0 : Hid (Wnd w g top l) := h
 have HN : Hid (n ≤ 562949953421312) := hn
 obtain ⟨p, hpe⟩ : ∃ p, n % 1024 / 32 = p := ⟨_, rfl⟩
 obtain ⟨k, hke⟩ : ∃ k, n % 32 = k := ⟨_, rfl⟩
 have HPE : Hid (n % 1024 / 32 = p) := hpe
 have HKE : Hid (n % 32 = k) := hke
 have hpl : p < 32 := by omega
 have hk : k < 32 := by omega
 have hpI : (p : Int) < 32 := by omega
 have HC : clrL l (n % 1024) = l.set p (clrN (l.getD p 0).toNat k : Nat) := by
  unfold clrL
  rw [hpe, show n % 1024 % 32 = k by omega]
 rw [HC]
 clear hpe hke HC hn
 obtain ⟨x, hx⟩ : ∃ x, l.getD p 0 = x := ⟨_, rfl⟩
 have HX : Hid (l.getD p 0 = x) := hx
 have hx2 := h.2.1.at p
 rw [hx] at hx2 ⊢
 clear h hx
 obtain ⟨X, rfl⟩ := Int.eq_ofNat_of_zero_le hx2.1
 have hxl : X < 4294967296 := by omega
 obtain ⟨M, hM⟩ : ∃ M : Int, ((2 ^ k : Nat) : Int) = M := ⟨_, rfl⟩
 have HM : Hid (((2 ^ k : Nat) : Int) = M) := hM
 obtain ⟨Y, hY⟩ : ∃ Y : Int, ((clrN X k : Nat) : Int) = Y := ⟨_, rfl⟩
 have HY : Hid (bits .andNot .u32 (X : Int) M = Y) := by rw [← hM, ← hY]; exact clr_u32 X k hxl hk
 have HYb : Hid (0 ≤ Y ∧ Y ≤ 4294967295) := by have := clrN_lt X k hxl; rw [← hY]; show _ ∧ _; omega
 rw [Int.toNat_natCast, hY]
 clear hx2 hxl hM hY hk
 generalize (X : Int) = x at *
 go_enter Tryz.func183, Tryz.ntmps183
 go_wp2_with fail
 refine (placeOf n w HN.out).mono ?_
 rw [HPE.out, HKE.out, HM.out]
 rintro e w1 ⟨rfl, m, hw1⟩
 have B1 : Hid (Below w.heap.size w w1) := by rw [hw1]; exact below_drewN (Below.refl _ _) _
 have H1 := hid (H0.out.later B1.out)
 clear hw1 H0
 go_upto_region 1 with fail
 generalize hA : Act.mk _ _ = A
 have a0' : A.eval (.tmp 0) = .pointer (some ⟨g, 0, none⟩) := by rw [← hA]; rfl
 have a4' : A.eval (.tmp 4) = .int .i64 (p : Int) := by rw [← hA]; rfl
 have a5' : A.eval (.tmp 5) = .int .u32 M := by rw [← hA]; rfl
 have asz : A.tmps.size = 22 := by rw [← hA]; rfl
 have hW : ∀ wx, Below w1.heap.size w1 wx → Wnd wx g top l := fun wx hb => H1.out.later hb
 refine region_each (by kernel_rfl) DL1 11 (fun i => DL1.getD i 0) (fun _ => 0)
  (fun i gB v wx => match i with
   | 0 => v = .pointer (some ⟨g, 0, none⟩)
   | 1 => v = .int .i64 (p : Int)
   | 2 => v = .pointer (some ⟨g, 0, none⟩)
   | 3 => v = .pointer (some ⟨g, 1, none⟩)
   | 4 => v = .pointer (some ⟨g, 1 + p, none⟩)
   | 5 => v = .int .u32 x
   | 6 => v = .int .u32 M
   | 7 => v = .int .u32 (bits .andNot .u32 x M)
   | 8 => v = .pointer (some ⟨g, 0, none⟩)
   | 9 => v = .pointer (some ⟨g, 1, none⟩)
   | 10 => v = .pointer (some ⟨g, 1 + p, none⟩)
   | _ => False) (fun wx => Below w1.heap.size w1 wx) (by kernel_rfl) (Below.refl _ _).drew ?_ ?_ ?_
 ·
  intro i gB v wx wy hi hF hb _
  match i, hi with
  | 0, _ => exact hF
  | 1, _ => exact hF
  | 2, _ => exact hF
  | 3, _ => exact hF
  | 4, _ => exact hF
  | 5, _ => exact hF
  | 6, _ => exact hF
  | 7, _ => exact hF
  | 8, _ => exact hF
  | 9, _ => exact hF
  | 10, _ => exact hF
 ·
  intro i hi t ρ wx hB hp hd
  match i, hi with
  | 0, _ =>
   have e0 : (fr DL1 A t).eval (.tmp 0) = .pointer (some ⟨g, 0, none⟩) := (fr_eval_old _ _ _ 0 rfl).trans a0'
   refine op_run (v := .pointer (some ⟨g, 0, none⟩)) (w' := wx) rfl rfl ?_ ?_
   ·
    clear hp hd; have ec : ∀ v, (fr DL1 A t).eval (.const v) = v := fun _ => rfl; generalize (fr DL1 A t).eval = ev at ec e0 ⊢; go_simp
   ·
    exact ⟨_, 0, rfl, hB, Below.refl _ _, rfl, .inl rfl⟩
  | 1, _ =>
   have e4 : (fr DL1 A t).eval (.tmp 4) = .int .i64 (p : Int) := (fr_eval_old _ _ _ 4 rfl).trans a4'
   refine op_run (v := .int .i64 (p : Int)) (w' := wx) rfl rfl ?_ ?_
   ·
    clear hp hd; have ec : ∀ v, (fr DL1 A t).eval (.const v) = v := fun _ => rfl; generalize (fr DL1 A t).eval = ev at ec e4 ⊢; go_simp
   ·
    exact ⟨_, 0, rfl, hB, Below.refl _ _, rfl, .inl rfl⟩
  | 2, _ =>
   have e11 : (fr DL1 A t).eval (.tmp 11) = .pointer (some ⟨g, 0, none⟩) := (fr_eval _ _ _ 11 rfl (by rw [asz]; decide)).trans (hp 0 (pre_mem (by kernel_rfl)))
   refine op_run (v := .pointer (some ⟨g, 0, none⟩)) (w' := wx) rfl rfl ?_ ?_
   ·
    clear hp hd; have ec : ∀ v, (fr DL1 A t).eval (.const v) = v := fun _ => rfl; generalize (fr DL1 A t).eval = ev at ec e11 ⊢; go_simp
   ·
    exact ⟨_, 0, rfl, hB, Below.refl _ _, rfl, .inl rfl⟩
  | 3, _ =>
   have e13 : (fr DL1 A t).eval (.tmp 13) = .pointer (some ⟨g, 0, none⟩) := (fr_eval _ _ _ 13 rfl (by rw [asz]; decide)).trans (hp 2 (pre_mem (by kernel_rfl)))
   refine op_run (v := .pointer (some ⟨g, 1, none⟩)) (w' := wx) rfl rfl ?_ ?_
   ·
    clear hp hd; have ec : ∀ v, (fr DL1 A t).eval (.const v) = v := fun _ => rfl; generalize (fr DL1 A t).eval = ev at ec e13 ⊢; go_simp
   ·
    exact ⟨_, 0, rfl, hB, Below.refl _ _, rfl, .inl rfl⟩
  | 4, _ =>
   have e14 : (fr DL1 A t).eval (.tmp 14) = .pointer (some ⟨g, 1, none⟩) := (fr_eval _ _ _ 14 rfl (by rw [asz]; decide)).trans (hp 3 (pre_mem (by kernel_rfl)))
   have e12 : (fr DL1 A t).eval (.tmp 12) = .int .i64 (p : Int) := (fr_eval _ _ _ 12 rfl (by rw [asz]; decide)).trans (hp 1 (pre_mem (by kernel_rfl)))
   refine op_run (v := .pointer (some ⟨g, 1 + p, none⟩)) (w' := wx) rfl rfl ?_ ?_
   ·
    clear hp hd; have ec : ∀ v, (fr DL1 A t).eval (.const v) = v := fun _ => rfl; generalize (fr DL1 A t).eval = ev at ec e14 e12 ⊢; go_simp
   ·
    exact ⟨_, 0, rfl, hB, Below.refl _ _, rfl, .inl rfl⟩
  | 5, _ =>
   have e15 : (fr DL1 A t).eval (.tmp 15) = .pointer (some ⟨g, 1 + p, none⟩) := (fr_eval _ _ _ 15 rfl (by rw [asz]; decide)).trans (hp 4 (pre_mem (by kernel_rfl)))
   have hc : wx.cell? ⟨g, 1 + p, none⟩ = some (.int .u32 x) := by rw [(hW wx hB).word p hpl, HX.out]
   refine op_run (v := .int .u32 x) (w' := wx) rfl rfl ?_ ?_
   ·
    clear hp hd; have ec : ∀ v, (fr DL1 A t).eval (.const v) = v := fun _ => rfl; generalize (fr DL1 A t).eval = ev at ec e15 ⊢; go_simp
   ·
    exact ⟨_, 0, rfl, hB, Below.refl _ _, rfl, .inl rfl⟩
  | 6, _ =>
   have e5 : (fr DL1 A t).eval (.tmp 5) = .int .u32 M := (fr_eval_old _ _ _ 5 rfl).trans a5'
   refine op_run (v := .int .u32 M) (w' := wx) rfl rfl ?_ ?_
   ·
    clear hp hd; have ec : ∀ v, (fr DL1 A t).eval (.const v) = v := fun _ => rfl; generalize (fr DL1 A t).eval = ev at ec e5 ⊢; go_simp
   ·
    exact ⟨_, 0, rfl, hB, Below.refl _ _, rfl, .inl rfl⟩
  | 7, _ =>
   have e16 : (fr DL1 A t).eval (.tmp 16) = .int .u32 x := (fr_eval _ _ _ 16 rfl (by rw [asz]; decide)).trans (hp 5 (pre_mem (by kernel_rfl)))
   have e17 : (fr DL1 A t).eval (.tmp 17) = .int .u32 M := (fr_eval _ _ _ 17 rfl (by rw [asz]; decide)).trans (hp 6 (pre_mem (by kernel_rfl)))
   refine op_run (v := .int .u32 (bits .andNot .u32 x M)) (w' := wx) rfl rfl ?_ ?_
   ·
    clear hp hd; have ec : ∀ v, (fr DL1 A t).eval (.const v) = v := fun _ => rfl; generalize (fr DL1 A t).eval = ev at ec e16 e17 ⊢; go_simp
   ·
    exact ⟨_, 0, rfl, hB, Below.refl _ _, rfl, .inl rfl⟩
  | 8, _ =>
   have e11 : (fr DL1 A t).eval (.tmp 11) = .pointer (some ⟨g, 0, none⟩) := (fr_eval _ _ _ 11 rfl (by rw [asz]; decide)).trans (hp 0 (pre_mem (by kernel_rfl)))
   refine op_run (v := .pointer (some ⟨g, 0, none⟩)) (w' := wx) rfl rfl ?_ ?_
   ·
    clear hp hd; have ec : ∀ v, (fr DL1 A t).eval (.const v) = v := fun _ => rfl; generalize (fr DL1 A t).eval = ev at ec e11 ⊢; go_simp
   ·
    exact ⟨_, 0, rfl, hB, Below.refl _ _, rfl, .inl rfl⟩
  | 9, _ =>
   have e19 : (fr DL1 A t).eval (.tmp 19) = .pointer (some ⟨g, 0, none⟩) := (fr_eval _ _ _ 19 rfl (by rw [asz]; decide)).trans (hp 8 (pre_mem (by kernel_rfl)))
   refine op_run (v := .pointer (some ⟨g, 1, none⟩)) (w' := wx) rfl rfl ?_ ?_
   ·
    clear hp hd; have ec : ∀ v, (fr DL1 A t).eval (.const v) = v := fun _ => rfl; generalize (fr DL1 A t).eval = ev at ec e19 ⊢; go_simp
   ·
    exact ⟨_, 0, rfl, hB, Below.refl _ _, rfl, .inl rfl⟩
  | 10, _ =>
   have e20 : (fr DL1 A t).eval (.tmp 20) = .pointer (some ⟨g, 1, none⟩) := (fr_eval _ _ _ 20 rfl (by rw [asz]; decide)).trans (hp 9 (pre_mem (by kernel_rfl)))
   have e12 : (fr DL1 A t).eval (.tmp 12) = .int .i64 (p : Int) := (fr_eval _ _ _ 12 rfl (by rw [asz]; decide)).trans (hp 1 (pre_mem (by kernel_rfl)))
   refine op_run (v := .pointer (some ⟨g, 1 + p, none⟩)) (w' := wx) rfl rfl ?_ ?_
   ·
    clear hp hd; have ec : ∀ v, (fr DL1 A t).eval (.const v) = v := fun _ => rfl; generalize (fr DL1 A t).eval = ev at ec e20 e12 ⊢; go_simp
   ·
    exact ⟨_, 0, rfl, hB, Below.refl _ _, rfl, .inl rfl⟩
 ·
  intro t ρ wx hB hF hne
  have e21 : (fr DL1 A t).eval (.tmp 21) = .pointer (some ⟨g, 1 + p, none⟩) := (fr_eval _ _ _ 21 rfl (by rw [asz]; decide)).trans (hF 10 (by decide))
  have e18 : (fr DL1 A t).eval (.tmp 18) = .int .u32 (bits .andNot .u32 x M) := (fr_eval _ _ _ 18 rfl (by rw [asz]; decide)).trans (hF 7 (by decide))
  clear hne
  have q0 : ∃ v, wx.cell? ⟨g, 1 + p, none⟩ = some v := ⟨_, (hW wx hB).word p hpl⟩
  obtain ⟨v0, q0⟩ := q0
  have f0 := (hW wx hB).froz (1 + p)
  have kW : Hid (Wnd wx g top l) := hW wx hB
  refine op_wp rfl rfl ?_
  clear hF hW
  generalize hE : (fr DL1 A t).eval = ev at e21 e18
  unfold Oper.wp
  rw [hE]
  go_simp
  rw [← hA]
  go_end0
  exact ⟨rfl, by have := kW.out.setWord p Y HYb.out; rw [HY.out]; exact this, (Kept.of_below B1.out 0).any.trans ((Kept.of_below hB 0).any.trans (Kept.setCell _ _ _ _))⟩
theorem dropI (g : Nat) (top : Int) (l : List Int) (z : Int) (w : World) (h : Wnd w g top l) (h0 : 0 ≤ z) (hn : z ≤ 562949953421312) :
  Calls Tryz.prog 183 #[.pointer (some ⟨g, 0, none⟩), .int .i64 z] w fun e w' => e = .returned (.tuple #[]) ∧ Wnd w' g top (clrL l (z.toNat % 1024)) ∧ Kept g (g + 1) w w' := by
 obtain ⟨n, rfl⟩ := Int.eq_ofNat_of_zero_le h0
 exact drop g top l n w h (by omega)

set_option maxHeartbeats 4000000 in
theorem climb (g : Nat) (top : Int) (l : List Int) (n : Nat) (w : World) (h : Wnd w g top l) (lo : -1 ≤ top) (ht : top < n) (hn : n ≤ 281474976710655) :
  Calls Tryz.prog 175 #[.pointer (some ⟨g, 0, none⟩), .int .i64 n] w fun e w' => e = .returned (.tuple #[]) ∧ Wnd w' g n (clrs l (top + 1).toNat (min ((n : Int) - top).toNat 1024)) ∧ Kept g (g + 1) w w' := by
 have H0 : Hid (Wnd w g top l) := h
 obtain ⟨C, hC⟩ : ∃ C : Nat, min ((n : Int) - top) 1024 = (C : Int) := ⟨(min ((n : Int) - top) 1024).toNat, by omega⟩
 have HC : Hid (min ((n : Int) - top) 1024 = (C : Int)) := hC
 have hC1 : (C : Int) ≤ (n : Int) - top := by omega
 have hC2 : C ≤ 1024 := by omega
 have HD : clrs l (top + 1).toNat (min ((n : Int) - top).toNat 1024) = down l n C := by
  have e := down_clrs l (top + 1).toNat n h.1 h.2.1 (by omega)
  rw [show min (n + 1 - (top + 1).toNat) 1024 = C by omega] at e
  rw [show min ((n : Int) - top).toNat 1024 = C by omega, ← e]
 rw [HD]
 clear HD h
 by_cases hb : 1024 < (n : Int) - top
 ·
  have hCe : (1024 : Int) = (C : Int) := by omega
  have c0 := H0.out.topCell
  go_enter Tryz.func175, Tryz.ntmps175
  go_wp2
  clear c0 hC hb hCe HC
  go_loopw [12] (fun i wr => ∃ k : Nat, k ≤ C ∧ i = .int .i64 k ∧ Wnd wr g top (down l n k) ∧ Kept g (g + 1) w wr) (fun i _ => C - (intOf i).toNat)
  case atStart => exact ⟨0, Nat.zero_le _, rfl, H0.out, Kept.refl _ _ _⟩
  case round =>
   obtain ⟨k, hk, rfl, hW, hK⟩ := hrel
   have HW : Hid (Wnd wr g top (down l n k)) := hW
   have HK := hid (hK)
   clear hW hK H0
   by_cases hlt : k < C
   ·
    go_wp2_with fail
    refine (dropI g top (down l n k) ((n : Int) - k) wr HW.out (by omega) (by omega)).mono ?_
    have HE : Hid (clrL (down l n k) (((n : Int) - k).toNat % 1024) = down l n (k + 1)) := by
     show _ = _
     rw [show ((n : Int) - k).toNat = n - k by omega]; rfl
    rw [HE.out]
    rintro e w2 ⟨rfl, h2, k2⟩
    have HW2 : Hid (Wnd w2 g top (down l n (k + 1))) := h2
    have HK2 := hid (HK.out.trans k2)
    clear h2 k2 HE
    go_wp2
    go_roundw
    case rel => exact ⟨k + 1, by omega, by go_num, HW2.out, HK2.out⟩
    case measure => simp [intOf]; omega
   ·
    obtain rfl : k = C := by omega
    have c0 := HW.out.topCell
    have f0 := HW.out.froz 0
    go_wp2
    go_end0
    exact ⟨rfl, HW.out.setTop n, HK.out.trans (Kept.setCell _ _ _ _)⟩
 ·
  have hCe : (n : Int) - top = (C : Int) := by omega
  have c0 := H0.out.topCell
  go_enter Tryz.func175, Tryz.ntmps175
  go_wp2
  clear c0 hC hb hCe HC
  go_loopw [12] (fun i wr => ∃ k : Nat, k ≤ C ∧ i = .int .i64 k ∧ Wnd wr g top (down l n k) ∧ Kept g (g + 1) w wr) (fun i _ => C - (intOf i).toNat)
  case atStart => exact ⟨0, Nat.zero_le _, rfl, H0.out, Kept.refl _ _ _⟩
  case round =>
   obtain ⟨k, hk, rfl, hW, hK⟩ := hrel
   have HW : Hid (Wnd wr g top (down l n k)) := hW
   have HK := hid (hK)
   clear hW hK H0
   by_cases hlt : k < C
   ·
    go_wp2_with fail
    refine (dropI g top (down l n k) ((n : Int) - k) wr HW.out (by omega) (by omega)).mono ?_
    have HE : Hid (clrL (down l n k) (((n : Int) - k).toNat % 1024) = down l n (k + 1)) := by
     show _ = _
     rw [show ((n : Int) - k).toNat = n - k by omega]; rfl
    rw [HE.out]
    rintro e w2 ⟨rfl, h2, k2⟩
    have HW2 : Hid (Wnd w2 g top (down l n (k + 1))) := h2
    have HK2 := hid (HK.out.trans k2)
    clear h2 k2 HE
    go_wp2
    go_roundw
    case rel => exact ⟨k + 1, by omega, by go_num, HW2.out, HK2.out⟩
    case measure => simp [intOf]; omega
   ·
    obtain rfl : k = C := by omega
    have c0 := HW.out.topCell
    have f0 := HW.out.froz 0
    go_wp2
    go_end0
    exact ⟨rfl, HW.out.setTop n, HK.out.trans (Kept.setCell _ _ _ _)⟩

theorem has_no {top : Int} {l : List Int} {n : Int} (h : ¬ (0 ≤ n ∧ n ≤ top ∧ top - 1024 < n)) : WinP.has top l n = false := by unfold WinP.has; rw [decide_eq_false h, Bool.false_and]
theorem has_yes {top : Int} {l : List Int} {n : Int} (h : 0 ≤ n ∧ n ≤ top ∧ top - 1024 < n) : WinP.has top l n = bit l n.toNat := by unfold WinP.has; rw [decide_eq_true h, Bool.true_and]
set_option maxHeartbeats 4000000 in
theorem has (g : Nat) (top : Int) (l : List Int) (n : Int) (w : World) (h : Wnd w g top l) (lo : -1 ≤ top) (hi : top ≤ 281474976710655) :
  Calls Tryz.prog 86 #[.pointer (some ⟨g, 0, none⟩), .int .i64 n] w fun e w' => e = .returned (.bool (WinP.has top l n)) ∧ Below w.heap.size w w' := by
 have H0 : Hid (Wnd w g top l) := h
 obtain ⟨v, hv⟩ : ∃ v, WinP.has top l n = v := ⟨_, rfl⟩
 have HV : Hid (WinP.has top l n = v) := hv
 rw [hv]
 have c0 := h.topCell
 clear hv h
 by_cases h1 : n < 0
 ·
  have HF : Hid (v = false) := by show v = false; rw [← HV.out]; exact has_no (by omega)
  go_enter Tryz.func86, Tryz.ntmps86
  go_wp2
  go_ret
  exact ⟨by rw [HF.out]; rfl, Below.refl _ _⟩
 by_cases h2 : n ≤ top - 1024
 ·
  have HF : Hid (v = false) := by show v = false; rw [← HV.out]; exact has_no (by omega)
  go_enter Tryz.func86, Tryz.ntmps86
  go_wp2
  go_ret
  exact ⟨by rw [HF.out]; rfl, Below.refl _ _⟩
 by_cases h3 : n > top
 ·
  have HF : Hid (v = false) := by show v = false; rw [← HV.out]; exact has_no (by omega)
  go_enter Tryz.func86, Tryz.ntmps86
  go_wp2
  go_ret
  exact ⟨by rw [HF.out]; rfl, Below.refl _ _⟩
 obtain ⟨n, rfl⟩ := Int.eq_ofNat_of_zero_le (show 0 ≤ n by omega)
 obtain ⟨p, hpe⟩ : ∃ p, n % 1024 / 32 = p := ⟨_, rfl⟩
 obtain ⟨k, hke⟩ : ∃ k, n % 32 = k := ⟨_, rfl⟩
 have HPE : Hid (n % 1024 / 32 = p) := hpe
 have HKE : Hid (n % 32 = k) := hke
 have hpl : p < 32 := by omega
 have hk : k < 32 := by omega
 have hpI : (p : Int) < 32 := by omega
 obtain ⟨x, hx⟩ : ∃ x, l.getD p 0 = x := ⟨_, rfl⟩
 have HX : Hid (l.getD p 0 = x) := hx
 have hx2 := H0.out.2.1.at p
 rw [hx] at hx2
 obtain ⟨X, rfl⟩ := Int.eq_ofNat_of_zero_le hx2.1
 have hxl : X < 4294967296 := by omega
 obtain ⟨M, hM⟩ : ∃ M : Int, ((2 ^ k : Nat) : Int) = M := ⟨_, rfl⟩
 have HM : Hid (((2 ^ k : Nat) : Int) = M) := hM
 have HB : Hid ((bits .and .u32 (X : Int) M != 0) = v) := by
  show _ = v
  rw [← hM, tb_u32 X k hxl hk, ← HV.out, has_yes ⟨by omega, by omega, by omega⟩, Int.toNat_natCast]
  unfold bit
  rw [hpe, hke, hx, Int.toNat_natCast]
 clear hx2 hxl hM hpe hke hk hx HV
 generalize (X : Int) = x at *
 go_enter Tryz.func86, Tryz.ntmps86
 go_wp2_with fail
 refine (placeOf n w (by omega)).mono ?_
 rw [HPE.out, HKE.out, HM.out]
 rintro e w1 ⟨rfl, m, hw1⟩
 have B1 : Hid (Below w.heap.size w w1) := by rw [hw1]; exact below_drewN (Below.refl _ _) _
 have c1 : w1.cell? ⟨g, 1 + p, none⟩ = some (.int .u32 x) := by rw [(H0.out.later B1.out).word p hpl, HX.out]
 clear hw1 H0 c0
 go_wp2
 go_ret
 exact ⟨by rw [← HB.out]; rfl, B1.out⟩

theorem may_no {top : Int} {l : List Int} {n : Int} (h : ¬ (0 ≤ n ∧ n ≤ 281474976710655 ∧ top - 1024 < n)) : WinP.may top l n = false := by unfold WinP.may; rw [decide_eq_false h, Bool.false_and]
theorem may_has {top : Int} {l : List Int} {n : Int} (h : 0 ≤ n ∧ n ≤ 281474976710655 ∧ top - 1024 < n) : WinP.may top l n = !WinP.has top l n := by
 unfold WinP.may
 rw [decide_eq_true h, Bool.true_and]
 by_cases k : top < n
 ·
  rw [decide_eq_true k, has_no (by omega)]; rfl
 ·
  rw [decide_eq_false k, has_yes (by omega)]; simp
set_option maxHeartbeats 4000000 in
theorem may (g : Nat) (top : Int) (l : List Int) (n : Int) (w : World) (h : Wnd w g top l) (lo : -1 ≤ top) (hi : top ≤ 281474976710655) :
  Calls Tryz.prog 158 #[.pointer (some ⟨g, 0, none⟩), .int .i64 n] w fun e w' => e = .returned (.bool (WinP.may top l n)) ∧ Below w.heap.size w w' := by
 have H0 : Hid (Wnd w g top l) := h
 obtain ⟨v, hv⟩ : ∃ v, WinP.may top l n = v := ⟨_, rfl⟩
 have HV : Hid (WinP.may top l n = v) := hv
 rw [hv]
 have c0 := h.topCell
 clear hv h
 go_enter Tryz.func158, Tryz.ntmps158
 go_wp2_with fail
 refine (isSeq n w).mono ?_
 by_cases h1 : 0 ≤ n ∧ n ≤ 281474976710655
 ·
  rw [decide_eq_true h1]
  rintro e w1 ⟨rfl, rfl⟩
  have H1 : Hid (0 ≤ n ∧ n ≤ 281474976710655) := h1
  clear h1
  by_cases h2 : n > top - 1024
  ·
   have HB : Hid ((!WinP.has top l n) = v) := by show _ = v; rw [← HV.out, may_has ⟨H1.out.1, H1.out.2, h2⟩]
   go_wp2_with fail
   refine (has g top l n w H0.out lo hi).mono ?_
   generalize WinP.has top l n = u at *
   rintro e w1 ⟨rfl, b1⟩
   have B1 := hid (b1)
   clear b1 c0
   go_wp2
   go_ret
   exact ⟨by rw [← HB.out]; first | rfl | simp, B1.out⟩
  ·
   have HF : Hid (v = false) := by show v = false; rw [← HV.out]; exact may_no (by omega)
   go_wp2
   go_ret
   exact ⟨by rw [HF.out]; first | rfl | simp, Below.refl _ _⟩
 ·
  have HF : Hid (v = false) := by show v = false; rw [← HV.out]; exact may_no (by omega)
  rw [decide_eq_false h1]
  rintro e w1 ⟨rfl, rfl⟩
  clear h1
  go_wp2
  go_ret
  exact ⟨by rw [HF.out]; first | rfl | simp, Below.refl _ _⟩
abbrev DL2 : List Nat := [20, 21, 22, 23, 24, 25, 26, 27, 28, 29, 30]
set_option maxHeartbeats 8000000 in
theorem add (g : Nat) (top : Int) (l : List Int) (n : Nat) (w : World) (h : Wnd w g top l) (lo : -1 ≤ top) (hn : n ≤ 281474976710655) :
  Calls Tryz.prog 159 #[.pointer (some ⟨g, 0, none⟩), .int .i64 n] w fun e w' => e = .returned (.tuple #[]) ∧ Wnd w' g (max top n) (addL top l n) ∧ Kept g (g + 1) w w' := by
 have H0 : Hid (Wnd w g top l) := h
 have c0 := h.topCell
 clear h
 go_enter Tryz.func159, Tryz.ntmps159
 by_cases hgt : (n : Int) > top
 ·
  go_wp2_with fail
  refine (climb g top l n w H0.out lo hgt hn).mono ?_
  obtain ⟨l1, hl1⟩ : ∃ l1, clrs l (top + 1).toNat (min ((n : Int) - top).toNat 1024) = l1 := ⟨_, rfl⟩
  have HL1 : Hid (addL top l n = setL l1 (n % 1024)) := by show _ = _; unfold addL; rw [hl1]
  obtain ⟨t1, ht1⟩ : ∃ t1 : Int, (n : Int) = t1 := ⟨_, rfl⟩
  have HT1 : Hid (t1 = max top n) := by show _ = _; omega
  rw [hl1]
  rintro e w1 ⟨rfl, h1, k1⟩
  rw [ht1] at h1
  have H1 : Hid (Wnd w1 g t1 l1) := h1
  have HK1 := hid (k1)
  have HN : Hid (n ≤ 562949953421312) := by show _ ≤ _; omega
  clear h1 k1 hl1 c0 H0 ht1 hgt hn
  obtain ⟨p, hpe⟩ : ∃ p, n % 1024 / 32 = p := ⟨_, rfl⟩
  obtain ⟨k, hke⟩ : ∃ k, n % 32 = k := ⟨_, rfl⟩
  have HPE : Hid (n % 1024 / 32 = p) := hpe
  have HKE : Hid (n % 32 = k) := hke
  have hpl : p < 32 := by omega
  have hk : k < 32 := by omega
  have hpI : (p : Int) < 32 := by omega
  obtain ⟨x, hx⟩ : ∃ x, l1.getD p 0 = x := ⟨_, rfl⟩
  have HX : Hid (l1.getD p 0 = x) := hx
  have hx2 := H1.out.2.1.at p
  rw [hx] at hx2
  obtain ⟨X, rfl⟩ := Int.eq_ofNat_of_zero_le hx2.1
  have hxl : X < 4294967296 := by omega
  obtain ⟨M, hM⟩ : ∃ M : Int, ((2 ^ k : Nat) : Int) = M := ⟨_, rfl⟩
  have HM : Hid (((2 ^ k : Nat) : Int) = M) := hM
  obtain ⟨Y, hY⟩ : ∃ Y : Int, ((setN X k : Nat) : Int) = Y := ⟨_, rfl⟩
  have HY : Hid (bits .or .u32 (X : Int) M = Y) := by rw [← hM, ← hY]; exact set_u32 X k hxl hk
  have HYb : Hid (0 ≤ Y ∧ Y ≤ 4294967295) := by have := setN_lt X k hxl hk; rw [← hY]; show _ ∧ _; omega
  have HA : Hid (addL top l n = l1.set p Y) := by
   show _ = _
   rw [HL1.out]
   unfold setL
   rw [show n % 1024 / 32 = p from hpe, show n % 1024 % 32 = k by omega, hx, Int.toNat_natCast, hY]
  clear hpe hke hx hx2 hxl hM hY hk
  generalize (X : Int) = x at *
  go_wp2_with fail
  refine (placeOf n w1 HN.out).mono ?_
  rw [HPE.out, HKE.out, HM.out]
  rintro e w2 ⟨rfl, m, hw2⟩
  have B2 : Hid (Below w1.heap.size w1 w2) := by rw [hw2]; exact below_drewN (Below.refl _ _) _
  have H2 := hid (H1.out.later B2.out)
  clear hw2 H1
  go_upto_region 3 with fail
  generalize hA : Act.mk _ _ = A
  have a0' : A.eval (.tmp 0) = .pointer (some ⟨g, 0, none⟩) := by rw [← hA]; rfl
  have a4' : A.eval (.tmp 4) = .int .i64 (p : Int) := by rw [← hA]; rfl
  have a5' : A.eval (.tmp 5) = .int .u32 M := by rw [← hA]; rfl
  have asz : A.tmps.size = 31 := by rw [← hA]; rfl
  have hW : ∀ wx, Below w2.heap.size w2 wx → Wnd wx g t1 l1 := fun wx hb => H2.out.later hb
  refine region_each (by kernel_rfl) DL2 11 (fun i => DL2.getD i 0) (fun _ => 0)
   (fun i gB v wx => match i with
    | 0 => v = .pointer (some ⟨g, 0, none⟩)
    | 1 => v = .int .i64 (p : Int)
    | 2 => v = .pointer (some ⟨g, 0, none⟩)
    | 3 => v = .pointer (some ⟨g, 1, none⟩)
    | 4 => v = .pointer (some ⟨g, 1 + p, none⟩)
    | 5 => v = .int .u32 x
    | 6 => v = .int .u32 M
    | 7 => v = .int .u32 (bits .or .u32 x M)
    | 8 => v = .pointer (some ⟨g, 0, none⟩)
    | 9 => v = .pointer (some ⟨g, 1, none⟩)
    | 10 => v = .pointer (some ⟨g, 1 + p, none⟩)
    | _ => False) (fun wx => Below w2.heap.size w2 wx) (by kernel_rfl) (Below.refl _ _).drew ?_ ?_ ?_
  ·
   intro i gB v wx wy hi hF hb _
   match i, hi with
   | 0, _ => exact hF
   | 1, _ => exact hF
   | 2, _ => exact hF
   | 3, _ => exact hF
   | 4, _ => exact hF
   | 5, _ => exact hF
   | 6, _ => exact hF
   | 7, _ => exact hF
   | 8, _ => exact hF
   | 9, _ => exact hF
   | 10, _ => exact hF
  ·
   intro i hi t ρ wx hB hp hd
   match i, hi with
   | 0, _ =>
    have e0 : (fr DL2 A t).eval (.tmp 0) = .pointer (some ⟨g, 0, none⟩) := (fr_eval_old _ _ _ 0 rfl).trans a0'
    refine op_run (v := .pointer (some ⟨g, 0, none⟩)) (w' := wx) rfl rfl ?_ ?_
    ·
     clear hp hd; have ec : ∀ v, (fr DL2 A t).eval (.const v) = v := fun _ => rfl; generalize (fr DL2 A t).eval = ev at ec e0 ⊢; go_simp
    ·
     exact ⟨_, 0, rfl, hB, Below.refl _ _, rfl, .inl rfl⟩
   | 1, _ =>
    have e4 : (fr DL2 A t).eval (.tmp 4) = .int .i64 (p : Int) := (fr_eval_old _ _ _ 4 rfl).trans a4'
    refine op_run (v := .int .i64 (p : Int)) (w' := wx) rfl rfl ?_ ?_
    ·
     clear hp hd; have ec : ∀ v, (fr DL2 A t).eval (.const v) = v := fun _ => rfl; generalize (fr DL2 A t).eval = ev at ec e4 ⊢; go_simp
    ·
     exact ⟨_, 0, rfl, hB, Below.refl _ _, rfl, .inl rfl⟩
   | 2, _ =>
    have e20 : (fr DL2 A t).eval (.tmp 20) = .pointer (some ⟨g, 0, none⟩) := (fr_eval _ _ _ 20 rfl (by rw [asz]; decide)).trans (hp 0 (pre_mem (by kernel_rfl)))
    refine op_run (v := .pointer (some ⟨g, 0, none⟩)) (w' := wx) rfl rfl ?_ ?_
    ·
     clear hp hd; have ec : ∀ v, (fr DL2 A t).eval (.const v) = v := fun _ => rfl; generalize (fr DL2 A t).eval = ev at ec e20 ⊢; go_simp
    ·
     exact ⟨_, 0, rfl, hB, Below.refl _ _, rfl, .inl rfl⟩
   | 3, _ =>
    have e22 : (fr DL2 A t).eval (.tmp 22) = .pointer (some ⟨g, 0, none⟩) := (fr_eval _ _ _ 22 rfl (by rw [asz]; decide)).trans (hp 2 (pre_mem (by kernel_rfl)))
    refine op_run (v := .pointer (some ⟨g, 1, none⟩)) (w' := wx) rfl rfl ?_ ?_
    ·
     clear hp hd; have ec : ∀ v, (fr DL2 A t).eval (.const v) = v := fun _ => rfl; generalize (fr DL2 A t).eval = ev at ec e22 ⊢; go_simp
    ·
     exact ⟨_, 0, rfl, hB, Below.refl _ _, rfl, .inl rfl⟩
   | 4, _ =>
    have e23 : (fr DL2 A t).eval (.tmp 23) = .pointer (some ⟨g, 1, none⟩) := (fr_eval _ _ _ 23 rfl (by rw [asz]; decide)).trans (hp 3 (pre_mem (by kernel_rfl)))
    have e21 : (fr DL2 A t).eval (.tmp 21) = .int .i64 (p : Int) := (fr_eval _ _ _ 21 rfl (by rw [asz]; decide)).trans (hp 1 (pre_mem (by kernel_rfl)))
    refine op_run (v := .pointer (some ⟨g, 1 + p, none⟩)) (w' := wx) rfl rfl ?_ ?_
    ·
     clear hp hd; have ec : ∀ v, (fr DL2 A t).eval (.const v) = v := fun _ => rfl; generalize (fr DL2 A t).eval = ev at ec e23 e21 ⊢; go_simp
    ·
     exact ⟨_, 0, rfl, hB, Below.refl _ _, rfl, .inl rfl⟩
   | 5, _ =>
    have e24 : (fr DL2 A t).eval (.tmp 24) = .pointer (some ⟨g, 1 + p, none⟩) := (fr_eval _ _ _ 24 rfl (by rw [asz]; decide)).trans (hp 4 (pre_mem (by kernel_rfl)))
    have hc : wx.cell? ⟨g, 1 + p, none⟩ = some (.int .u32 x) := by rw [(hW wx hB).word p hpl, HX.out]
    refine op_run (v := .int .u32 x) (w' := wx) rfl rfl ?_ ?_
    ·
     clear hp hd; have ec : ∀ v, (fr DL2 A t).eval (.const v) = v := fun _ => rfl; generalize (fr DL2 A t).eval = ev at ec e24 ⊢; go_simp
    ·
     exact ⟨_, 0, rfl, hB, Below.refl _ _, rfl, .inl rfl⟩
   | 6, _ =>
    have e5 : (fr DL2 A t).eval (.tmp 5) = .int .u32 M := (fr_eval_old _ _ _ 5 rfl).trans a5'
    refine op_run (v := .int .u32 M) (w' := wx) rfl rfl ?_ ?_
    ·
     clear hp hd; have ec : ∀ v, (fr DL2 A t).eval (.const v) = v := fun _ => rfl; generalize (fr DL2 A t).eval = ev at ec e5 ⊢; go_simp
    ·
     exact ⟨_, 0, rfl, hB, Below.refl _ _, rfl, .inl rfl⟩
   | 7, _ =>
    have e25 : (fr DL2 A t).eval (.tmp 25) = .int .u32 x := (fr_eval _ _ _ 25 rfl (by rw [asz]; decide)).trans (hp 5 (pre_mem (by kernel_rfl)))
    have e26 : (fr DL2 A t).eval (.tmp 26) = .int .u32 M := (fr_eval _ _ _ 26 rfl (by rw [asz]; decide)).trans (hp 6 (pre_mem (by kernel_rfl)))
    refine op_run (v := .int .u32 (bits .or .u32 x M)) (w' := wx) rfl rfl ?_ ?_
    ·
     clear hp hd; have ec : ∀ v, (fr DL2 A t).eval (.const v) = v := fun _ => rfl; generalize (fr DL2 A t).eval = ev at ec e25 e26 ⊢; go_simp
    ·
     exact ⟨_, 0, rfl, hB, Below.refl _ _, rfl, .inl rfl⟩
   | 8, _ =>
    have e20 : (fr DL2 A t).eval (.tmp 20) = .pointer (some ⟨g, 0, none⟩) := (fr_eval _ _ _ 20 rfl (by rw [asz]; decide)).trans (hp 0 (pre_mem (by kernel_rfl)))
    refine op_run (v := .pointer (some ⟨g, 0, none⟩)) (w' := wx) rfl rfl ?_ ?_
    ·
     clear hp hd; have ec : ∀ v, (fr DL2 A t).eval (.const v) = v := fun _ => rfl; generalize (fr DL2 A t).eval = ev at ec e20 ⊢; go_simp
    ·
     exact ⟨_, 0, rfl, hB, Below.refl _ _, rfl, .inl rfl⟩
   | 9, _ =>
    have e28 : (fr DL2 A t).eval (.tmp 28) = .pointer (some ⟨g, 0, none⟩) := (fr_eval _ _ _ 28 rfl (by rw [asz]; decide)).trans (hp 8 (pre_mem (by kernel_rfl)))
    refine op_run (v := .pointer (some ⟨g, 1, none⟩)) (w' := wx) rfl rfl ?_ ?_
    ·
     clear hp hd; have ec : ∀ v, (fr DL2 A t).eval (.const v) = v := fun _ => rfl; generalize (fr DL2 A t).eval = ev at ec e28 ⊢; go_simp
    ·
     exact ⟨_, 0, rfl, hB, Below.refl _ _, rfl, .inl rfl⟩
   | 10, _ =>
    have e29 : (fr DL2 A t).eval (.tmp 29) = .pointer (some ⟨g, 1, none⟩) := (fr_eval _ _ _ 29 rfl (by rw [asz]; decide)).trans (hp 9 (pre_mem (by kernel_rfl)))
    have e21 : (fr DL2 A t).eval (.tmp 21) = .int .i64 (p : Int) := (fr_eval _ _ _ 21 rfl (by rw [asz]; decide)).trans (hp 1 (pre_mem (by kernel_rfl)))
    refine op_run (v := .pointer (some ⟨g, 1 + p, none⟩)) (w' := wx) rfl rfl ?_ ?_
    ·
     clear hp hd; have ec : ∀ v, (fr DL2 A t).eval (.const v) = v := fun _ => rfl; generalize (fr DL2 A t).eval = ev at ec e29 e21 ⊢; go_simp
    ·
     exact ⟨_, 0, rfl, hB, Below.refl _ _, rfl, .inl rfl⟩
  ·
   intro t ρ wx hB hF hne
   have e30 : (fr DL2 A t).eval (.tmp 30) = .pointer (some ⟨g, 1 + p, none⟩) := (fr_eval _ _ _ 30 rfl (by rw [asz]; decide)).trans (hF 10 (by decide))
   have e27 : (fr DL2 A t).eval (.tmp 27) = .int .u32 (bits .or .u32 x M) := (fr_eval _ _ _ 27 rfl (by rw [asz]; decide)).trans (hF 7 (by decide))
   clear hne
   have q0 : ∃ v, wx.cell? ⟨g, 1 + p, none⟩ = some v := ⟨_, (hW wx hB).word p hpl⟩
   obtain ⟨v0, q0⟩ := q0
   have f0 := (hW wx hB).froz (1 + p)
   have kW : Hid (Wnd wx g t1 l1) := hW wx hB
   refine op_wp rfl rfl ?_
   clear hF hW
   generalize hE : (fr DL2 A t).eval = ev at e30 e27
   unfold Oper.wp
   rw [hE]
   go_simp
   rw [← hA]
   go_end0
   exact ⟨rfl, by rw [← HT1.out, HA.out]; have := kW.out.setWord p Y HYb.out; rw [HY.out]; exact this, HK1.out.trans ((Kept.of_below B2.out 0).any.trans ((Kept.of_below hB 0).any.trans (Kept.setCell _ _ _ _)))⟩
 ·
  go_upto_region 2 with fail
  obtain ⟨l1, hl1⟩ : ∃ l1, l = l1 := ⟨_, rfl⟩
  have HL1 : Hid (addL top l n = setL l1 (n % 1024)) := by show _ = _; unfold addL; rw [← hl1, show min ((n : Int) - top).toNat 1024 = 0 by omega]; rfl
  obtain ⟨t1, ht1⟩ : ∃ t1 : Int, top = t1 := ⟨_, rfl⟩
  have HT1 : Hid (t1 = max top n) := by show _ = _; omega
  obtain ⟨w1, hw1⟩ : ∃ w1, w = w1 := ⟨_, rfl⟩
  have H1 : Hid (Wnd w1 g t1 l1) := by rw [← hw1, ← hl1, ← ht1]; exact H0.out
  have HK1 : Hid (Kept g (g + 1) w w1) := by rw [← hw1]; exact Kept.refl _ _ _
  have HN : Hid (n ≤ 562949953421312) := by show _ ≤ _; omega
  clear c0 hl1 ht1 H0 hn hgt
  rw [hw1]
  clear hw1
  obtain ⟨p, hpe⟩ : ∃ p, n % 1024 / 32 = p := ⟨_, rfl⟩
  obtain ⟨k, hke⟩ : ∃ k, n % 32 = k := ⟨_, rfl⟩
  have HPE : Hid (n % 1024 / 32 = p) := hpe
  have HKE : Hid (n % 32 = k) := hke
  have hpl : p < 32 := by omega
  have hk : k < 32 := by omega
  have hpI : (p : Int) < 32 := by omega
  obtain ⟨x, hx⟩ : ∃ x, l1.getD p 0 = x := ⟨_, rfl⟩
  have HX : Hid (l1.getD p 0 = x) := hx
  have hx2 := H1.out.2.1.at p
  rw [hx] at hx2
  obtain ⟨X, rfl⟩ := Int.eq_ofNat_of_zero_le hx2.1
  have hxl : X < 4294967296 := by omega
  obtain ⟨M, hM⟩ : ∃ M : Int, ((2 ^ k : Nat) : Int) = M := ⟨_, rfl⟩
  have HM : Hid (((2 ^ k : Nat) : Int) = M) := hM
  obtain ⟨Y, hY⟩ : ∃ Y : Int, ((setN X k : Nat) : Int) = Y := ⟨_, rfl⟩
  have HY : Hid (bits .or .u32 (X : Int) M = Y) := by rw [← hM, ← hY]; exact set_u32 X k hxl hk
  have HYb : Hid (0 ≤ Y ∧ Y ≤ 4294967295) := by have := setN_lt X k hxl hk; rw [← hY]; show _ ∧ _; omega
  have HA : Hid (addL top l n = l1.set p Y) := by
   show _ = _
   rw [HL1.out]
   unfold setL
   rw [show n % 1024 / 32 = p from hpe, show n % 1024 % 32 = k by omega, hx, Int.toNat_natCast, hY]
  clear hpe hke hx hx2 hxl hM hY hk
  generalize (X : Int) = x at *
  go_wp2_with fail
  refine (placeOf n w1 HN.out).mono ?_
  rw [HPE.out, HKE.out, HM.out]
  rintro e w2 ⟨rfl, m, hw2⟩
  have B2 : Hid (Below w1.heap.size w1 w2) := by rw [hw2]; exact below_drewN (Below.refl _ _) _
  have H2 := hid (H1.out.later B2.out)
  clear hw2 H1
  go_upto_region 3 with fail
  generalize hA : Act.mk _ _ = A
  have a0' : A.eval (.tmp 0) = .pointer (some ⟨g, 0, none⟩) := by rw [← hA]; rfl
  have a4' : A.eval (.tmp 4) = .int .i64 (p : Int) := by rw [← hA]; rfl
  have a5' : A.eval (.tmp 5) = .int .u32 M := by rw [← hA]; rfl
  have asz : A.tmps.size = 31 := by rw [← hA]; rfl
  have hW : ∀ wx, Below w2.heap.size w2 wx → Wnd wx g t1 l1 := fun wx hb => H2.out.later hb
  refine region_each (by kernel_rfl) DL2 11 (fun i => DL2.getD i 0) (fun _ => 0)
   (fun i gB v wx => match i with
    | 0 => v = .pointer (some ⟨g, 0, none⟩)
    | 1 => v = .int .i64 (p : Int)
    | 2 => v = .pointer (some ⟨g, 0, none⟩)
    | 3 => v = .pointer (some ⟨g, 1, none⟩)
    | 4 => v = .pointer (some ⟨g, 1 + p, none⟩)
    | 5 => v = .int .u32 x
    | 6 => v = .int .u32 M
    | 7 => v = .int .u32 (bits .or .u32 x M)
    | 8 => v = .pointer (some ⟨g, 0, none⟩)
    | 9 => v = .pointer (some ⟨g, 1, none⟩)
    | 10 => v = .pointer (some ⟨g, 1 + p, none⟩)
    | _ => False) (fun wx => Below w2.heap.size w2 wx) (by kernel_rfl) (Below.refl _ _).drew ?_ ?_ ?_
  ·
   intro i gB v wx wy hi hF hb _
   match i, hi with
   | 0, _ => exact hF
   | 1, _ => exact hF
   | 2, _ => exact hF
   | 3, _ => exact hF
   | 4, _ => exact hF
   | 5, _ => exact hF
   | 6, _ => exact hF
   | 7, _ => exact hF
   | 8, _ => exact hF
   | 9, _ => exact hF
   | 10, _ => exact hF
  ·
   intro i hi t ρ wx hB hp hd
   match i, hi with
   | 0, _ =>
    have e0 : (fr DL2 A t).eval (.tmp 0) = .pointer (some ⟨g, 0, none⟩) := (fr_eval_old _ _ _ 0 rfl).trans a0'
    refine op_run (v := .pointer (some ⟨g, 0, none⟩)) (w' := wx) rfl rfl ?_ ?_
    ·
     clear hp hd; have ec : ∀ v, (fr DL2 A t).eval (.const v) = v := fun _ => rfl; generalize (fr DL2 A t).eval = ev at ec e0 ⊢; go_simp
    ·
     exact ⟨_, 0, rfl, hB, Below.refl _ _, rfl, .inl rfl⟩
   | 1, _ =>
    have e4 : (fr DL2 A t).eval (.tmp 4) = .int .i64 (p : Int) := (fr_eval_old _ _ _ 4 rfl).trans a4'
    refine op_run (v := .int .i64 (p : Int)) (w' := wx) rfl rfl ?_ ?_
    ·
     clear hp hd; have ec : ∀ v, (fr DL2 A t).eval (.const v) = v := fun _ => rfl; generalize (fr DL2 A t).eval = ev at ec e4 ⊢; go_simp
    ·
     exact ⟨_, 0, rfl, hB, Below.refl _ _, rfl, .inl rfl⟩
   | 2, _ =>
    have e20 : (fr DL2 A t).eval (.tmp 20) = .pointer (some ⟨g, 0, none⟩) := (fr_eval _ _ _ 20 rfl (by rw [asz]; decide)).trans (hp 0 (pre_mem (by kernel_rfl)))
    refine op_run (v := .pointer (some ⟨g, 0, none⟩)) (w' := wx) rfl rfl ?_ ?_
    ·
     clear hp hd; have ec : ∀ v, (fr DL2 A t).eval (.const v) = v := fun _ => rfl; generalize (fr DL2 A t).eval = ev at ec e20 ⊢; go_simp
    ·
     exact ⟨_, 0, rfl, hB, Below.refl _ _, rfl, .inl rfl⟩
   | 3, _ =>
    have e22 : (fr DL2 A t).eval (.tmp 22) = .pointer (some ⟨g, 0, none⟩) := (fr_eval _ _ _ 22 rfl (by rw [asz]; decide)).trans (hp 2 (pre_mem (by kernel_rfl)))
    refine op_run (v := .pointer (some ⟨g, 1, none⟩)) (w' := wx) rfl rfl ?_ ?_
    ·
     clear hp hd; have ec : ∀ v, (fr DL2 A t).eval (.const v) = v := fun _ => rfl; generalize (fr DL2 A t).eval = ev at ec e22 ⊢; go_simp
    ·
     exact ⟨_, 0, rfl, hB, Below.refl _ _, rfl, .inl rfl⟩
   | 4, _ =>
    have e23 : (fr DL2 A t).eval (.tmp 23) = .pointer (some ⟨g, 1, none⟩) := (fr_eval _ _ _ 23 rfl (by rw [asz]; decide)).trans (hp 3 (pre_mem (by kernel_rfl)))
    have e21 : (fr DL2 A t).eval (.tmp 21) = .int .i64 (p : Int) := (fr_eval _ _ _ 21 rfl (by rw [asz]; decide)).trans (hp 1 (pre_mem (by kernel_rfl)))
    refine op_run (v := .pointer (some ⟨g, 1 + p, none⟩)) (w' := wx) rfl rfl ?_ ?_
    ·
     clear hp hd; have ec : ∀ v, (fr DL2 A t).eval (.const v) = v := fun _ => rfl; generalize (fr DL2 A t).eval = ev at ec e23 e21 ⊢; go_simp
    ·
     exact ⟨_, 0, rfl, hB, Below.refl _ _, rfl, .inl rfl⟩
   | 5, _ =>
    have e24 : (fr DL2 A t).eval (.tmp 24) = .pointer (some ⟨g, 1 + p, none⟩) := (fr_eval _ _ _ 24 rfl (by rw [asz]; decide)).trans (hp 4 (pre_mem (by kernel_rfl)))
    have hc : wx.cell? ⟨g, 1 + p, none⟩ = some (.int .u32 x) := by rw [(hW wx hB).word p hpl, HX.out]
    refine op_run (v := .int .u32 x) (w' := wx) rfl rfl ?_ ?_
    ·
     clear hp hd; have ec : ∀ v, (fr DL2 A t).eval (.const v) = v := fun _ => rfl; generalize (fr DL2 A t).eval = ev at ec e24 ⊢; go_simp
    ·
     exact ⟨_, 0, rfl, hB, Below.refl _ _, rfl, .inl rfl⟩
   | 6, _ =>
    have e5 : (fr DL2 A t).eval (.tmp 5) = .int .u32 M := (fr_eval_old _ _ _ 5 rfl).trans a5'
    refine op_run (v := .int .u32 M) (w' := wx) rfl rfl ?_ ?_
    ·
     clear hp hd; have ec : ∀ v, (fr DL2 A t).eval (.const v) = v := fun _ => rfl; generalize (fr DL2 A t).eval = ev at ec e5 ⊢; go_simp
    ·
     exact ⟨_, 0, rfl, hB, Below.refl _ _, rfl, .inl rfl⟩
   | 7, _ =>
    have e25 : (fr DL2 A t).eval (.tmp 25) = .int .u32 x := (fr_eval _ _ _ 25 rfl (by rw [asz]; decide)).trans (hp 5 (pre_mem (by kernel_rfl)))
    have e26 : (fr DL2 A t).eval (.tmp 26) = .int .u32 M := (fr_eval _ _ _ 26 rfl (by rw [asz]; decide)).trans (hp 6 (pre_mem (by kernel_rfl)))
    refine op_run (v := .int .u32 (bits .or .u32 x M)) (w' := wx) rfl rfl ?_ ?_
    ·
     clear hp hd; have ec : ∀ v, (fr DL2 A t).eval (.const v) = v := fun _ => rfl; generalize (fr DL2 A t).eval = ev at ec e25 e26 ⊢; go_simp
    ·
     exact ⟨_, 0, rfl, hB, Below.refl _ _, rfl, .inl rfl⟩
   | 8, _ =>
    have e20 : (fr DL2 A t).eval (.tmp 20) = .pointer (some ⟨g, 0, none⟩) := (fr_eval _ _ _ 20 rfl (by rw [asz]; decide)).trans (hp 0 (pre_mem (by kernel_rfl)))
    refine op_run (v := .pointer (some ⟨g, 0, none⟩)) (w' := wx) rfl rfl ?_ ?_
    ·
     clear hp hd; have ec : ∀ v, (fr DL2 A t).eval (.const v) = v := fun _ => rfl; generalize (fr DL2 A t).eval = ev at ec e20 ⊢; go_simp
    ·
     exact ⟨_, 0, rfl, hB, Below.refl _ _, rfl, .inl rfl⟩
   | 9, _ =>
    have e28 : (fr DL2 A t).eval (.tmp 28) = .pointer (some ⟨g, 0, none⟩) := (fr_eval _ _ _ 28 rfl (by rw [asz]; decide)).trans (hp 8 (pre_mem (by kernel_rfl)))
    refine op_run (v := .pointer (some ⟨g, 1, none⟩)) (w' := wx) rfl rfl ?_ ?_
    ·
     clear hp hd; have ec : ∀ v, (fr DL2 A t).eval (.const v) = v := fun _ => rfl; generalize (fr DL2 A t).eval = ev at ec e28 ⊢; go_simp
    ·
     exact ⟨_, 0, rfl, hB, Below.refl _ _, rfl, .inl rfl⟩
   | 10, _ =>
    have e29 : (fr DL2 A t).eval (.tmp 29) = .pointer (some ⟨g, 1, none⟩) := (fr_eval _ _ _ 29 rfl (by rw [asz]; decide)).trans (hp 9 (pre_mem (by kernel_rfl)))
    have e21 : (fr DL2 A t).eval (.tmp 21) = .int .i64 (p : Int) := (fr_eval _ _ _ 21 rfl (by rw [asz]; decide)).trans (hp 1 (pre_mem (by kernel_rfl)))
    refine op_run (v := .pointer (some ⟨g, 1 + p, none⟩)) (w' := wx) rfl rfl ?_ ?_
    ·
     clear hp hd; have ec : ∀ v, (fr DL2 A t).eval (.const v) = v := fun _ => rfl; generalize (fr DL2 A t).eval = ev at ec e29 e21 ⊢; go_simp
    ·
     exact ⟨_, 0, rfl, hB, Below.refl _ _, rfl, .inl rfl⟩
  ·
   intro t ρ wx hB hF hne
   have e30 : (fr DL2 A t).eval (.tmp 30) = .pointer (some ⟨g, 1 + p, none⟩) := (fr_eval _ _ _ 30 rfl (by rw [asz]; decide)).trans (hF 10 (by decide))
   have e27 : (fr DL2 A t).eval (.tmp 27) = .int .u32 (bits .or .u32 x M) := (fr_eval _ _ _ 27 rfl (by rw [asz]; decide)).trans (hF 7 (by decide))
   clear hne
   have q0 : ∃ v, wx.cell? ⟨g, 1 + p, none⟩ = some v := ⟨_, (hW wx hB).word p hpl⟩
   obtain ⟨v0, q0⟩ := q0
   have f0 := (hW wx hB).froz (1 + p)
   have kW : Hid (Wnd wx g t1 l1) := hW wx hB
   refine op_wp rfl rfl ?_
   clear hF hW
   generalize hE : (fr DL2 A t).eval = ev at e30 e27
   unfold Oper.wp
   rw [hE]
   go_simp
   rw [← hA]
   go_end0
   exact ⟨rfl, by rw [← HT1.out, HA.out]; have := kW.out.setWord p Y HYb.out; rw [HY.out]; exact this, HK1.out.trans ((Kept.of_below B2.out 0).any.trans ((Kept.of_below hB 0).any.trans (Kept.setCell _ _ _ _)))⟩
end Go.Proofs.YtmcflfpckpjphaaGreatDoor.WnI

namespace Go.Proofs.YtmcflfpckpjphaaGreatDoor.WnJ
open Go.RowKit Mem MemI Blk Zone ZoneI WnZ Res Each Copy Ops WinP WinB Bits WnI

def room (i : Nat) (top : Int) : Nat := 2 ^ min (top + 1 - 32 * i).toNat 32 - 1
set_option maxHeartbeats 800000 in
theorem roomIn (i : Nat) (top : Int) (w : World) (hi : i < 32) (lo : -1 ≤ top) (ht : top ≤ 281474976710655) :
  Calls Tryz.prog 160 #[.int .i64 i, .int .i64 top] w fun e w' => e = .returned (.int .u32 (room i top : Nat)) ∧ w = w' := by
 by_cases h : 0 < top + 1 - (i : Int) * 32
 ·
  obtain ⟨A, hA⟩ : ∃ A : Nat, top + 1 - (i : Int) * 32 = (A : Int) := ⟨(top + 1 - (i : Int) * 32).toNat, by omega⟩
  have h0 : (0 : Int) ≤ A := by omega
  rw [hA] at h
  have HR : Hid (room i top = 2 ^ min A 32 - 1) := by show _ = _; unfold room; rw [show (top + 1 - 32 * (i : Int)).toNat = A by omega]
  go_enter Tryz.func160, Tryz.ntmps160
  go_wp2
  go_ret
  refine ⟨?_, rfl⟩
  show Ending.returned (.int .u32 (((2 : Int) ^ min A 32 % 4294967296 - 1) % 4294967296)) = _
  rw [HR.out]
  have p1 : 2 ^ min A 32 ≤ 2 ^ 32 := Nat.pow_le_pow_right (by omega) (by omega)
  have p0 : 0 < 2 ^ min A 32 := Nat.two_pow_pos _
  obtain ⟨M, hM⟩ : ∃ M : Nat, 2 ^ min A 32 = M := ⟨_, rfl⟩
  have e2 : (2 : Int) ^ min A 32 = (M : Int) := by rw [← hM]; simp
  rw [hM] at p1 p0
  rw [e2, hM, show ((M : Int) % 4294967296 - 1) % 4294967296 = ((M - 1 : Nat) : Int) by omega]
 ·
  go_enter Tryz.func160, Tryz.ntmps160
  go_wp2
  go_ret
  refine ⟨?_, rfl⟩
  unfold room
  rw [show (top + 1 - 32 * (i : Int)).toNat = 0 by omega]
  rfl

def Free (top : Int) (l : List Int) : Prop := ∀ n : Nat, top < (n : Int) → n < 1024 → bit l n = false
open Classical in
noncomputable def winRight (top : Int) (l : List Int) : Bool := decide (Free top l) && (decide (top = -1) || WinP.has top l top)
theorem right_true {top : Int} {l : List Int} : winRight top l = true ↔ Free top l ∧ (top = -1 ∨ WinP.has top l top = true) := by
 unfold winRight; simp
theorem ok_right {top : Int} {l : List Int} (hl : l.length = 32) (lo : -1 ≤ top) (hi : top ≤ 281474976710655) (hw : Words l) : winRight top l = winOk top l := by
 rw [Bool.eq_iff_iff, winOk_iff, right_true]
 constructor
 ·
  rintro ⟨h1, h2⟩
  refine ⟨hl, lo, hi, hw, fun h0 => ?_, h1⟩
  rcases h2 with h2 | h2
  ·
   omega
  ·
   rwa [has_yes (by omega)] at h2
 ·
  intro h
  refine ⟨h.free, ?_⟩
  by_cases h0 : top = -1
  ·
   exact .inl h0
  ·
   right
   rw [has_yes (by omega)]
   exact h.taken (by omega)
theorem word_free {top : Int} {l : List Int} {i X : Nat} (hi : i < 32) (hx : l.getD i 0 = (X : Int)) (hX : X < 4294967296) :
  (bits .andNot .u32 (X : Int) ((room i top : Nat) : Int) != 0) = false ↔ ∀ n : Nat, top < (n : Int) → 32 * i ≤ n → n < 32 * i + 32 → bit l n = false := by
 have hR : room i top < 4294967296 := by
  unfold room
  have : 2 ^ min (top + 1 - 32 * (i : Int)).toNat 32 ≤ 2 ^ 32 := Nat.pow_le_pow_right (by omega) (by omega)
  omega
 have e : (bits .andNot .u32 (X : Int) ((room i top : Nat) : Int) != 0) = false ↔ X ^^^ (X &&& room i top) = 0 := by
  rw [andNot_u32 X _ hX hR, bne_eq_false_iff_eq]
  omega
 have hb : ∀ n : Nat, 32 * i ≤ n → n < 32 * i + 32 → bit l n = X.testBit (n - 32 * i) := by
  intro n h1 h2
  unfold bit
  rw [show n % 1024 / 32 = i by omega, show n % 32 = n - 32 * i by omega, hx, Int.toNat_natCast]
 rw [e]
 unfold room
 rw [room_zero X _ hX]
 constructor
 ·
  intro h n h1 h2 h3
  rw [hb n h2 h3]
  exact h _ (by omega) (by omega)
 ·
  intro h j h1 h2
  have := h (32 * i + j) (by omega) (by omega) (by omega)
  rw [hb _ (by omega) (by omega)] at this
  rwa [show 32 * i + j - 32 * i = j by omega] at this

set_option maxHeartbeats 4000000 in
theorem right (g : Nat) (top : Int) (l : List Int) (w : World) (h : Wnd w g top l) (lo : -1 ≤ top) (ht : top ≤ 281474976710655) :
  Calls Tryz.prog 128 #[.pointer (some ⟨g, 0, none⟩)] w fun e w' => e = .returned (.bool (winRight top l)) ∧ Below w.heap.size w w' := by
 have H0 : Hid (Wnd w g top l) := h
 obtain ⟨v, hv⟩ : ∃ v, winRight top l = v := ⟨_, rfl⟩
 have HV : Hid (winRight top l = v) := hv
 rw [hv]
 clear hv h
 go_enter Tryz.func128, Tryz.ntmps128
 go_wp2
 go_loopw [4] (fun i wr => ∃ k : Nat, k ≤ 32 ∧ i = .int .i64 k ∧ Hid (∀ n : Nat, top < (n : Int) → n < 32 * k → bit l n = false) ∧ Below w.heap.size w wr) (fun i _ => 32 - (intOf i).toNat)
 case atStart => exact ⟨0, Nat.zero_le _, rfl, fun n _ h => absurd h (by omega), Below.refl _ _⟩
 case round =>
  obtain ⟨k, hk, rfl, HF, hbe⟩ := hrel
  have HBe := hid (hbe)
  have HW := hid (H0.out.later hbe)
  have c0 := HW.out.topCell
  clear hbe
  by_cases hlt : k < 32
  ·
   obtain ⟨x, hx⟩ : ∃ x, l.getD k 0 = x := ⟨_, rfl⟩
   have HX : Hid (l.getD k 0 = x) := hx
   have hx2 := HW.out.2.1.at k
   rw [hx] at hx2
   obtain ⟨X, rfl⟩ := Int.eq_ofNat_of_zero_le hx2.1
   have hxl : X < 4294967296 := by omega
   have c1 : wr.cell? ⟨g, 1 + k, none⟩ = some (.int .u32 (X : Int)) := by rw [HW.out.word k hlt, hx]
   have HWF := word_free (top := top) hlt hx hxl
   clear hx hx2 hxl
   obtain ⟨R, hR⟩ : ∃ R : Int, ((room k top : Nat) : Int) = R := ⟨_, rfl⟩
   have HR : Hid (((room k top : Nat) : Int) = R) := hR
   have HRI : Hid (∀ wz : World, Calls Tryz.prog 160 #[.int .i64 k, .int .i64 top] wz fun e w' => e = .returned (.int .u32 R) ∧ ∃ m, w' = wz.drewN m) := by
    intro wz
    rw [← hR]
    refine (roomIn k top wz hlt lo ht).mono ?_
    rintro e w' ⟨rfl, rfl⟩
    exact ⟨rfl, 0, rfl⟩
   rw [hR] at HWF
   clear hR HR
   have HWF2 : Hid _ := HWF
   clear HWF
   generalize (X : Int) = x at *
   cases hz : (bits .andNot .u32 x R != 0) with
   | false =>
    have HF2 : Hid (∀ n : Nat, top < (n : Int) → n < 32 * (k + 1) → bit l n = false) := by
     intro n h1 h2
     by_cases h3 : n < 32 * k
     ·
      exact HF.out n h1 h3
     ·
      exact HWF2.out.1 hz n h1 (by omega) (by omega)
    go_wp2
    go_quiet (first | (go_at_call 160; refine Calls.quiet_of (HRI.out _)))
    go_wp2
    go_roundw
    case rel => exact ⟨k + 1, by omega, by go_num, HF2, below_drewN HBe.out _⟩
    case measure => simp [intOf]; omega
   | true =>
    have HFF : Hid (v = false) := by
     show v = false
     rw [← HV.out]
     refine Bool.eq_false_iff.2 fun e => ?_
     have hfree := (right_true.1 e).1
     rw [HWF2.out.2 (fun n h1 h2 h3 => hfree n h1 (by omega))] at hz
     cases hz
    go_wp2
    go_quiet (first | (go_at_call 160; refine Calls.quiet_of (HRI.out _)))
    go_wp2
    go_ret
    exact ⟨by rw [HFF.out]; rfl, below_drewN HBe.out _⟩
  ·
   have HFr : Hid (Free top l) := fun n h1 h2 => HF.out n h1 (by omega)
   by_cases h1 : top = -1
   ·
    have HT : Hid (v = true) := by
     show v = true
     rw [← HV.out]
     exact right_true.2 ⟨HFr.out, .inl h1⟩
    subst h1
    go_wp2
    go_ret
    exact ⟨by rw [HT.out]; rfl, HBe.out⟩
   ·
    have hb1 : (top == -1) = false := by simpa using h1
    have HT : Hid (WinP.has top l top = v) := by
     show _ = v
     rw [← HV.out]
     rw [Bool.eq_iff_iff, right_true]
     exact ⟨fun h => ⟨HFr.out, .inr h⟩, fun h => h.2.resolve_left h1⟩
    go_wp2_with fail
    refine (has g top l top wr HW.out lo ht).mono ?_
    rw [HT.out]
    rintro e w2 ⟨rfl, b2⟩
    have B2 := hid (HBe.out.trans (b2.mono HBe.out.size))
    clear b2 c0
    go_wp2
    go_ret
    exact ⟨by first | rfl | simp, B2.out⟩
end Go.Proofs.YtmcflfpckpjphaaGreatDoor.WnJ

namespace Go.Proofs.YtmcflfpckpjphaaGreatDoor.WnL
open Go.RowKit Mem MemI Blk Zone ZoneI WnZ Res Each Copy Ops WinP WinB Bits WnI WnJ

theorem irow_set {w : World} {g cap : Nat} {l : List Int} (h : IRow w g cap l) (i : Nat) (z : Int) : IRow (w.setCell ⟨g, i, none⟩ (.int .i64 z)) g cap (l.set i z) := by
 have h1 := ((h.owns (Nat.le_refl g)).stored i (.int .i64 z)).1
 rw [← List.map_set] at h1
 have e : (l.set i z).length = l.length := by rw [List.length_set]
 rw [← e] at h1
 exact (IRow.of h1).1
theorem mid_set (l : List Int) (k : Nat) (hl : l.length = 32) (hk : k < 32) : (l.take k ++ List.replicate (32 - k) 0).set k (l.getD k 0) = l.take (k + 1) ++ List.replicate (32 - (k + 1)) 0 := by
 have h := set_mid l k (by omega)
 rw [hl] at h
 exact h
theorem mid_length (l : List Int) (k : Nat) (hl : l.length = 32) (hk : k ≤ 32) : (l.take k ++ List.replicate (32 - k) (0 : Int)).length = 32 := by
 rw [List.length_append, List.length_take, List.length_replicate, hl]; omega
theorem mid_end (l : List Int) (hl : l.length = 32) : l.take 32 ++ List.replicate (32 - 32) (0 : Int) = l := by
 rw [List.take_of_length_le (by omega)]; simp

set_option maxHeartbeats 4000000 in
theorem win (g : Nat) (top : Int) (l : List Int) (w : World) (h : Wnd w g top l) :
  Calls Tryz.prog 125 #[.pointer (some ⟨g, 0, none⟩)] w fun e w' => ∃ S', e = .returned (wnV ⟨top, l⟩ S') ∧ WnOwn w' w.heap.size w'.heap.size S' ⟨top, l⟩ ∧ Below w.heap.size w w' := by
 have H0 : Hid (Wnd w g top l) := h
 have HG : Hid (g < w.heap.size) := h.lt
 obtain ⟨i0, hi, hz0, hz1, hz2⟩ := info_parts info64
 obtain ⟨x0, hx0⟩ : ∃ x0, w.alloc (.cells #[.int .i64 0, .slice none 0 0] 39) = x0 := ⟨_, rfl⟩
 have HW0 : Hid (_ = x0) := hx0
 have B0 : Hid (Below w.heap.size w x0) := by rw [← hx0]; exact (Below.refl _ _).alloc (Nat.le_refl _) _
 have KO0 : Hid (Blk x0 w.heap.size 39 [.int .i64 0, .slice none 0 0]) := by rw [← hx0]; exact Blk.new w _ _
 have HSZ : Hid (x0.heap.size = w.heap.size + 1) := by rw [← hx0]; show _ = _; simp
 clear h hx0
 go_enter Tryz.func125, Tryz.ntmps125
 go_upto_region 1 with fail
 rw [HW0.out]
 go_wp2_with (at_make; refine wpList_make_full _ rfl _ _ 37 rfl x0.heap.size 3 i0 (.int .i64 0) 1 Tryz.underlying37 hi hz0 hz1 _ _ _ _ 32 rfl rfl rfl rfl (by rw [hz2]; omega) (by unfold maxLen; omega) (Nat.le_refl _) ?_; intro w1 hown hgr)
 have b1 : Below x0.heap.size x0 w1 := (Below.refl _ _).grown hgr (Nat.le_refl _) (fun k h => by cases h)
 have B1 := hid (B0.out.trans (b1.mono B0.out.size))
 have KO1 := hid (KO0.out.later b1)
 have R1 : Hid (IRow w1 (w.heap.size + 1) 32 (l.take 0 ++ List.replicate (32 - 0) 0)) := by
  have h2 : w1.ownsRow x0.heap.size 3 1 (.slice (some ⟨x0.heap.size, 0, none⟩) 32 32) 32 ((l.take 0 ++ List.replicate (32 - 0) 0).map (Value.int .i64)) := by
   simpa [Value.cells, toList_madeCells_one] using hown
  rw [HSZ.out] at h2
  exact (IRow.of h2).1
 rw [HSZ.out]
 clear hown hgr b1 B0 KO0 HW0
 have HL : Hid (l.length = 32) := H0.out.1
 go_loopw [6] (fun i wr => ∃ k : Nat, k ≤ 32 ∧ i = .int .i64 k ∧ IRow wr (w.heap.size + 1) 32 (l.take k ++ List.replicate (32 - k) 0) ∧ Blk wr w.heap.size 39 [.int .i64 0, .slice none 0 0] ∧ Below w.heap.size w wr) (fun i _ => 32 - (intOf i).toNat)
 case atStart => exact ⟨0, Nat.zero_le _, rfl, R1.out, KO1.out, B1.out⟩
 case round =>
  obtain ⟨k, hk, rfl, hr, hko, hbe⟩ := hrel
  have HR := hid (hr)
  have HKO := hid (hko)
  have HBe := hid (hbe)
  have HW := hid (H0.out.later hbe)
  clear hr hko hbe R1 KO1 B1
  by_cases hlt : k < 32
  ·
   obtain ⟨x, hx⟩ : ∃ x, l.getD k 0 = x := ⟨_, rfl⟩
   have c1 : wr.cell? ⟨g, 1 + k, none⟩ = some (.int .u32 x) := by rw [HW.out.word k hlt, hx]
   have hx2 := HW.out.2.1.at k
   rw [hx] at hx2
   have hwx : wrap64 x = x := by unfold wrap64; omega
   have R2 : Hid (IRow (wr.setCell ⟨w.heap.size + 1, k, none⟩ (.int .i64 x)) (w.heap.size + 1) 32 (l.take (k + 1) ++ List.replicate (32 - (k + 1)) 0)) := by
    have := irow_set HR.out k x
    rw [← hx, mid_set l k HL.out hlt] at this
    rw [← hx]; exact this
   have q0 : ∃ v, wr.cell? ⟨w.heap.size + 1, k, none⟩ = some v := ⟨_, HR.out.cell k (by rw [mid_length l k HL.out hk]; exact hlt)⟩
   obtain ⟨v0, q0⟩ := q0
   have f0 : wr.frozen? ⟨w.heap.size + 1, k, none⟩ = false := (HR.out.owns (Nat.le_refl _)).frozenAt k
   have K2 : Hid (Blk (wr.setCell ⟨w.heap.size + 1, k, none⟩ (.int .i64 x)) w.heap.size 39 [.int .i64 0, .slice none 0 0]) := HKO.out.other (by show w.heap.size ≠ w.heap.size + 1; omega) _
   have B2 : Hid (Below w.heap.size w (wr.setCell ⟨w.heap.size + 1, k, none⟩ (.int .i64 x))) := HBe.out.setCell (by show w.heap.size ≤ w.heap.size + 1; omega) _
   clear hx hx2
   go_wp2
   go_roundw
   case rel => exact ⟨k + 1, by omega, by go_num, R2.out, K2.out, B2.out⟩
   case measure => simp [intOf]; omega
  ·
   obtain rfl : k = 32 := by omega
   have RF : Hid (IRow wr (w.heap.size + 1) 32 l) := by
    have := HR.out
    rw [mid_end l HL.out] at this
    exact this
   have c0 := HW.out.topCell
   have q0 := HKO.out.cell 0 rfl
   have q1 := HKO.out.cell 1 rfl
   have f0 := HKO.out.frozen 0
   have f1 := HKO.out.frozen 1
   clear HR
   go_wp2
   have KF : Blk ((wr.setCell ⟨w.heap.size, 0, none⟩ (.int .i64 top)).setCell ⟨w.heap.size, 1, none⟩ (.slice (some ⟨w.heap.size + 1, 0, none⟩) 32 32)) w.heap.size 39 [.int .i64 top, .slice (some ⟨w.heap.size + 1, 0, none⟩) 32 32] := (HKO.out.set 0 _ (by simp [maxLen])).set 1 _ (by simp [maxLen])
   have BF : Below w.heap.size w ((wr.setCell ⟨w.heap.size, 0, none⟩ (.int .i64 top)).setCell ⟨w.heap.size, 1, none⟩ (.slice (some ⟨w.heap.size + 1, 0, none⟩) 32 32)) := (HBe.out.setCell (Nat.le_refl _) _).setCell (Nat.le_refl _) _
   have RG : IRow ((wr.setCell ⟨w.heap.size, 0, none⟩ (.int .i64 top)).setCell ⟨w.heap.size, 1, none⟩ (.slice (some ⟨w.heap.size + 1, 0, none⟩) 32 32)) (w.heap.size + 1) 32 l := (RF.out.keep (Below.heap_setCell _ _ _ _ (by show w.heap.size + 1 ≠ w.heap.size; omega))).keep (Below.heap_setCell _ _ _ _ (by show w.heap.size + 1 ≠ w.heap.size; omega))
   exact bodyPost_ret (v := wnV ⟨top, l⟩ ⟨⟨some ⟨w.heap.size + 1, 0, none⟩, 32, 32⟩⟩) (res1 rfl (is_cell rfl KF aggWn)) rfl ⟨⟨⟨some ⟨w.heap.size + 1, 0, none⟩, 32, 32⟩⟩, rfl, ⟨ISOwn.row RG HL.out.symm (by omega) RG.lt, ⟨⟩⟩, BF⟩
end Go.Proofs.YtmcflfpckpjphaaGreatDoor.WnL

namespace Go.Proofs.YtmcflfpckpjphaaGreatDoor.WnS
open Go.RowKit Mem MemI Blk Zone ZoneI WnZ WinP Bits WinB

set_option maxHeartbeats 400000 in
theorem l1In (x a b : Int) (w : World) :
  Calls Tryz.prog 90 #[.int .i64 x, .int .i64 a, .int .i64 b] w fun e w' => e = .returned (.bool (decide (a ≤ x ∧ x ≤ b))) ∧ w = w' := by
 by_cases h1 : a ≤ x
 ·
  by_cases h2 : x ≤ b
  ·
   rw [decide_eq_true ⟨h1, h2⟩]
   go_enter Tryz.func90, Tryz.ntmps90
   go_wp2
   go_ret
   exact ⟨rfl, rfl⟩
  ·
   rw [decide_eq_false (fun h => h2 h.2)]
   go_enter Tryz.func90, Tryz.ntmps90
   go_wp2
   go_ret
   exact ⟨rfl, rfl⟩
 ·
  rw [decide_eq_false (fun h => h1 h.1)]
  go_enter Tryz.func90, Tryz.ntmps90
  go_wp2
  go_ret
  exact ⟨rfl, rfl⟩
set_option maxHeartbeats 400000 in
theorem l8Least (t : Int) (w : World) (h0 : -1 ≤ t) (h1 : t ≤ 281474976710655) :
  Calls Tryz.prog 132 #[.int .i64 t] w fun e w' => e = .returned (.int .i64 (least t)) ∧ w = w' := by
 unfold least
 by_cases h : t < 1024
 ·
  rw [if_pos h]
  go_enter Tryz.func132, Tryz.ntmps132
  go_wp2
  go_ret
  exact ⟨rfl, rfl⟩
 ·
  rw [if_neg h]
  have e1 : IntKind.i64.wrap (t - 1024) = t - 1024 := by rw [IntKind.wrap_i64]; omega
  have e2 : IntKind.i64.wrap (t - 1024 + 1) = t - 1024 + 1 := by rw [IntKind.wrap_i64]; omega
  go_enter Tryz.func132, Tryz.ntmps132
  go_wp2
  go_ret
  exact ⟨by rfl, rfl⟩
set_option maxHeartbeats 800000 in
theorem l8Bit (D : WnD) (S : WnS) (z : Int) (w : World) (h : WnRd w S D) (hl : D.bits.length = 32) (hw : Words D.bits) (hz : 0 ≤ z) (hn : z ≤ 281474976710655) :
  Calls Tryz.prog 133 #[wnV D S, .int .i64 z] w fun e w' => e = .returned (.bool (bit D.bits z.toNat)) ∧ Below w.heap.size w w' := by
 obtain ⟨n, rfl⟩ := Int.eq_ofNat_of_zero_le hz
 rw [Int.toNat_natCast]
 obtain ⟨b, off, ha, hb, hc⟩ := h.bits.rd (n % 1024 / 32) (by omega)
 have hx := hw.at (n % 1024 / 32)
 have HB : Hid (bit D.bits n = (D.bits.getD (n % 1024 / 32) 0).toNat.testBit (n % 32)) := rfl
 rw [HB.out]
 have hlen := h.bits.len
 rw [hl] at hlen
 obtain ⟨top, bits⟩ := D
 obtain ⟨⟨sa, sn, sc⟩⟩ := S
 simp only at *
 subst ha
 subst hlen
 have b0 : Hid (Below w.heap.size w (w.alloc (.cells #[.int .i64 top, .slice (some ⟨b, off, none⟩) 32 sc] 39))) := (Below.refl _ _).alloc (Nat.le_refl _) _
 have hc' : (w.alloc (.cells #[.int .i64 top, .slice (some ⟨b, off, none⟩) 32 sc] 39)).cell? ⟨b, off + n % 1024 / 32, none⟩ = some (.int .i64 (bits.getD (n % 1024 / 32) 0)) := by
  rw [b0.out.cell hb]; exact hc
 generalize bits.getD (n % 1024 / 32) 0 = x at *
 obtain ⟨X, rfl⟩ := Int.eq_ofNat_of_zero_le hx.1
 clear hc h hl hw HB
 unfold wnV
 simp only [Int.toNat_natCast]
 obtain ⟨p, hp⟩ : ∃ p, n % 1024 / 32 = p := ⟨_, rfl⟩
 obtain ⟨k, hk⟩ : ∃ k, n % 32 = k := ⟨_, rfl⟩
 rw [hp] at hc'
 rw [hk]
 have hpl : p < 32 := by omega
 have hkl : k < 32 := by omega
 go_enter Tryz.func133, Tryz.ntmps133
 go_wp2
 go_ret
 exact ⟨by rw [tb_i64]; rfl, b0.out⟩

theorem boxed (w : World) (D : WnD) (S : WnS) : ∃ x0, w.alloc (.cells #[.int .i64 D.top, .slice S.bits.a S.bits.n S.bits.c] 39) = x0 ∧ Blk x0 w.heap.size 39 [.int .i64 D.top, .slice S.bits.a S.bits.n S.bits.c] ∧ Below w.heap.size w x0 ∧ x0.heap.size = w.heap.size + 1 :=
 ⟨_, rfl, Blk.new w _ _, (Below.refl _ _).alloc (Nat.le_refl _) _, by simp⟩
theorem based {w : World} {s : Sl} {l : List Int} (h : ISRd w s l) (hl : l.length = 32) : ∃ b off c, s = ⟨some ⟨b, off, none⟩, 32, c⟩ ∧ b < w.heap.size ∧ ∀ i : Nat, i < 32 → w.cell? ⟨b, off + i, none⟩ = some (.int .i64 (l.getD i 0)) := by
 obtain ⟨b, off, e, hb, _⟩ := h.rd 0 (by omega)
 obtain ⟨sa, sn, sc⟩ := s
 have hn := h.len
 simp only at e hn
 subst e
 refine ⟨b, off, sc, by rw [hn, hl], hb, fun i hi => ?_⟩
 obtain ⟨b', off', e', _, hc⟩ := h.rd i (by omega)
 simp only [Option.some.injEq, Addr.mk.injEq, and_true] at e'
 obtain ⟨rfl, rfl⟩ := e'
 exact hc
theorem words_take {l : List Int} {k : Nat} (h : ∀ i : Nat, i < k → 0 ≤ l.getD i 0 ∧ l.getD i 0 ≤ 4294967295) (hk : k = l.length) : Words l := by
 intro z hz
 obtain ⟨i, hi, rfl⟩ := List.getElem_of_mem hz
 have := h i (by omega)
 simpa [List.getD, hi] using this

set_option maxHeartbeats 4000000 in
theorem specWinOk (S : WnS) (D : WnD) (w : World) (h : WnRd w S D) :
  Calls Tryz.prog 91 #[wnV D S] w fun e w' => e = .returned (.bool (winOk D.top D.bits)) ∧ Below w.heap.size w w' := by
 have HR := hid (h)
 obtain ⟨v, hv⟩ : ∃ v, winOk D.top D.bits = v := ⟨_, rfl⟩
 have HV : Hid (winOk D.top D.bits = v) := hv
 obtain ⟨x0, hx0, k0, b0, _⟩ := boxed w D S
 have HW0 : Hid (_ = x0) := hx0
 have B0 := hid (b0)
 have KA := hid (k0)
 rw [hv]
 clear h hv hx0 k0 b0
 have hlen := HR.out.bits.len
 by_cases hl : D.bits.length = 32
 ·
  obtain ⟨b, off, c, rfl, hb, hce⟩ : ∃ b off c, S = ⟨⟨some ⟨b, off, none⟩, 32, c⟩⟩ ∧ b < w.heap.size ∧ ∀ i : Nat, i < 32 → w.cell? ⟨b, off + i, none⟩ = some (.int .i64 (D.bits.getD i 0)) := by
   obtain ⟨b, off, c, h1, h2, h3⟩ := based HR.out.bits hl
   exact ⟨b, off, c, by cases S; simp only at h1; rw [h1], h2, h3⟩
  have HCE : Hid (∀ i : Nat, i < 32 → w.cell? ⟨b, off + i, none⟩ = some (.int .i64 (D.bits.getD i 0))) := hce
  have HL : Hid (D.bits.length = 32) := hl
  clear hl hlen hce
  simp only at KA HW0
  have c0 := KA.out.cell 0 rfl
  have c1 := KA.out.cell 1 rfl
  by_cases ht : -1 ≤ D.top ∧ D.top ≤ 281474976710655
  ·
   have HT : Hid (-1 ≤ D.top ∧ D.top ≤ 281474976710655) := ht
   clear ht
   unfold wnV
   simp only
   go_enter Tryz.func91, Tryz.ntmps91
   go_upto_region 1 with fail
   rw [HW0.out]
   go_wp2_with fail
   refine (l1In D.top (-1) 281474976710655 x0).mono ?_
   rw [decide_eq_true HT.out]
   rintro e w2 ⟨rfl, rfl⟩
   go_wp2
   go_loop [3] (fun i => ∃ k : Nat, k ≤ 32 ∧ i = .int .i64 k ∧ Hid (∀ i : Nat, i < k → 0 ≤ D.bits.getD i 0 ∧ D.bits.getD i 0 ≤ 4294967295)) (fun i => 32 - (intOf i).toNat)
   case atStart => exact ⟨0, Nat.zero_le _, rfl, fun i hi => absurd hi (Nat.not_lt_zero _)⟩
   case round =>
    obtain ⟨k, hk, rfl, HK⟩ := hrel
    by_cases hlt : k < 32
    ·
     obtain ⟨x, hx⟩ : ∃ x, D.bits.getD k 0 = x := ⟨_, rfl⟩
     have HX : Hid (D.bits.getD k 0 = x) := hx
     have hc : x0.cell? ⟨b, off + k, none⟩ = some (.int .i64 x) := by rw [B0.out.cell hb, HCE.out k hlt, hx]
     clear hx
     go_wp2_with fail
     refine (l1In x 0 4294967295 x0).mono ?_
     by_cases hin : 0 ≤ x ∧ x ≤ 4294967295
     ·
      rw [decide_eq_true hin]
      rintro e w2 ⟨rfl, rfl⟩
      have HK2 : Hid (∀ i : Nat, i < k + 1 → 0 ≤ D.bits.getD i 0 ∧ D.bits.getD i 0 ≤ 4294967295) := by
       intro i hi
       by_cases hik : i = k
       ·
        rw [hik, HX.out]; exact hin
       ·
        exact HK.out i (by omega)
      clear hin hc
      go_wp2
      go_round
      case rel => exact ⟨k + 1, by omega, by go_num, HK2⟩
      case measure => simp [intOf]; omega
     ·
      rw [decide_eq_false hin]
      rintro e w2 ⟨rfl, rfl⟩
      have HF : Hid (v = false) := by
       show v = false
       rw [← HV.out]
       refine winOk_false fun hok => hin ?_
       have := hok.words.at k
       rwa [HX.out] at this
      clear hin hc
      go_wp2
      go_ret
      exact ⟨by rw [HF.out]; rfl, B0.out⟩
    ·
     have HWd : Hid (Words D.bits) := words_take HK.out (by have := HL.out; omega)
     clear HK HCE
     -- the top
     have HWT : Hid (IntKind.i64.wrap (D.top + 1) = D.top + 1) := by show _ = _; rw [IntKind.wrap_i64]; have := HT.out; omega
     -- the top
     have HWT : Hid (wrap64 (D.top + 1) = D.top + 1) := by show wrap64 _ = _; unfold wrap64; have := HT.out; omega
     -- the top
     have HWT : Hid (wrap64 (D.top + 1) = D.top + 1) := by show wrap64 _ = _; unfold wrap64; have := HT.out; omega
     -- the top
     have HWT : Hid (wrap64 (D.top + 1) = D.top + 1) := by show wrap64 _ = _; unfold wrap64; have := HT.out; omega
     -- the top
     have HWT : Hid (wrap64 (D.top + 1) = D.top + 1) := by show wrap64 _ = _; unfold wrap64; have := HT.out; omega
     -- the top
     have HWT : Hid (wrap64 (D.top + 1) = D.top + 1) := by show wrap64 _ = _; unfold wrap64; have := HT.out; omega
     by_cases h0 : 0 ≤ D.top
     ·
      have h0' : D.top ≥ 0 := h0
      go_wp2_with fail
      refine (l8Bit D ⟨⟨some ⟨b, off, none⟩, 32, c⟩⟩ D.top x0 (HR.out.later B0.out) HL.out HWd.out h0 HT.out.2).mono ?_
      cases hbit : bit D.bits D.top.toNat with
      | false =>
       have HF : Hid (v = false) := by
        show v = false
        rw [← HV.out]
        refine winOk_false fun hok => ?_
        have := hok.taken h0
        rw [hbit] at this
        cases this
       clear hbit
       rintro e w3 ⟨rfl, b3⟩
       have B3 := hid (B0.out.trans (b3.mono B0.out.size))
       clear b3
       go_wp2
       go_ret
       exact ⟨by rw [HF.out]; rfl, B3.out⟩
      | true =>
      have HBit : Hid (bit D.bits D.top.toNat = true) := hbit
      clear hbit
      rintro e x1 ⟨rfl, b3⟩
      have B1 := hid (B0.out.trans (b3.mono B0.out.size))
      have KA1 := hid (KA.out.later b3)
      clear b3 c0 c1 B0 KA
      have c0 := KA1.out.cell 0 rfl
      have c1 := KA1.out.cell 1 rfl
      go_wp2
      clear c0 c1
      go_loopw [4] (fun i wr => ∃ k : Int, -1 < k ∧ D.top < k ∧ (k ≤ 1024 ∨ k = D.top + 1) ∧ i = .int .i64 k ∧ Hid (∀ n : Nat, D.top < (n : Int) → (n : Int) < k → bit D.bits n = false) ∧ Blk wr w.heap.size 39 [.int .i64 D.top, .slice (some ⟨b, off, none⟩) 32 c] ∧ Below w.heap.size w wr)
       (fun i _ => (1024 - intOf i).toNat)
      case atStart => exact ⟨D.top + 1, by have := HT.out; omega, by omega, .inr rfl, by rw [HWT.out], fun n h1 h2 => by omega, KA1.out, B1.out⟩
      case round =>
       obtain ⟨k, hk0, hk1, hk2, rfl, HK, hka, hbe⟩ := hrel
       have KB := hid (hka)
       have BB := hid (hbe)
       have c0 := KB.out.cell 0 rfl
       have c1 := KB.out.cell 1 rfl
       clear hka hbe KA1 B1
       by_cases hlt : k < 1024
       ·
        go_wp2_with fail
        refine (l8Bit D ⟨⟨some ⟨b, off, none⟩, 32, c⟩⟩ k wr (HR.out.later BB.out) HL.out HWd.out (by omega) (by omega)).mono ?_
        cases hbit : bit D.bits k.toNat with
        | true =>
         have HF : Hid (v = false) := by
          show v = false
          rw [← HV.out]
          refine winOk_false fun hok => ?_
          have := hok.free k.toNat (by omega) (by omega)
          rw [hbit] at this
          cases this
         clear hbit
         rintro e w3 ⟨rfl, b3⟩
         have B3 := hid (BB.out.trans (b3.mono BB.out.size))
         clear b3
         go_wp2
         go_ret
         exact ⟨by rw [HF.out]; rfl, B3.out⟩
        | false =>
         have HK2 : Hid (∀ n : Nat, D.top < (n : Int) → (n : Int) < k + 1 → bit D.bits n = false) := by
          intro n h1 h2
          by_cases hnk : (n : Int) = k
          ·
           rw [show n = k.toNat by omega]; exact hbit
          ·
           exact HK.out n h1 (by omega)
         clear hbit
         rintro e w3 ⟨rfl, b3⟩
         have B3 := hid (BB.out.trans (b3.mono BB.out.size))
         have K3 := hid (KB.out.later b3)
         clear b3
         go_wp2
         go_roundw
         case rel => exact ⟨k + 1, by omega, by omega, by omega, rfl, HK2, K3.out, B3.out⟩
         case measure => simp [intOf]; omega
       ·
        have HF : Hid (v = true) := by
         show v = true
         rw [← HV.out]
         exact winOk_true ⟨HL.out, HT.out.1, HT.out.2, HWd.out, fun _ => HBit.out, fun n h1 h2 => HK.out n h1 (by omega)⟩
        go_wp2
        go_ret
        exact ⟨by rw [HF.out]; rfl, BB.out⟩
     ·
      have h0' : ¬ D.top ≥ 0 := h0
      have B1 := hid (B0.out)
      have KA1 := hid (KA.out)
      clear B0 KA
      go_wp2
      clear c0 c1
      go_loopw [4] (fun i wr => ∃ k : Int, -1 < k ∧ D.top < k ∧ (k ≤ 1024 ∨ k = D.top + 1) ∧ i = .int .i64 k ∧ Hid (∀ n : Nat, D.top < (n : Int) → (n : Int) < k → bit D.bits n = false) ∧ Blk wr w.heap.size 39 [.int .i64 D.top, .slice (some ⟨b, off, none⟩) 32 c] ∧ Below w.heap.size w wr)
       (fun i _ => (1024 - intOf i).toNat)
      case atStart => exact ⟨D.top + 1, by have := HT.out; omega, by omega, .inr rfl, by rw [HWT.out], fun n h1 h2 => by omega, KA1.out, B1.out⟩
      case round =>
       obtain ⟨k, hk0, hk1, hk2, rfl, HK, hka, hbe⟩ := hrel
       have KB := hid (hka)
       have BB := hid (hbe)
       have c0 := KB.out.cell 0 rfl
       have c1 := KB.out.cell 1 rfl
       clear hka hbe KA1 B1
       by_cases hlt : k < 1024
       ·
        go_wp2_with fail
        refine (l8Bit D ⟨⟨some ⟨b, off, none⟩, 32, c⟩⟩ k wr (HR.out.later BB.out) HL.out HWd.out (by omega) (by omega)).mono ?_
        cases hbit : bit D.bits k.toNat with
        | true =>
         have HF : Hid (v = false) := by
          show v = false
          rw [← HV.out]
          refine winOk_false fun hok => ?_
          have := hok.free k.toNat (by omega) (by omega)
          rw [hbit] at this
          cases this
         clear hbit
         rintro e w3 ⟨rfl, b3⟩
         have B3 := hid (BB.out.trans (b3.mono BB.out.size))
         clear b3
         go_wp2
         go_ret
         exact ⟨by rw [HF.out]; rfl, B3.out⟩
        | false =>
         have HK2 : Hid (∀ n : Nat, D.top < (n : Int) → (n : Int) < k + 1 → bit D.bits n = false) := by
          intro n h1 h2
          by_cases hnk : (n : Int) = k
          ·
           rw [show n = k.toNat by omega]; exact hbit
          ·
           exact HK.out n h1 (by omega)
         clear hbit
         rintro e w3 ⟨rfl, b3⟩
         have B3 := hid (BB.out.trans (b3.mono BB.out.size))
         have K3 := hid (KB.out.later b3)
         clear b3
         go_wp2
         go_roundw
         case rel => exact ⟨k + 1, by omega, by omega, by omega, rfl, HK2, K3.out, B3.out⟩
         case measure => simp [intOf]; omega
       ·
        have HF : Hid (v = true) := by
         show v = true
         rw [← HV.out]
         exact winOk_true ⟨HL.out, HT.out.1, HT.out.2, HWd.out, fun h => absurd h (by omega), fun n h1 h2 => HK.out n h1 (by omega)⟩
        go_wp2
        go_ret
        exact ⟨by rw [HF.out]; rfl, BB.out⟩
  ·
   have HF : Hid (v = false) := by
    show v = false
    rw [← HV.out]
    exact winOk_false fun hok => ht ⟨hok.lo, hok.hi⟩
   have hd : decide (-1 ≤ D.top ∧ D.top ≤ 281474976710655) = false := decide_eq_false ht
   clear ht
   unfold wnV
   simp only
   go_enter Tryz.func91, Tryz.ntmps91
   go_upto_region 1 with fail
   rw [HW0.out]
   go_wp2_with fail
   refine (l1In D.top (-1) 281474976710655 x0).mono ?_
   rw [hd]
   rintro e w2 ⟨rfl, rfl⟩
   clear hd
   go_wp2
   go_ret
   exact ⟨by rw [HF.out]; rfl, B0.out⟩
 ·
  have HF : Hid (v = false) := by
   show v = false
   rw [← HV.out]
   exact winOk_false fun hok => hl hok.len
  have hnI : ((S.bits.n : Int) != 32) = true := by
   have : ¬ (S.bits.n : Int) = 32 := by omega
   simpa using this
  have c0 := KA.out.cell 0 rfl
  have c1 := KA.out.cell 1 rfl
  clear hl hlen
  unfold wnV
  go_enter Tryz.func91, Tryz.ntmps91
  go_upto_region 1 with fail
  rw [HW0.out]
  go_wp2
  go_ret
  exact ⟨by rw [HF.out]; rfl, B0.out⟩

theorem least_iff {t n : Int} (h0 : 0 ≤ n) : least t ≤ n ↔ t - 1024 < n := by unfold least; split <;> omega

theorem may_no {top : Int} {l : List Int} {n : Int} (h : ¬ (0 ≤ n ∧ n ≤ 281474976710655 ∧ top - 1024 < n)) : may top l n = false := by unfold may; rw [decide_eq_false h, Bool.false_and]
theorem may_up {top : Int} {l : List Int} {n : Int} (h : 0 ≤ n ∧ n ≤ 281474976710655) (k : top < n) : may top l n = true := by unfold may; rw [decide_eq_true ⟨h.1, h.2, by omega⟩, decide_eq_true k]; rfl
theorem may_old {top : Int} {l : List Int} {n : Int} (h : 0 ≤ n ∧ n ≤ 281474976710655 ∧ top - 1024 < n) (k : ¬ top < n) : may top l n = !bit l n.toNat := by unfold may; rw [decide_eq_true h, decide_eq_false k]; simp

set_option maxHeartbeats 4000000 in
theorem specWinMay (S : WnS) (D : WnD) (n : Int) (w : World) (h : WnRd w S D) :
  Calls Tryz.prog 88 #[wnV D S, .int .i64 n] w fun e w' => e = .returned (.bool (winMay D.top D.bits n)) ∧ Below w.heap.size w w' := by
 have HR := hid (h)
 obtain ⟨v, hv⟩ : ∃ v, winMay D.top D.bits n = v := ⟨_, rfl⟩
 have HV : Hid (winMay D.top D.bits n = v) := hv
 obtain ⟨x0, hx0, k0, b0, _⟩ := boxed w D S
 have HW0 : Hid (_ = x0) := hx0
 have B0 := hid (b0)
 have KA := hid (k0)
 rw [hv]
 clear h hv hx0 k0 b0
 have c0 := KA.out.cell 0 rfl
 have c1 := KA.out.cell 1 rfl
 unfold wnV
 go_enter Tryz.func88, Tryz.ntmps88
 go_upto_region 1 with fail
 rw [HW0.out]
 go_wp2_with fail
 refine (specWinOk S D x0 (HR.out.later B0.out)).mono ?_
 cases hok : winOk D.top D.bits with
 | false =>
  have HF : Hid (v = false) := by show v = false; rw [← HV.out]; unfold winMay; rw [hok]; rfl
  clear hok
  rintro e x1 ⟨rfl, b1⟩
  have B1 := hid (B0.out.trans (b1.mono B0.out.size))
  clear b1
  go_wp2
  go_ret
  exact ⟨by rw [HF.out]; rfl, B1.out⟩
 | true =>
  have HV2 : Hid (may D.top D.bits n = v) := by show _ = v; rw [← HV.out]; unfold winMay; rw [hok]; rfl
  have HOK : Hid (WOk D.top D.bits) := winOk_iff.1 hok
  clear hok HV
  rintro e x1 ⟨rfl, b1⟩
  have B1 := hid (B0.out.trans (b1.mono B0.out.size))
  have K1 := hid (KA.out.later b1)
  clear b1 c0 c1 B0 KA HW0
  have c0 := K1.out.cell 0 rfl
  have c1 := K1.out.cell 1 rfl
  go_wp2_with fail
  refine (l1In n 0 281474976710655 x1).mono ?_
  by_cases hn : 0 ≤ n ∧ n ≤ 281474976710655
  ·
   rw [decide_eq_true hn]
   rintro e x2 ⟨rfl, rfl⟩
   have HN : Hid (0 ≤ n ∧ n ≤ 281474976710655) := hn
   clear hn
   by_cases h1 : n > D.top
   ·
    have HF : Hid (v = true) := by show v = true; rw [← HV2.out]; exact may_up HN.out h1
    go_wp2
    go_ret
    exact ⟨by rw [HF.out]; rfl, B1.out⟩
   ·
    go_wp2_with fail
    refine (l8Least D.top x1 HOK.out.lo HOK.out.hi).mono ?_
    have HLI : Hid (least D.top ≤ n ↔ D.top - 1024 < n) := least_iff HN.out.1
    generalize least D.top = q at *
    rintro e x2 ⟨rfl, rfl⟩
    by_cases h3 : n ≥ q
    ·
     have HB : Hid ((!bit D.bits n.toNat) = v) := by show _ = v; rw [← HV2.out, may_old ⟨HN.out.1, HN.out.2, HLI.out.1 h3⟩ (by omega)]
     go_wp2_with fail
     refine (l8Bit D S n x1 (HR.out.later B1.out) HOK.out.len HOK.out.words HN.out.1 HN.out.2).mono ?_
     generalize bit D.bits n.toNat = u at *
     rintro e x2 ⟨rfl, b2⟩
     have B2 := hid (B1.out.trans (b2.mono B1.out.size))
     clear b2 c0 c1 h3
     go_wp2
     go_ret
     exact ⟨by rw [← HB.out]; simp; intro hh; omega, B2.out⟩
    ·
     have HF : Hid (v = false) := by show v = false; rw [← HV2.out]; exact may_no (fun h => h3 (HLI.out.2 h.2.2))
     go_wp2
     go_ret
     exact ⟨by rw [HF.out]; simp; omega, B1.out⟩
  ·
   have HF : Hid (v = false) := by show v = false; rw [← HV2.out]; exact may_no (fun h => hn ⟨h.1, h.2.1⟩)
   rw [decide_eq_false hn]
   rintro e x2 ⟨rfl, rfl⟩
   clear hn
   go_wp2
   go_ret
   exact ⟨by rw [HF.out]; rfl, B1.out⟩
end Go.Proofs.YtmcflfpckpjphaaGreatDoor.WnS

namespace Go.Proofs.YtmcflfpckpjphaaGreatDoor.WnM
open Go.RowKit Mem MemI Blk Zone ZoneI WnZ Res Each Copy Ops WinP WinB Bits WnI WnJ WnL WnS

def Read1 (D : WnD) (w : World) (e : Ending) (w' : World) : Prop :=
 ((winOk D.top D.bits = true ∧ ∃ g, e = .returned (.tuple #[.pointer (some ⟨g, 0, none⟩), .bool true]) ∧ w.heap.size ≤ g ∧ Wnd w' g D.top D.bits) ∨ (winOk D.top D.bits = false ∧ e = .returned (.tuple #[.pointer none, .bool false]))) ∧ Below w.heap.size w w'
theorem read_no {D : WnD} {w w' : World} (h : winOk D.top D.bits = false) (b : Below w.heap.size w w') : Read1 D w (.returned (.tuple #[.pointer none, .bool false])) w' := ⟨.inr ⟨h, rfl⟩, b⟩
theorem read_yes {D : WnD} {w w' : World} {g : Nat} (h : winOk D.top D.bits = true) (hg : w.heap.size ≤ g) (k : Wnd w' g D.top D.bits) (b : Below w.heap.size w w') : Read1 D w (.returned (.tuple #[.pointer (some ⟨g, 0, none⟩), .bool true])) w' := ⟨.inl ⟨h, g, rfl, hg, k⟩, b⟩
abbrev DL3 : List Nat := [28, 29, 30, 31, 32, 33, 34, 35, 36, 37, 38]
set_option maxHeartbeats 8000000 in
theorem windowOf (S : WnS) (D : WnD) (w : World) (h : WnRd w S D) : Calls Tryz.prog 85 #[wnV D S] w (Read1 D w) := by
 have HR := hid (h)
 obtain ⟨x0, hx0, k0, b0, hs0⟩ := boxed w D S
 have HW0 : Hid (_ = x0) := hx0
 have HSZ : Hid (x0.heap.size = w.heap.size + 1) := hs0
 have B0 := hid (b0)
 have KA := hid (k0)
 clear h hx0 k0 b0 hs0
 have hlen := HR.out.bits.len
 have c0 := KA.out.cell 0 rfl
 have c1 := KA.out.cell 1 rfl
 unfold wnV
 by_cases hl : D.bits.length = 32
 ·
  obtain ⟨b, off, c, rfl, hb, hce⟩ : ∃ b off c, S = ⟨⟨some ⟨b, off, none⟩, 32, c⟩⟩ ∧ b < w.heap.size ∧ ∀ i : Nat, i < 32 → w.cell? ⟨b, off + i, none⟩ = some (.int .i64 (D.bits.getD i 0)) := by
   obtain ⟨b, off, c, h1, h2, h3⟩ := based HR.out.bits hl
   exact ⟨b, off, c, by cases S; simp only at h1; rw [h1], h2, h3⟩
  have HCE : Hid (∀ i : Nat, i < 32 → w.cell? ⟨b, off + i, none⟩ = some (.int .i64 (D.bits.getD i 0))) := hce
  have HL : Hid (D.bits.length = 32) := hl
  clear hl hlen hce
  simp only at KA HW0 c0 c1 ⊢
  by_cases h1 : D.top = -1
  ·
   have HLo : Hid (-1 ≤ D.top ∧ D.top ≤ 281474976710655) := by show _ ∧ _; omega
   have hb1 : (D.top != -1) = false := by rw [h1]; rfl
   clear h1
   go_enter Tryz.func85, Tryz.ntmps85
   go_upto_region 1 with fail
   rw [HW0.out]
   go_upto_region 3 with fail
   have HB0 : Hid (b < w.heap.size) := hb
   clear c0 c1 hb
   try clear hb1
   have c0 := KA.out.cell 0 rfl
   obtain ⟨x1, hx1⟩ : ∃ x1, x0.alloc (.cells (.int .i64 D.top :: zeros.map (Value.int .u32)).toArray 152) = x1 := ⟨_, rfl⟩
   have HX1 := hid (hx1)
   have W1 : Hid (Wnd x1 (w.heap.size + 1) D.top zeros) := ⟨rfl, new_ok.words, by rw [← HSZ.out, ← hx1]; exact Blk.new x0 _ _⟩
   have B1 : Hid (Below w.heap.size w x1) := by rw [← hx1]; exact B0.out.alloc B0.out.size _
   have KA1 : Hid (Blk x1 w.heap.size 39 [.int .i64 D.top, .slice (some ⟨b, off, none⟩) 32 c]) := by rw [← hx1]; exact KA.out.alloc _
   clear hx1
   go_upto_region 4 with fail
   rw [show ∀ (t : Int), (#[.int .i64 t, .int .u32 0, .int .u32 0, .int .u32 0, .int .u32 0, .int .u32 0, .int .u32 0, .int .u32 0, .int .u32 0, .int .u32 0, .int .u32 0, .int .u32 0, .int .u32 0, .int .u32 0, .int .u32 0, .int .u32 0, .int .u32 0, .int .u32 0, .int .u32 0, .int .u32 0, .int .u32 0, .int .u32 0, .int .u32 0, .int .u32 0, .int .u32 0, .int .u32 0, .int .u32 0, .int .u32 0, .int .u32 0, .int .u32 0, .int .u32 0, .int .u32 0, .int .u32 0] : Array Value) = (.int .i64 t :: zeros.map (Value.int .u32)).toArray from fun _ => rfl, HX1.out, HSZ.out]
   clear c0 B0 KA HX1 HW0
   go_wp2
   go_loopw [25] (fun i wr => ∃ k : Nat, k ≤ 32 ∧ i = .int .i64 k ∧ Hid (∀ i : Nat, i < k → 0 ≤ D.bits.getD i 0 ∧ D.bits.getD i 0 ≤ 4294967295) ∧ Wnd wr (w.heap.size + 1) D.top (D.bits.take k ++ List.replicate (32 - k) 0) ∧ Blk wr w.heap.size 39 [.int .i64 D.top, .slice (some ⟨b, off, none⟩) 32 c] ∧ Below w.heap.size w wr) (fun i _ => 32 - (intOf i).toNat)
   case atStart => exact ⟨0, Nat.zero_le _, rfl, (fun i hi => absurd hi (Nat.not_lt_zero _)), W1.out, KA1.out, B1.out⟩
   case round =>
    obtain ⟨k, hk, rfl, HK, hw, hka, hbe⟩ := hrel
    have HW : Hid (Wnd wr (w.heap.size + 1) D.top (D.bits.take k ++ List.replicate (32 - k) 0)) := hw
    have HKA := hid (hka)
    have HBe := hid (hbe)
    clear hw hka hbe W1 B1 KA1
    by_cases hlt : k < 32
    ·
     have hltI : (k : Int) < 32 := by omega
     obtain ⟨x, hx⟩ : ∃ x, D.bits.getD k 0 = x := ⟨_, rfl⟩
     have HXD : Hid (D.bits.getD k 0 = x) := hx
     have HX : Hid (w.cell? ⟨b, off + k, none⟩ = some (.int .i64 x)) := by show _ = _; rw [HCE.out k hlt, hx]
     obtain ⟨y, hy⟩ : ∃ y, IntKind.u32.wrap x = y := ⟨_, rfl⟩
     have HYE : Hid (y = x % 4294967296) := by show _ = _; rw [← hy, wrap_u32]
     have HYb : Hid (0 ≤ y ∧ y ≤ 4294967295) := by have := HYE.out; show _ ∧ _; omega
     have hb0 : b < w.heap.size := HB0.out
     clear hx
     go_upto_region 7 with fail
     go_cut [38] from 28 to 37 (fun s38 wx => Wnd wx (w.heap.size + 1) D.top ((D.bits.take k ++ List.replicate (32 - k) 0).set k y) ∧ Blk wx w.heap.size 39 [.int .i64 D.top, .slice (some ⟨b, off, none⟩) 32 c] ∧ Below w.heap.size w wx)
     case first =>
      rename_i J K' hRJ hMet
      generalize hA : Act.mk _ _ = A
      have a1' : A.eval (.tmp 1) = .pointer (some ⟨w.heap.size, 0, none⟩) := by rw [← hA]; rfl
      have a4' : A.eval (.tmp 4) = .pointer (some ⟨w.heap.size + 1, 0, none⟩) := by rw [← hA]; rfl
      have a5' : A.eval (.tmp 5) = .int .i64 (k : Int) := by rw [← hA]; rfl
      have asz : A.tmps.size = 57 := by rw [← hA]; rfl
      have hW : ∀ wx, Below wr.heap.size wr wx → Wnd wx (w.heap.size + 1) D.top (D.bits.take k ++ List.replicate (32 - k) 0) := fun wx hb => HW.out.later hb
      have hBk : ∀ wx, Below wr.heap.size wr wx → Blk wx w.heap.size 39 [.int .i64 D.top, .slice (some ⟨b, off, none⟩) 32 c] := fun wx hb => HKA.out.later hb
      have hX : ∀ wx, Below wr.heap.size wr wx → wx.cell? ⟨b, off + k, none⟩ = some (.int .i64 x) := fun wx hb => by rw [(HBe.out.trans (hb.mono HBe.out.size)).cell hb0]; exact HX.out
      refine region_each (by kernel_rfl) DL3 11 (fun i => DL3.getD i 0) (fun _ => 0)
       (fun i gB v wx => match i with
        | 0 => v = .pointer (some ⟨w.heap.size + 1, 0, none⟩)
        | 1 => v = .int .i64 (k : Int)
        | 2 => v = .pointer (some ⟨w.heap.size, 1, none⟩)
        | 3 => v = .slice (some ⟨b, off, none⟩) 32 c
        | 4 => v = .int .i64 (k : Int)
        | 5 => v = .pointer (some ⟨b, off + k, none⟩)
        | 6 => v = .int .i64 x
        | 7 => v = .int .u32 y
        | 8 => v = .pointer (some ⟨w.heap.size + 1, 0, none⟩)
        | 9 => v = .pointer (some ⟨w.heap.size + 1, 1, none⟩)
        | 10 => v = .pointer (some ⟨w.heap.size + 1, 1 + k, none⟩)
        | _ => False) (fun wx => Below wr.heap.size wr wx) (by kernel_rfl) (Below.refl _ _).drew ?_ ?_ ?_
      ·
       intro i gB v wx wy hi hF hb _
       match i, hi with
       | 0, _ => exact hF
       | 1, _ => exact hF
       | 2, _ => exact hF
       | 3, _ => exact hF
       | 4, _ => exact hF
       | 5, _ => exact hF
       | 6, _ => exact hF
       | 7, _ => exact hF
       | 8, _ => exact hF
       | 9, _ => exact hF
       | 10, _ => exact hF
      ·
       intro i hi t ρ wx hB hp hd
       match i, hi with
       | 0, _ =>
        have e4 : (fr DL3 A t).eval (.tmp 4) = .pointer (some ⟨w.heap.size + 1, 0, none⟩) := (fr_eval_old _ _ _ 4 rfl).trans a4'
        refine op_run (v := .pointer (some ⟨w.heap.size + 1, 0, none⟩)) (w' := wx) rfl rfl ?_ ?_
        ·
         clear hp hd; have ec : ∀ v, (fr DL3 A t).eval (.const v) = v := fun _ => rfl; generalize (fr DL3 A t).eval = ev at ec e4 ⊢; go_simp
        ·
         exact ⟨_, 0, rfl, hB, Below.refl _ _, rfl, .inl rfl⟩
       | 1, _ =>
        have e5 : (fr DL3 A t).eval (.tmp 5) = .int .i64 (k : Int) := (fr_eval_old _ _ _ 5 rfl).trans a5'
        refine op_run (v := .int .i64 (k : Int)) (w' := wx) rfl rfl ?_ ?_
        ·
         clear hp hd; have ec : ∀ v, (fr DL3 A t).eval (.const v) = v := fun _ => rfl; generalize (fr DL3 A t).eval = ev at ec e5 ⊢; go_simp
        ·
         exact ⟨_, 0, rfl, hB, Below.refl _ _, rfl, .inl rfl⟩
       | 2, _ =>
        have e1 : (fr DL3 A t).eval (.tmp 1) = .pointer (some ⟨w.heap.size, 0, none⟩) := (fr_eval_old _ _ _ 1 rfl).trans a1'
        refine op_run (v := .pointer (some ⟨w.heap.size, 1, none⟩)) (w' := wx) rfl rfl ?_ ?_
        ·
         clear hp hd; have ec : ∀ v, (fr DL3 A t).eval (.const v) = v := fun _ => rfl; generalize (fr DL3 A t).eval = ev at ec e1 ⊢; go_simp
        ·
         exact ⟨_, 0, rfl, hB, Below.refl _ _, rfl, .inl rfl⟩
       | 3, _ =>
        have e30 : (fr DL3 A t).eval (.tmp 30) = .pointer (some ⟨w.heap.size, 1, none⟩) := (fr_eval _ _ _ 30 rfl (by rw [asz]; decide)).trans (hp 2 (pre_mem (by kernel_rfl)))
        have hc := (hBk wx hB).cell 1 rfl
        refine op_run (v := .slice (some ⟨b, off, none⟩) 32 c) (w' := wx) rfl rfl ?_ ?_
        ·
         clear hp hd; have ec : ∀ v, (fr DL3 A t).eval (.const v) = v := fun _ => rfl; generalize (fr DL3 A t).eval = ev at ec e30 ⊢; go_simp
        ·
         exact ⟨_, 0, rfl, hB, Below.refl _ _, rfl, .inl rfl⟩
       | 4, _ =>
        have e5 : (fr DL3 A t).eval (.tmp 5) = .int .i64 (k : Int) := (fr_eval_old _ _ _ 5 rfl).trans a5'
        refine op_run (v := .int .i64 (k : Int)) (w' := wx) rfl rfl ?_ ?_
        ·
         clear hp hd; have ec : ∀ v, (fr DL3 A t).eval (.const v) = v := fun _ => rfl; generalize (fr DL3 A t).eval = ev at ec e5 ⊢; go_simp
        ·
         exact ⟨_, 0, rfl, hB, Below.refl _ _, rfl, .inl rfl⟩
       | 5, _ =>
        have e31 : (fr DL3 A t).eval (.tmp 31) = .slice (some ⟨b, off, none⟩) 32 c := (fr_eval _ _ _ 31 rfl (by rw [asz]; decide)).trans (hp 3 (pre_mem (by kernel_rfl)))
        have e32 : (fr DL3 A t).eval (.tmp 32) = .int .i64 (k : Int) := (fr_eval _ _ _ 32 rfl (by rw [asz]; decide)).trans (hp 4 (pre_mem (by kernel_rfl)))
        refine op_run (v := .pointer (some ⟨b, off + k, none⟩)) (w' := wx) rfl rfl ?_ ?_
        ·
         clear hp hd; have ec : ∀ v, (fr DL3 A t).eval (.const v) = v := fun _ => rfl; generalize (fr DL3 A t).eval = ev at ec e31 e32 ⊢; go_simp
        ·
         exact ⟨_, 0, rfl, hB, Below.refl _ _, rfl, .inl rfl⟩
       | 6, _ =>
        have e33 : (fr DL3 A t).eval (.tmp 33) = .pointer (some ⟨b, off + k, none⟩) := (fr_eval _ _ _ 33 rfl (by rw [asz]; decide)).trans (hp 5 (pre_mem (by kernel_rfl)))
        have hc := hX wx hB
        refine op_run (v := .int .i64 x) (w' := wx) rfl rfl ?_ ?_
        ·
         clear hp hd; have ec : ∀ v, (fr DL3 A t).eval (.const v) = v := fun _ => rfl; generalize (fr DL3 A t).eval = ev at ec e33 ⊢; go_simp
        ·
         exact ⟨_, 0, rfl, hB, Below.refl _ _, rfl, .inl rfl⟩
       | 7, _ =>
        have e34 : (fr DL3 A t).eval (.tmp 34) = .int .i64 x := (fr_eval _ _ _ 34 rfl (by rw [asz]; decide)).trans (hp 6 (pre_mem (by kernel_rfl)))
        refine op_run (v := .int .u32 y) (w' := wx) rfl rfl ?_ ?_
        ·
         clear hp hd; have ec : ∀ v, (fr DL3 A t).eval (.const v) = v := fun _ => rfl; generalize (fr DL3 A t).eval = ev at ec e34 ⊢; go_simp
        ·
         exact ⟨_, 0, rfl, hB, Below.refl _ _, rfl, .inl rfl⟩
       | 8, _ =>
        have e28 : (fr DL3 A t).eval (.tmp 28) = .pointer (some ⟨w.heap.size + 1, 0, none⟩) := (fr_eval _ _ _ 28 rfl (by rw [asz]; decide)).trans (hp 0 (pre_mem (by kernel_rfl)))
        refine op_run (v := .pointer (some ⟨w.heap.size + 1, 0, none⟩)) (w' := wx) rfl rfl ?_ ?_
        ·
         clear hp hd; have ec : ∀ v, (fr DL3 A t).eval (.const v) = v := fun _ => rfl; generalize (fr DL3 A t).eval = ev at ec e28 ⊢; go_simp
        ·
         exact ⟨_, 0, rfl, hB, Below.refl _ _, rfl, .inl rfl⟩
       | 9, _ =>
        have e36 : (fr DL3 A t).eval (.tmp 36) = .pointer (some ⟨w.heap.size + 1, 0, none⟩) := (fr_eval _ _ _ 36 rfl (by rw [asz]; decide)).trans (hp 8 (pre_mem (by kernel_rfl)))
        refine op_run (v := .pointer (some ⟨w.heap.size + 1, 1, none⟩)) (w' := wx) rfl rfl ?_ ?_
        ·
         clear hp hd; have ec : ∀ v, (fr DL3 A t).eval (.const v) = v := fun _ => rfl; generalize (fr DL3 A t).eval = ev at ec e36 ⊢; go_simp
        ·
         exact ⟨_, 0, rfl, hB, Below.refl _ _, rfl, .inl rfl⟩
       | 10, _ =>
        have e37 : (fr DL3 A t).eval (.tmp 37) = .pointer (some ⟨w.heap.size + 1, 1, none⟩) := (fr_eval _ _ _ 37 rfl (by rw [asz]; decide)).trans (hp 9 (pre_mem (by kernel_rfl)))
        have e29 : (fr DL3 A t).eval (.tmp 29) = .int .i64 (k : Int) := (fr_eval _ _ _ 29 rfl (by rw [asz]; decide)).trans (hp 1 (pre_mem (by kernel_rfl)))
        refine op_run (v := .pointer (some ⟨w.heap.size + 1, 1 + k, none⟩)) (w' := wx) rfl rfl ?_ ?_
        ·
         clear hp hd; have ec : ∀ v, (fr DL3 A t).eval (.const v) = v := fun _ => rfl; generalize (fr DL3 A t).eval = ev at ec e37 e29 ⊢; go_simp
        ·
         exact ⟨_, 0, rfl, hB, Below.refl _ _, rfl, .inl rfl⟩
      ·
       intro t ρ wx hB hF hne
       have e38 : (fr DL3 A t).eval (.tmp 38) = .pointer (some ⟨w.heap.size + 1, 1 + k, none⟩) := (fr_eval _ _ _ 38 rfl (by rw [asz]; decide)).trans (hF 10 (by decide))
       have e35 : (fr DL3 A t).eval (.tmp 35) = .int .u32 y := (fr_eval _ _ _ 35 rfl (by rw [asz]; decide)).trans (hF 7 (by decide))
       clear hne
       have q0 : ∃ v, wx.cell? ⟨w.heap.size + 1, 1 + k, none⟩ = some v := ⟨_, (hW wx hB).word k hlt⟩
       obtain ⟨v0, q0⟩ := q0
       have f0 := (hW wx hB).froz (1 + k)
       have kW : Hid (Wnd wx (w.heap.size + 1) D.top (D.bits.take k ++ List.replicate (32 - k) 0)) := hW wx hB
       have kA : Hid (Blk wx w.heap.size 39 [.int .i64 D.top, .slice (some ⟨b, off, none⟩) 32 c]) := hBk wx hB
       refine op_wp rfl rfl ?_
       clear hF hW hBk hX
       generalize hE : (fr DL3 A t).eval = ev at e38 e35
       unfold Oper.wp
       rw [hE]
       go_simp
       refine hMet _ _ (Met.intro (hRJ _ _ ⟨t 28, t 29, t 30, t 31, t 32, t 33, t 34, t 35, t 36, t 37, t 38, ⟨kW.out.setWord k _ HYb.out, kA.out.other (by show w.heap.size ≠ w.heap.size + 1; omega) _, (HBe.out.trans (hB.mono HBe.out.size)).setCell (by show w.heap.size ≤ w.heap.size + 1; omega) _⟩, ?_⟩))
       rw [← hA]; rfl
     case rest =>
      clear hy
      obtain ⟨hw, hka, hbe⟩ := hcut
      have HW2 : Hid (Wnd wc (w.heap.size + 1) D.top ((D.bits.take k ++ List.replicate (32 - k) 0).set k y)) := hw
      have HK2 := hid (hka)
      have HB2 := hid (hbe)
      have c2 : wc.cell? ⟨w.heap.size + 1, 1 + k, none⟩ = some (.int .u32 y) := by
       rw [hw.word k hlt]
       simp [List.getD, mid_length D.bits k HL.out hk, hlt]
      have c3 := hka.cell 1 rfl
      have c4 : wc.cell? ⟨b, off + k, none⟩ = some (.int .i64 x) := by rw [hbe.cell hb0]; exact HX.out
      clear hw hka hbe HW HKA HBe
      have hwy : wrap64 y = y := by have := HYb.out; unfold wrap64; omega
      by_cases hin : 0 ≤ x ∧ x ≤ 4294967295
      ·
       have hne : (y != x) = false := by rw [bne_eq_false_iff_eq]; have := HYE.out; omega
       have HKK : Hid (∀ i : Nat, i < k + 1 → 0 ≤ D.bits.getD i 0 ∧ D.bits.getD i 0 ≤ 4294967295) := by
        intro i hi
        by_cases hik : i = k
        ·
         rw [hik, HXD.out]; exact hin
        ·
         exact HK.out i (by omega)
       have HW3 : Hid (Wnd wc (w.heap.size + 1) D.top (D.bits.take (k + 1) ++ List.replicate (32 - (k + 1)) 0)) := by
        have := HW2.out
        rw [show y = D.bits.getD k 0 by rw [HXD.out]; have := HYE.out; omega, mid_set D.bits k HL.out hlt] at this
        exact this
       clear hin HW2
       go_wp2
       go_quiet (fail)
       go_wp2
       go_roundw
       case rel => exact ⟨k + 1, by omega, by go_num, HKK, HW3.out, HK2.out, below_drewN HB2.out _⟩
       case measure => simp [intOf]; omega
      ·
       have hne : (y != x) = true := by rw [bne_iff_ne]; have := HYE.out; omega
       have HN : Hid (winOk D.top D.bits = false) := winOk_false fun hok => hin (by have := hok.words.at k; rwa [HXD.out] at this)
       clear hin HW2
       go_wp2
       go_quiet (fail)
       go_wp2
       go_ret2
       exact read_no HN.out (below_drewN HB2.out _)
    ·
     obtain rfl : k = 32 := by omega
     have HWd : Hid (Words D.bits) := words_take HK.out HL.out.symm
     have HW2 : Hid (Wnd wr (w.heap.size + 1) D.top D.bits) := by
      have := HW.out
      rw [mid_end D.bits HL.out] at this
      exact this
     have HOR : Hid (winRight D.top D.bits = winOk D.top D.bits) := ok_right HL.out HLo.out.1 HLo.out.2 HWd.out
     clear HW HK
     go_wp2_with fail
     refine (right (w.heap.size + 1) D.top D.bits wr HW2.out HLo.out.1 HLo.out.2).mono ?_
     rw [HOR.out]
     rintro e w3 ⟨rfl, b3⟩
     have B3 := hid (HBe.out.trans (b3.mono HBe.out.size))
     have W3 := hid (HW2.out.later b3)
     clear b3
     cases hok : winOk D.top D.bits with
     | false =>
      have HN : Hid (winOk D.top D.bits = false) := hok
      clear hok
      go_wp2
      go_ret2
      exact read_no HN.out B3.out
     | true =>
      have HN : Hid (winOk D.top D.bits = true) := hok
      clear hok
      go_wp2
      go_ret2
      exact read_yes HN.out (Nat.le_succ _) W3.out B3.out
  ·
   have hb1 : (D.top != -1) = true := by simpa using h1
   go_enter Tryz.func85, Tryz.ntmps85
   go_upto_region 1 with fail
   rw [HW0.out]
   go_wp2_with fail
   refine (isSeq D.top x0).mono ?_
   by_cases h2 : 0 ≤ D.top ∧ D.top ≤ 281474976710655
   ·
    rw [decide_eq_true h2]
    have HLo : Hid (-1 ≤ D.top ∧ D.top ≤ 281474976710655) := by show _ ∧ _; omega
    rintro e x1 ⟨rfl, rfl⟩
    clear h1 h2
    go_upto_region 3 with fail
    have HB0 : Hid (b < w.heap.size) := hb
    clear c0 c1 hb
    try clear hb1
    have c0 := KA.out.cell 0 rfl
    obtain ⟨x1, hx1⟩ : ∃ x1, x0.alloc (.cells (.int .i64 D.top :: zeros.map (Value.int .u32)).toArray 152) = x1 := ⟨_, rfl⟩
    have HX1 := hid (hx1)
    have W1 : Hid (Wnd x1 (w.heap.size + 1) D.top zeros) := ⟨rfl, new_ok.words, by rw [← HSZ.out, ← hx1]; exact Blk.new x0 _ _⟩
    have B1 : Hid (Below w.heap.size w x1) := by rw [← hx1]; exact B0.out.alloc B0.out.size _
    have KA1 : Hid (Blk x1 w.heap.size 39 [.int .i64 D.top, .slice (some ⟨b, off, none⟩) 32 c]) := by rw [← hx1]; exact KA.out.alloc _
    clear hx1
    go_upto_region 4 with fail
    rw [show ∀ (t : Int), (#[.int .i64 t, .int .u32 0, .int .u32 0, .int .u32 0, .int .u32 0, .int .u32 0, .int .u32 0, .int .u32 0, .int .u32 0, .int .u32 0, .int .u32 0, .int .u32 0, .int .u32 0, .int .u32 0, .int .u32 0, .int .u32 0, .int .u32 0, .int .u32 0, .int .u32 0, .int .u32 0, .int .u32 0, .int .u32 0, .int .u32 0, .int .u32 0, .int .u32 0, .int .u32 0, .int .u32 0, .int .u32 0, .int .u32 0, .int .u32 0, .int .u32 0, .int .u32 0, .int .u32 0] : Array Value) = (.int .i64 t :: zeros.map (Value.int .u32)).toArray from fun _ => rfl, HX1.out, HSZ.out]
    clear c0 B0 KA HX1 HW0
    go_wp2
    go_loopw [25] (fun i wr => ∃ k : Nat, k ≤ 32 ∧ i = .int .i64 k ∧ Hid (∀ i : Nat, i < k → 0 ≤ D.bits.getD i 0 ∧ D.bits.getD i 0 ≤ 4294967295) ∧ Wnd wr (w.heap.size + 1) D.top (D.bits.take k ++ List.replicate (32 - k) 0) ∧ Blk wr w.heap.size 39 [.int .i64 D.top, .slice (some ⟨b, off, none⟩) 32 c] ∧ Below w.heap.size w wr) (fun i _ => 32 - (intOf i).toNat)
    case atStart => exact ⟨0, Nat.zero_le _, rfl, (fun i hi => absurd hi (Nat.not_lt_zero _)), W1.out, KA1.out, B1.out⟩
    case round =>
     obtain ⟨k, hk, rfl, HK, hw, hka, hbe⟩ := hrel
     have HW : Hid (Wnd wr (w.heap.size + 1) D.top (D.bits.take k ++ List.replicate (32 - k) 0)) := hw
     have HKA := hid (hka)
     have HBe := hid (hbe)
     clear hw hka hbe W1 B1 KA1
     by_cases hlt : k < 32
     ·
      have hltI : (k : Int) < 32 := by omega
      obtain ⟨x, hx⟩ : ∃ x, D.bits.getD k 0 = x := ⟨_, rfl⟩
      have HXD : Hid (D.bits.getD k 0 = x) := hx
      have HX : Hid (w.cell? ⟨b, off + k, none⟩ = some (.int .i64 x)) := by show _ = _; rw [HCE.out k hlt, hx]
      obtain ⟨y, hy⟩ : ∃ y, IntKind.u32.wrap x = y := ⟨_, rfl⟩
      have HYE : Hid (y = x % 4294967296) := by show _ = _; rw [← hy, wrap_u32]
      have HYb : Hid (0 ≤ y ∧ y ≤ 4294967295) := by have := HYE.out; show _ ∧ _; omega
      have hb0 : b < w.heap.size := HB0.out
      clear hx
      go_upto_region 7 with fail
      go_cut [38] from 28 to 37 (fun s38 wx => Wnd wx (w.heap.size + 1) D.top ((D.bits.take k ++ List.replicate (32 - k) 0).set k y) ∧ Blk wx w.heap.size 39 [.int .i64 D.top, .slice (some ⟨b, off, none⟩) 32 c] ∧ Below w.heap.size w wx)
      case first =>
       rename_i J K' hRJ hMet
       generalize hA : Act.mk _ _ = A
       have a1' : A.eval (.tmp 1) = .pointer (some ⟨w.heap.size, 0, none⟩) := by rw [← hA]; rfl
       have a4' : A.eval (.tmp 4) = .pointer (some ⟨w.heap.size + 1, 0, none⟩) := by rw [← hA]; rfl
       have a5' : A.eval (.tmp 5) = .int .i64 (k : Int) := by rw [← hA]; rfl
       have asz : A.tmps.size = 57 := by rw [← hA]; rfl
       have hW : ∀ wx, Below wr.heap.size wr wx → Wnd wx (w.heap.size + 1) D.top (D.bits.take k ++ List.replicate (32 - k) 0) := fun wx hb => HW.out.later hb
       have hBk : ∀ wx, Below wr.heap.size wr wx → Blk wx w.heap.size 39 [.int .i64 D.top, .slice (some ⟨b, off, none⟩) 32 c] := fun wx hb => HKA.out.later hb
       have hX : ∀ wx, Below wr.heap.size wr wx → wx.cell? ⟨b, off + k, none⟩ = some (.int .i64 x) := fun wx hb => by rw [(HBe.out.trans (hb.mono HBe.out.size)).cell hb0]; exact HX.out
       refine region_each (by kernel_rfl) DL3 11 (fun i => DL3.getD i 0) (fun _ => 0)
        (fun i gB v wx => match i with
         | 0 => v = .pointer (some ⟨w.heap.size + 1, 0, none⟩)
         | 1 => v = .int .i64 (k : Int)
         | 2 => v = .pointer (some ⟨w.heap.size, 1, none⟩)
         | 3 => v = .slice (some ⟨b, off, none⟩) 32 c
         | 4 => v = .int .i64 (k : Int)
         | 5 => v = .pointer (some ⟨b, off + k, none⟩)
         | 6 => v = .int .i64 x
         | 7 => v = .int .u32 y
         | 8 => v = .pointer (some ⟨w.heap.size + 1, 0, none⟩)
         | 9 => v = .pointer (some ⟨w.heap.size + 1, 1, none⟩)
         | 10 => v = .pointer (some ⟨w.heap.size + 1, 1 + k, none⟩)
         | _ => False) (fun wx => Below wr.heap.size wr wx) (by kernel_rfl) (Below.refl _ _).drew ?_ ?_ ?_
       ·
        intro i gB v wx wy hi hF hb _
        match i, hi with
        | 0, _ => exact hF
        | 1, _ => exact hF
        | 2, _ => exact hF
        | 3, _ => exact hF
        | 4, _ => exact hF
        | 5, _ => exact hF
        | 6, _ => exact hF
        | 7, _ => exact hF
        | 8, _ => exact hF
        | 9, _ => exact hF
        | 10, _ => exact hF
       ·
        intro i hi t ρ wx hB hp hd
        match i, hi with
        | 0, _ =>
         have e4 : (fr DL3 A t).eval (.tmp 4) = .pointer (some ⟨w.heap.size + 1, 0, none⟩) := (fr_eval_old _ _ _ 4 rfl).trans a4'
         refine op_run (v := .pointer (some ⟨w.heap.size + 1, 0, none⟩)) (w' := wx) rfl rfl ?_ ?_
         ·
          clear hp hd; have ec : ∀ v, (fr DL3 A t).eval (.const v) = v := fun _ => rfl; generalize (fr DL3 A t).eval = ev at ec e4 ⊢; go_simp
         ·
          exact ⟨_, 0, rfl, hB, Below.refl _ _, rfl, .inl rfl⟩
        | 1, _ =>
         have e5 : (fr DL3 A t).eval (.tmp 5) = .int .i64 (k : Int) := (fr_eval_old _ _ _ 5 rfl).trans a5'
         refine op_run (v := .int .i64 (k : Int)) (w' := wx) rfl rfl ?_ ?_
         ·
          clear hp hd; have ec : ∀ v, (fr DL3 A t).eval (.const v) = v := fun _ => rfl; generalize (fr DL3 A t).eval = ev at ec e5 ⊢; go_simp
         ·
          exact ⟨_, 0, rfl, hB, Below.refl _ _, rfl, .inl rfl⟩
        | 2, _ =>
         have e1 : (fr DL3 A t).eval (.tmp 1) = .pointer (some ⟨w.heap.size, 0, none⟩) := (fr_eval_old _ _ _ 1 rfl).trans a1'
         refine op_run (v := .pointer (some ⟨w.heap.size, 1, none⟩)) (w' := wx) rfl rfl ?_ ?_
         ·
          clear hp hd; have ec : ∀ v, (fr DL3 A t).eval (.const v) = v := fun _ => rfl; generalize (fr DL3 A t).eval = ev at ec e1 ⊢; go_simp
         ·
          exact ⟨_, 0, rfl, hB, Below.refl _ _, rfl, .inl rfl⟩
        | 3, _ =>
         have e30 : (fr DL3 A t).eval (.tmp 30) = .pointer (some ⟨w.heap.size, 1, none⟩) := (fr_eval _ _ _ 30 rfl (by rw [asz]; decide)).trans (hp 2 (pre_mem (by kernel_rfl)))
         have hc := (hBk wx hB).cell 1 rfl
         refine op_run (v := .slice (some ⟨b, off, none⟩) 32 c) (w' := wx) rfl rfl ?_ ?_
         ·
          clear hp hd; have ec : ∀ v, (fr DL3 A t).eval (.const v) = v := fun _ => rfl; generalize (fr DL3 A t).eval = ev at ec e30 ⊢; go_simp
         ·
          exact ⟨_, 0, rfl, hB, Below.refl _ _, rfl, .inl rfl⟩
        | 4, _ =>
         have e5 : (fr DL3 A t).eval (.tmp 5) = .int .i64 (k : Int) := (fr_eval_old _ _ _ 5 rfl).trans a5'
         refine op_run (v := .int .i64 (k : Int)) (w' := wx) rfl rfl ?_ ?_
         ·
          clear hp hd; have ec : ∀ v, (fr DL3 A t).eval (.const v) = v := fun _ => rfl; generalize (fr DL3 A t).eval = ev at ec e5 ⊢; go_simp
         ·
          exact ⟨_, 0, rfl, hB, Below.refl _ _, rfl, .inl rfl⟩
        | 5, _ =>
         have e31 : (fr DL3 A t).eval (.tmp 31) = .slice (some ⟨b, off, none⟩) 32 c := (fr_eval _ _ _ 31 rfl (by rw [asz]; decide)).trans (hp 3 (pre_mem (by kernel_rfl)))
         have e32 : (fr DL3 A t).eval (.tmp 32) = .int .i64 (k : Int) := (fr_eval _ _ _ 32 rfl (by rw [asz]; decide)).trans (hp 4 (pre_mem (by kernel_rfl)))
         refine op_run (v := .pointer (some ⟨b, off + k, none⟩)) (w' := wx) rfl rfl ?_ ?_
         ·
          clear hp hd; have ec : ∀ v, (fr DL3 A t).eval (.const v) = v := fun _ => rfl; generalize (fr DL3 A t).eval = ev at ec e31 e32 ⊢; go_simp
         ·
          exact ⟨_, 0, rfl, hB, Below.refl _ _, rfl, .inl rfl⟩
        | 6, _ =>
         have e33 : (fr DL3 A t).eval (.tmp 33) = .pointer (some ⟨b, off + k, none⟩) := (fr_eval _ _ _ 33 rfl (by rw [asz]; decide)).trans (hp 5 (pre_mem (by kernel_rfl)))
         have hc := hX wx hB
         refine op_run (v := .int .i64 x) (w' := wx) rfl rfl ?_ ?_
         ·
          clear hp hd; have ec : ∀ v, (fr DL3 A t).eval (.const v) = v := fun _ => rfl; generalize (fr DL3 A t).eval = ev at ec e33 ⊢; go_simp
         ·
          exact ⟨_, 0, rfl, hB, Below.refl _ _, rfl, .inl rfl⟩
        | 7, _ =>
         have e34 : (fr DL3 A t).eval (.tmp 34) = .int .i64 x := (fr_eval _ _ _ 34 rfl (by rw [asz]; decide)).trans (hp 6 (pre_mem (by kernel_rfl)))
         refine op_run (v := .int .u32 y) (w' := wx) rfl rfl ?_ ?_
         ·
          clear hp hd; have ec : ∀ v, (fr DL3 A t).eval (.const v) = v := fun _ => rfl; generalize (fr DL3 A t).eval = ev at ec e34 ⊢; go_simp
         ·
          exact ⟨_, 0, rfl, hB, Below.refl _ _, rfl, .inl rfl⟩
        | 8, _ =>
         have e28 : (fr DL3 A t).eval (.tmp 28) = .pointer (some ⟨w.heap.size + 1, 0, none⟩) := (fr_eval _ _ _ 28 rfl (by rw [asz]; decide)).trans (hp 0 (pre_mem (by kernel_rfl)))
         refine op_run (v := .pointer (some ⟨w.heap.size + 1, 0, none⟩)) (w' := wx) rfl rfl ?_ ?_
         ·
          clear hp hd; have ec : ∀ v, (fr DL3 A t).eval (.const v) = v := fun _ => rfl; generalize (fr DL3 A t).eval = ev at ec e28 ⊢; go_simp
         ·
          exact ⟨_, 0, rfl, hB, Below.refl _ _, rfl, .inl rfl⟩
        | 9, _ =>
         have e36 : (fr DL3 A t).eval (.tmp 36) = .pointer (some ⟨w.heap.size + 1, 0, none⟩) := (fr_eval _ _ _ 36 rfl (by rw [asz]; decide)).trans (hp 8 (pre_mem (by kernel_rfl)))
         refine op_run (v := .pointer (some ⟨w.heap.size + 1, 1, none⟩)) (w' := wx) rfl rfl ?_ ?_
         ·
          clear hp hd; have ec : ∀ v, (fr DL3 A t).eval (.const v) = v := fun _ => rfl; generalize (fr DL3 A t).eval = ev at ec e36 ⊢; go_simp
         ·
          exact ⟨_, 0, rfl, hB, Below.refl _ _, rfl, .inl rfl⟩
        | 10, _ =>
         have e37 : (fr DL3 A t).eval (.tmp 37) = .pointer (some ⟨w.heap.size + 1, 1, none⟩) := (fr_eval _ _ _ 37 rfl (by rw [asz]; decide)).trans (hp 9 (pre_mem (by kernel_rfl)))
         have e29 : (fr DL3 A t).eval (.tmp 29) = .int .i64 (k : Int) := (fr_eval _ _ _ 29 rfl (by rw [asz]; decide)).trans (hp 1 (pre_mem (by kernel_rfl)))
         refine op_run (v := .pointer (some ⟨w.heap.size + 1, 1 + k, none⟩)) (w' := wx) rfl rfl ?_ ?_
         ·
          clear hp hd; have ec : ∀ v, (fr DL3 A t).eval (.const v) = v := fun _ => rfl; generalize (fr DL3 A t).eval = ev at ec e37 e29 ⊢; go_simp
         ·
          exact ⟨_, 0, rfl, hB, Below.refl _ _, rfl, .inl rfl⟩
       ·
        intro t ρ wx hB hF hne
        have e38 : (fr DL3 A t).eval (.tmp 38) = .pointer (some ⟨w.heap.size + 1, 1 + k, none⟩) := (fr_eval _ _ _ 38 rfl (by rw [asz]; decide)).trans (hF 10 (by decide))
        have e35 : (fr DL3 A t).eval (.tmp 35) = .int .u32 y := (fr_eval _ _ _ 35 rfl (by rw [asz]; decide)).trans (hF 7 (by decide))
        clear hne
        have q0 : ∃ v, wx.cell? ⟨w.heap.size + 1, 1 + k, none⟩ = some v := ⟨_, (hW wx hB).word k hlt⟩
        obtain ⟨v0, q0⟩ := q0
        have f0 := (hW wx hB).froz (1 + k)
        have kW : Hid (Wnd wx (w.heap.size + 1) D.top (D.bits.take k ++ List.replicate (32 - k) 0)) := hW wx hB
        have kA : Hid (Blk wx w.heap.size 39 [.int .i64 D.top, .slice (some ⟨b, off, none⟩) 32 c]) := hBk wx hB
        refine op_wp rfl rfl ?_
        clear hF hW hBk hX
        generalize hE : (fr DL3 A t).eval = ev at e38 e35
        unfold Oper.wp
        rw [hE]
        go_simp
        refine hMet _ _ (Met.intro (hRJ _ _ ⟨t 28, t 29, t 30, t 31, t 32, t 33, t 34, t 35, t 36, t 37, t 38, ⟨kW.out.setWord k _ HYb.out, kA.out.other (by show w.heap.size ≠ w.heap.size + 1; omega) _, (HBe.out.trans (hB.mono HBe.out.size)).setCell (by show w.heap.size ≤ w.heap.size + 1; omega) _⟩, ?_⟩))
        rw [← hA]; rfl
      case rest =>
       clear hy
       obtain ⟨hw, hka, hbe⟩ := hcut
       have HW2 : Hid (Wnd wc (w.heap.size + 1) D.top ((D.bits.take k ++ List.replicate (32 - k) 0).set k y)) := hw
       have HK2 := hid (hka)
       have HB2 := hid (hbe)
       have c2 : wc.cell? ⟨w.heap.size + 1, 1 + k, none⟩ = some (.int .u32 y) := by
        rw [hw.word k hlt]
        simp [List.getD, mid_length D.bits k HL.out hk, hlt]
       have c3 := hka.cell 1 rfl
       have c4 : wc.cell? ⟨b, off + k, none⟩ = some (.int .i64 x) := by rw [hbe.cell hb0]; exact HX.out
       clear hw hka hbe HW HKA HBe
       have hwy : wrap64 y = y := by have := HYb.out; unfold wrap64; omega
       by_cases hin : 0 ≤ x ∧ x ≤ 4294967295
       ·
        have hne : (y != x) = false := by rw [bne_eq_false_iff_eq]; have := HYE.out; omega
        have HKK : Hid (∀ i : Nat, i < k + 1 → 0 ≤ D.bits.getD i 0 ∧ D.bits.getD i 0 ≤ 4294967295) := by
         intro i hi
         by_cases hik : i = k
         ·
          rw [hik, HXD.out]; exact hin
         ·
          exact HK.out i (by omega)
        have HW3 : Hid (Wnd wc (w.heap.size + 1) D.top (D.bits.take (k + 1) ++ List.replicate (32 - (k + 1)) 0)) := by
         have := HW2.out
         rw [show y = D.bits.getD k 0 by rw [HXD.out]; have := HYE.out; omega, mid_set D.bits k HL.out hlt] at this
         exact this
        clear hin HW2
        go_wp2
        go_quiet (fail)
        go_wp2
        go_roundw
        case rel => exact ⟨k + 1, by omega, by go_num, HKK, HW3.out, HK2.out, below_drewN HB2.out _⟩
        case measure => simp [intOf]; omega
       ·
        have hne : (y != x) = true := by rw [bne_iff_ne]; have := HYE.out; omega
        have HN : Hid (winOk D.top D.bits = false) := winOk_false fun hok => hin (by have := hok.words.at k; rwa [HXD.out] at this)
        clear hin HW2
        go_wp2
        go_quiet (fail)
        go_wp2
        go_ret2
        exact read_no HN.out (below_drewN HB2.out _)
     ·
      obtain rfl : k = 32 := by omega
      have HWd : Hid (Words D.bits) := words_take HK.out HL.out.symm
      have HW2 : Hid (Wnd wr (w.heap.size + 1) D.top D.bits) := by
       have := HW.out
       rw [mid_end D.bits HL.out] at this
       exact this
      have HOR : Hid (winRight D.top D.bits = winOk D.top D.bits) := ok_right HL.out HLo.out.1 HLo.out.2 HWd.out
      clear HW HK
      go_wp2_with fail
      refine (right (w.heap.size + 1) D.top D.bits wr HW2.out HLo.out.1 HLo.out.2).mono ?_
      rw [HOR.out]
      rintro e w3 ⟨rfl, b3⟩
      have B3 := hid (HBe.out.trans (b3.mono HBe.out.size))
      have W3 := hid (HW2.out.later b3)
      clear b3
      cases hok : winOk D.top D.bits with
      | false =>
       have HN : Hid (winOk D.top D.bits = false) := hok
       clear hok
       go_wp2
       go_ret2
       exact read_no HN.out B3.out
      | true =>
       have HN : Hid (winOk D.top D.bits = true) := hok
       clear hok
       go_wp2
       go_ret2
       exact read_yes HN.out (Nat.le_succ _) W3.out B3.out
   ·
    rw [decide_eq_false h2]
    have HN : Hid (winOk D.top D.bits = false) := winOk_false fun hok => h2 (by have := hok.lo; have := hok.hi; omega)
    rintro e x1 ⟨rfl, rfl⟩
    clear h1 h2
    go_wp2
    go_ret2
    exact read_no HN.out B0.out
 ·
  have HN : Hid (winOk D.top D.bits = false) := winOk_false fun hok => hl hok.len
  have hnI : ((S.bits.n : Int) != 32) = true := by
   have : ¬ (S.bits.n : Int) = 32 := by omega
   simpa using this
  clear hl hlen
  by_cases h1 : D.top = -1
  ·
   have hb1 : (D.top != -1) = false := by rw [h1]; rfl
   clear h1
   go_enter Tryz.func85, Tryz.ntmps85
   go_upto_region 1 with fail
   rw [HW0.out]
   go_wp2
   go_ret2
   exact read_no HN.out B0.out
  ·
   have hb1 : (D.top != -1) = true := by simpa using h1
   go_enter Tryz.func85, Tryz.ntmps85
   go_upto_region 1 with fail
   rw [HW0.out]
   go_wp2_with fail
   refine (isSeq D.top x0).mono ?_
   generalize decide (0 ≤ D.top ∧ D.top ≤ 281474976710655) = u
   rintro e x1 ⟨rfl, rfl⟩
   clear h1
   cases u with
   | false =>
    go_wp2
    go_ret2
    exact read_no HN.out B0.out
   | true =>
    go_wp2
    go_ret2
    exact read_no HN.out B0.out
end Go.Proofs.YtmcflfpckpjphaaGreatDoor.WnM

namespace Go.Proofs.YtmcflfpckpjphaaGreatDoor.WnK
open Go.RowKit Mem MemI Blk Zone ZoneI WnZ Res WinP WinB Bits WnC WnI WnJ WnL WnS WnM

theorem stored {w : World} {g lo hi : Nat} {u v : Value} {D : WnD} {S : WnS} (k : Blk w g 39 [u, v]) (o : WnOwn w lo hi S D) (d : g + 1 ≤ lo) :
  Blk ((w.setCell ⟨g, 0, none⟩ (.int .i64 D.top)).setCell ⟨g, 1, none⟩ (.slice S.bits.a S.bits.n S.bits.c)) g 39 [.int .i64 D.top, .slice S.bits.a S.bits.n S.bits.c] ∧
   WnOwn ((w.setCell ⟨g, 0, none⟩ (.int .i64 D.top)).setCell ⟨g, 1, none⟩ (.slice S.bits.a S.bits.n S.bits.c)) lo hi S D ∧
   ∀ B a, B ≤ g → Below B a w → Below B a ((w.setCell ⟨g, 0, none⟩ (.int .i64 D.top)).setCell ⟨g, 1, none⟩ (.slice S.bits.a S.bits.n S.bits.c)) :=
 ⟨(k.set 0 _ (by simp [maxLen])).set 1 _ (by simp [maxLen]), (o.carry (Kept.setCell _ _ _ _) (.inr d)).carry (Kept.setCell _ _ _ _) (.inr d), fun B a h b => (b.setCell h _).setCell h _⟩
theorem size2 (w : World) (a b : Addr) (u v : Value) : ((w.setCell a u).setCell b v).heap.size = w.heap.size := by simp
def Made (D : WnD) (w : World) (e : Ending) (w' : World) : Prop := ∃ S', e = .returned (wnV D S') ∧ WnOwn w' w.heap.size w'.heap.size S' D ∧ Below w.heap.size w w'
noncomputable def addD (D : WnD) (n : Int) : WnD := ⟨addTop D.top D.bits n, addBits D.top D.bits n⟩
def Added (D : WnD) (n : Int) (w : World) (e : Ending) (w' : World) : Prop := ∃ S', e = .returned (.tuple #[wnV (addD D n) S', .bool (winMay D.top D.bits n)]) ∧ WnOwn w' w.heap.size w'.heap.size S' (addD D n) ∧ Below w.heap.size w w'
noncomputable def ofD (l : List Int) (k : Nat) : WnD := ⟨(ofTop l k).1, (ofTop l k).2⟩
theorem may_split {D : WnD} {n : Int} (h : winOk D.top D.bits = true) : winMay D.top D.bits n = WinP.may D.top D.bits n := by unfold winMay; rw [h]; rfl
theorem may_notok {D : WnD} {n : Int} (h : winOk D.top D.bits = false) : winMay D.top D.bits n = false := by unfold winMay; rw [h]; rfl
theorem add_yes {D : WnD} {n : Int} (h : winMay D.top D.bits n = true) : addD D n = ⟨max D.top n, addL D.top D.bits n.toNat⟩ := by unfold addD addTop addBits; rw [if_pos h, if_pos h]
theorem add_no {D : WnD} {n : Int} (h : winMay D.top D.bits n = false) : addD D n = D := by unfold addD addTop addBits; rw [h]; rfl
theorem may_bounds {top : Int} {l : List Int} {n : Int} (h : WinP.may top l n = true) : 0 ≤ n ∧ n ≤ 281474976710655 := by
 unfold WinP.may at h
 rw [Bool.and_eq_true, decide_eq_true_iff] at h
 exact ⟨h.1.1, h.1.2.1⟩

set_option maxHeartbeats 2000000 in
theorem implWinOk (S : WnS) (D : WnD) (w : World) (h : WnRd w S D) :
  Calls Tryz.prog 84 #[wnV D S] w fun e w' => e = .returned (.bool (winOk D.top D.bits)) ∧ Below w.heap.size w w' := by
 have HR := hid (h)
 obtain ⟨x0, hx0, k0, b0, _⟩ := boxed w D S
 have HW0 : Hid (_ = x0) := hx0
 have B0 := hid (b0)
 have KA := hid (k0)
 obtain ⟨v, hv⟩ : ∃ v, winOk D.top D.bits = v := ⟨_, rfl⟩
 rw [hv]
 clear h hx0 k0 b0
 have c0 := KA.out.cell 0 rfl
 have c1 := KA.out.cell 1 rfl
 unfold wnV
 go_enter Tryz.func84, Tryz.ntmps84
 go_upto_region 1 with fail
 rw [HW0.out]
 go_wp2_with fail
 refine (windowOf S D x0 (HR.out.later B0.out)).mono ?_
 rintro e x1 ⟨hc, b1⟩
 have B1 := hid (B0.out.trans (b1.mono B0.out.size))
 clear b1 c0 c1
 rcases hc with ⟨hk, g, rfl, _, _⟩ | ⟨hk, rfl⟩
 ·
  obtain rfl : v = true := hv.symm.trans hk
  clear hv hk
  go_wp2
  go_ret
  exact ⟨rfl, B1.out⟩
 ·
  obtain rfl : v = false := hv.symm.trans hk
  clear hv hk
  go_wp2
  go_ret
  exact ⟨rfl, B1.out⟩

set_option maxHeartbeats 2000000 in
theorem implWinHas (S : WnS) (D : WnD) (n : Int) (w : World) (h : WnRd w S D) :
  Calls Tryz.prog 30 #[wnV D S, .int .i64 n] w fun e w' => e = .returned (.bool (winHas D.top D.bits n)) ∧ Below w.heap.size w w' := by
 have HR := hid (h)
 obtain ⟨x0, hx0, k0, b0, _⟩ := boxed w D S
 have HW0 : Hid (_ = x0) := hx0
 have B0 := hid (b0)
 have KA := hid (k0)
 obtain ⟨v, hv⟩ : ∃ v, winHas D.top D.bits n = v := ⟨_, rfl⟩
 have HV : Hid (winHas D.top D.bits n = v) := hv
 rw [hv]
 clear h hx0 k0 b0 hv
 have c0 := KA.out.cell 0 rfl
 have c1 := KA.out.cell 1 rfl
 unfold wnV
 go_enter Tryz.func30, Tryz.ntmps30
 go_upto_region 1 with fail
 rw [HW0.out]
 go_wp2_with fail
 refine (windowOf S D x0 (HR.out.later B0.out)).mono ?_
 rintro e x1 ⟨hc, b1⟩
 have B1 := hid (B0.out.trans (b1.mono B0.out.size))
 clear b1 c0 c1
 rcases hc with ⟨hk, g, rfl, _, hw⟩ | ⟨hk, rfl⟩
 ·
  have HO : Hid (WOk D.top D.bits) := winOk_iff.1 hk
  have HW : Hid (Wnd x1 g D.top D.bits) := hw
  have HH : Hid (WinP.has D.top D.bits n = v) := by show _ = v; rw [← HV.out]; unfold winHas; rw [hk]; rfl
  clear hk hw
  go_wp2_with fail
  refine (has g D.top D.bits n x1 HW.out HO.out.lo HO.out.hi).mono ?_
  rw [HH.out]
  rintro e x2 ⟨rfl, b2⟩
  have B2 := hid (B1.out.trans (b2.mono B1.out.size))
  clear b2
  go_wp2
  go_ret
  exact ⟨by first | rfl | simp, B2.out⟩
 ·
  have HF : Hid (v = false) := by show v = false; rw [← HV.out]; unfold winHas; rw [hk]; rfl
  clear hk
  go_wp2
  go_ret
  exact ⟨by rw [HF.out]; rfl, B1.out⟩

set_option maxHeartbeats 4000000 in
theorem implWinAdd (S : WnS) (D : WnD) (n : Int) (w : World) (h : WnRd w S D) (hl : D.bits.length ≤ 4194304) : Calls Tryz.prog 126 #[wnV D S, .int .i64 n] w (Added D n w) := by
 have HR := hid (h)
 obtain ⟨x0, hx0⟩ : ∃ x0, (w.alloc (.cells #[.int .i64 D.top, .slice S.bits.a S.bits.n S.bits.c] 39)).alloc (.cells #[.int .i64 0, .slice none 0 0] 39) = x0 := ⟨_, rfl⟩
 have HW0 : Hid (_ = x0) := hx0
 have B0 : Hid (Below w.heap.size w x0) := by rw [← hx0]; exact ((Below.refl _ _).alloc (Nat.le_refl _) _).alloc (by simp) _
 have KA : Hid (Blk x0 w.heap.size 39 [.int .i64 D.top, .slice S.bits.a S.bits.n S.bits.c]) := by rw [← hx0]; exact (Blk.new w _ _).alloc _
 have KO : Hid (Blk x0 (w.heap.size + 1) 39 [.int .i64 0, .slice none 0 0]) := by
  have := Blk.new (w.alloc (.cells #[.int .i64 D.top, .slice S.bits.a S.bits.n S.bits.c] 39)) 39 [.int .i64 0, .slice none 0 0]
  rw [World.size_alloc] at this
  rw [← hx0]; exact this
 clear h hx0
 have c0 := KA.out.cell 0 rfl
 have c1 := KA.out.cell 1 rfl
 unfold wnV
 go_enter Tryz.func126, Tryz.ntmps126
 go_upto_region 1 with fail
 rw [HW0.out]
 go_wp2_with fail
 refine (windowOf S D x0 (HR.out.later B0.out)).mono ?_
 rintro e x1 ⟨hc, b1⟩
 have B1 := hid (B0.out.trans (b1.mono B0.out.size))
 have KA1 := hid (KA.out.later b1)
 have KO1 := hid (KO.out.later b1)
 have HLT : Hid (w.heap.size + 1 < x0.heap.size) := KO.out.lt
 clear b1 c0 c1 KA KO B0 HW0
 rcases hc with ⟨hk, g, rfl, hg, hw⟩ | ⟨hk, rfl⟩
 ·
  have HO : Hid (WOk D.top D.bits) := winOk_iff.1 hk
  have HW : Hid (Wnd x1 g D.top D.bits) := hw
  have HG : Hid (w.heap.size + 1 < g) := Nat.lt_of_lt_of_le HLT.out hg
  have HM : Hid (winMay D.top D.bits n = WinP.may D.top D.bits n) := may_split hk
  clear hk hw hg
  go_wp2_with fail
  refine (may g D.top D.bits n x1 HW.out HO.out.lo HO.out.hi).mono ?_
  cases hm : WinP.may D.top D.bits n with
  | false =>
   have HMF : Hid (winMay D.top D.bits n = false) := by show _ = false; rw [HM.out, hm]
   clear hm
   rintro e x2 ⟨rfl, b2⟩
   have B2 := hid (B1.out.trans (b2.mono B1.out.size))
   have KA2 := hid (KA1.out.later b2)
   have KO2 := hid (KO1.out.later b2)
   clear b2 B1 KA1 KO1 HW
   have c0 := KA2.out.cell 0 rfl
   have c1 := KA2.out.cell 1 rfl
   go_wp2_with fail
   refine (implCopy S D x2 (HR.out.later B2.out) hl).mono ?_
   rintro e x3 ⟨S', rfl, o3, b3⟩
   have O3 := hid (o3)
   have B3 := hid (B2.out.trans (b3.mono B2.out.size))
   have KO3 := hid (KO2.out.later b3)
   have HL3 : Hid (w.heap.size + 1 + 1 ≤ x2.heap.size) := KO2.out.lt
   clear o3 b3 B2 KO2 KA2 c0 c1
   have q0 := KO3.out.cell 0 rfl
   have q1 := KO3.out.cell 1 rfl
   have f0 := KO3.out.frozen 0
   have f1 := KO3.out.frozen 1
   unfold wnV
   go_wp2
   obtain ⟨k4, o4, b4⟩ := stored KO3.out O3.out HL3.out
   exact bodyPost_ret (v := .tuple #[wnV D S', .bool false]) (res2 rfl (is_cell rfl k4 aggWn) (is_tmp rfl)) rfl ⟨S', by rw [add_no HMF.out, HMF.out], by rw [add_no HMF.out]; exact o4.mono (by have := HL3.out; omega) (by rw [size2]; exact Nat.le_refl _), b4 _ _ (Nat.le_succ _) B3.out⟩
  | true =>
   have HMT : Hid (winMay D.top D.bits n = true) := by show _ = true; rw [HM.out, hm]
   obtain ⟨h0, h1⟩ := may_bounds hm
   clear hm
   rintro e x2 ⟨rfl, b2⟩
   have B2 := hid (B1.out.trans (b2.mono B1.out.size))
   have KO2 := hid (KO1.out.later b2)
   have W2 := hid (HW.out.later b2)
   clear b2 B1 KA1 KO1 HW
   obtain ⟨N, rfl⟩ := Int.eq_ofNat_of_zero_le h0
   go_wp2_with fail
   refine (add g D.top D.bits N x2 W2.out HO.out.lo (by omega)).mono ?_
   rintro e x3 ⟨rfl, w3, k3⟩
   have HAD : Hid (addD D (N : Int) = ⟨max D.top N, addL D.top D.bits N⟩) := by show _ = _; rw [add_yes HMT.out, Int.toNat_natCast]
   have W3 : Hid (Wnd x3 g (max D.top N) (addL D.top D.bits N)) := w3
   have B3 := hid (B2.out.trans (k3.below (by have := HG.out; omega) B2.out.size))
   have KO3 := hid (KO2.out.keep (k3.block _ KO2.out.lt (.inl HG.out)))
   clear w3 k3 B2 KO2 W2
   go_wp2_with fail
   refine (win g (max D.top N) (addL D.top D.bits N) x3 W3.out).mono ?_
   rw [← HAD.out]
   obtain ⟨D', hD'⟩ : ∃ D', addD D (N : Int) = D' := ⟨_, rfl⟩
   have HD' : Hid (addD D (N : Int) = D') := hD'
   rw [hD']
   clear hD'
   rintro e x4 ⟨S', rfl, o4, b4⟩
   have O4 := hid (o4)
   have B4 := hid (B3.out.trans (b4.mono B3.out.size))
   have KO4 := hid (KO3.out.later b4)
   have HL3 : Hid (w.heap.size + 1 + 1 ≤ x3.heap.size) := KO3.out.lt
   clear o4 b4 B3 KO3 W3
   have q0 := KO4.out.cell 0 rfl
   have q1 := KO4.out.cell 1 rfl
   have f0 := KO4.out.frozen 0
   have f1 := KO4.out.frozen 1
   unfold wnV
   go_wp2
   obtain ⟨k5, o5, b5⟩ := stored KO4.out O4.out HL3.out
   exact bodyPost_ret (v := .tuple #[wnV D' S', .bool true]) (res2 rfl (is_cell rfl k5 aggWn) (is_tmp rfl)) rfl ⟨S', by rw [HD'.out, HMT.out], by rw [HD'.out]; exact o5.mono (by have := HL3.out; omega) (by rw [size2]; exact Nat.le_refl _), b5 _ _ (Nat.le_succ _) B4.out⟩
 ·
  have HMF : Hid (winMay D.top D.bits n = false) := may_notok hk
  have B2 := hid (B1.out)
  have KA2 := hid (KA1.out)
  have KO2 := hid (KO1.out)
  clear hk B1 KA1 KO1
  have c0 := KA2.out.cell 0 rfl
  have c1 := KA2.out.cell 1 rfl
  go_wp2_with fail
  refine (implCopy S D x1 (HR.out.later B2.out) hl).mono ?_
  rintro e x3 ⟨S', rfl, o3, b3⟩
  have O3 := hid (o3)
  have B3 := hid (B2.out.trans (b3.mono B2.out.size))
  have KO3 := hid (KO2.out.later b3)
  have HL3 : Hid (w.heap.size + 1 + 1 ≤ x1.heap.size) := KO2.out.lt
  clear o3 b3 B2 KO2 KA2 c0 c1
  have q0 := KO3.out.cell 0 rfl
  have q1 := KO3.out.cell 1 rfl
  have f0 := KO3.out.frozen 0
  have f1 := KO3.out.frozen 1
  unfold wnV
  go_wp2
  obtain ⟨k4, o4, b4⟩ := stored KO3.out O3.out HL3.out
  exact bodyPost_ret (v := .tuple #[wnV D S', .bool false]) (res2 rfl (is_cell rfl k4 aggWn) (is_tmp rfl)) rfl ⟨S', by rw [add_no HMF.out, HMF.out], by rw [add_no HMF.out]; exact o4.mono (by have := HL3.out; omega) (by rw [size2]; exact Nat.le_refl _), b4 _ _ (Nat.le_succ _) B3.out⟩

end Go.Proofs.YtmcflfpckpjphaaGreatDoor.WnK

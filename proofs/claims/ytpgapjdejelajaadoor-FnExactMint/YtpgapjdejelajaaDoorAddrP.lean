/-
  Addresses as plain functions on numbers and lists of numbers: their bytes, their text, and what a text is read as.
-/
import Derived.Test.YtpgapjdejelajaaDoorStr
import Derived.Test.YtpgapjdejelajaaDoorCa1
namespace Go.Proofs.YtpgapjdejelajaaDoor.AddrP
open Go.RowKit Go.Proofs.YtpgapjdejelajaaDoor.Mem Go.Proofs.YtpgapjdejelajaaDoor.App

/-- The digits of a number to the base 10; of 0 none. -/
def digs (n : Nat) : List Int := if n = 0 then [] else digs (n / 10) ++ [((48 + n % 10 : Nat) : Int)]
termination_by n
decreasing_by omega
set_option maxRecDepth 100000 in
theorem digs_zero : digs 0 = [] := by rw [digs]; rfl
set_option maxRecDepth 100000 in
theorem digs_pos (n : Nat) (h : 0 < n) : digs n = digs (n / 10) ++ [((48 + n % 10 : Nat) : Int)] := by rw [digs, if_neg (by omega)]
/-- A number's digits to the base 10. -/
def dec (n : Nat) : List Int := if n = 0 then [48] else digs n
set_option maxRecDepth 100000 in
theorem dec_zero : dec 0 = [48] := rfl
set_option maxRecDepth 100000 in
theorem dec_pos (n : Nat) (h : 0 < n) : dec n = digs n := by unfold dec; rw [if_neg (by omega)]
set_option maxRecDepth 100000 in
theorem digs_bytes (n : Nat) : ∀ z ∈ digs n, 48 ≤ z ∧ z ≤ 57 := by
  induction n using Nat.strongRecOn with
  | ind n ih =>
    by_cases h : n = 0
    · subst h; rw [digs_zero]; intro z hz; cases hz
    · rw [digs_pos n (by omega)]
      intro z hz
      rcases List.mem_append.1 hz with h | h
      · exact ih (n / 10) (by omega) z h
      · simp at h; omega
set_option maxRecDepth 100000 in
theorem dec_digits (n : Nat) : ∀ z ∈ dec n, 48 ≤ z ∧ z ≤ 57 := by
  unfold dec; split
  · intro z hz; simp at hz; omega
  · exact digs_bytes n
set_option maxRecDepth 100000 in
theorem digs_len (n k : Nat) (h : n < 10 ^ k) : (digs n).length ≤ k := by
  induction k generalizing n with
  | zero => obtain rfl : n = 0 := by simpa using h
            rw [digs_zero]; simp
  | succ k ih =>
    by_cases h0 : n = 0
    · subst h0; rw [digs_zero]; simp
    · rw [digs_pos n (by omega), List.length_append, List.length_singleton]
      have := ih (n / 10) (by rw [Nat.pow_succ] at h; omega)
      omega
set_option maxRecDepth 100000 in
theorem dec_len (n : Nat) (h : n ≤ 65535) : (dec n).length ≤ 5 := by
  unfold dec; split
  · simp
  · exact digs_len n 5 (by omega)
def addrOk (h p : Int) : Bool := decide (0 ≤ h ∧ h ≤ 4294967295 ∧ 0 ≤ p ∧ p ≤ 65535)
set_option maxRecDepth 100000 in
theorem addrOk_iff (h p : Int) : addrOk h p = true ↔ 0 ≤ h ∧ h ≤ 4294967295 ∧ 0 ≤ p ∧ p ≤ 65535 := by simp [addrOk]
def addrT (h p : Nat) : List Int := dec (h / 16777216) ++ [46] ++ dec (h / 65536 % 256) ++ [46] ++ dec (h / 256 % 256) ++ [46] ++ dec (h % 256) ++ [58] ++ dec p
def addrI (h p : Int) : List Int := if addrOk h p = true then addrT h.toNat p.toNat else []

/-- One byte of a text that is read: the numbers that were read, and the one that is being read (-1: none yet). -/
def rdStep (s : List Int × Int) (c : Int) : Option (List Int × Int) :=
  if c = 46 ∨ c = 58 then (if s.2 < 0 ∨ 4 < s.1.length then none else some (s.1 ++ [s.2], -1))
  else if ¬ (48 ≤ c ∧ c ≤ 57) ∨ 6553 < s.2 then none else some (s.1, 10 * (if s.2 < 0 then 0 else s.2) + (c - 48))
def steps : List Int × Int → List Int → Option (List Int × Int)
  | s, [] => some s
  | s, c :: r => match rdStep s c with
    | none => none
    | some t => steps t r
set_option maxRecDepth 100000 in
theorem steps_append (s : List Int × Int) (a b : List Int) : steps s (a ++ b) = match steps s a with | none => none | some t => steps t b := by
  induction a generalizing s with
  | nil => rfl
  | cons c r ih =>
    show (match rdStep s c with | none => none | some t => steps t (r ++ b)) = (match (match rdStep s c with | none => none | some t => steps t r) with | none => none | some t => steps t b)
    cases rdStep s c with
    | none => rfl
    | some t => exact ih t
set_option maxRecDepth 100000 in
theorem steps_digs (l : List Int) (n : Nat) (h : n ≤ 65535) (h0 : 0 < n) : steps (l, -1) (digs n) = some (l, (n : Int)) := by
  induction n using Nat.strongRecOn with
  | ind n ih =>
    rw [digs_pos n h0, steps_append]
    by_cases h1 : n / 10 = 0
    · rw [h1, digs_zero]
      have hd : n % 10 = n := by omega
      show (match rdStep (l, -1) _ with | none => none | some t => steps t []) = _
      unfold rdStep
      rw [if_neg (by omega), if_neg (by simp; omega)]
      show some _ = some _
      congr 2
      simp
      omega
    · rw [ih (n / 10) (by omega) (by omega) (by omega)]
      show (match rdStep (l, _) _ with | none => none | some t => steps t []) = _
      unfold rdStep
      rw [if_neg (by omega), if_neg (by simp; omega)]
      show some _ = some _
      congr 2
      simp
      omega
set_option maxRecDepth 100000 in
theorem steps_dec (l : List Int) (n : Nat) (h : n ≤ 65535) : steps (l, -1) (dec n) = some (l, (n : Int)) := by
  by_cases h0 : n = 0
  · subst h0; rw [dec_zero]; rfl
  · rw [dec_pos n (by omega)]; exact steps_digs l n h (by omega)
set_option maxRecDepth 100000 in
theorem steps_sep (l : List Int) (n c : Int) (r : List Int) (h : c = 46 ∨ c = 58) (h0 : 0 ≤ n) (h1 : l.length ≤ 4) : steps (l, n) (c :: r) = steps (l ++ [n], -1) r := by
  show (match rdStep (l, n) c with | none => none | some t => steps t r) = _
  unfold rdStep
  rw [if_pos h, if_neg (by simp; omega)]
/-- The numbers of a text. -/
def nums (s : List Int) : Option (List Int) := match steps ([], -1) s with
  | none => none
  | some (l, n) => if n < 0 ∨ 4 < l.length then none else some (l ++ [n])
set_option maxRecDepth 100000 in
theorem nums_addrT (h p : Nat) (hh : h ≤ 4294967295) (hp : p ≤ 65535) : nums (addrT h p) = some [((h / 16777216 : Nat) : Int), ((h / 65536 % 256 : Nat) : Int), ((h / 256 % 256 : Nat) : Int), ((h % 256 : Nat) : Int), (p : Int)] := by
  unfold nums addrT
  simp only [List.append_assoc]
  rw [steps_append, steps_dec _ _ (by omega)]
  simp only [List.singleton_append]
  rw [steps_sep _ _ _ _ (.inl rfl) (by omega) (by simp), steps_append, steps_dec _ _ (by omega)]
  simp only []
  rw [steps_sep _ _ _ _ (.inl rfl) (by omega) (by simp), steps_append, steps_dec _ _ (by omega)]
  simp only []
  rw [steps_sep _ _ _ _ (.inl rfl) (by omega) (by simp), steps_append, steps_dec _ _ (by omega)]
  simp only []
  rw [steps_sep _ _ _ _ (.inr rfl) (by omega) (by simp), steps_dec _ _ (by omega)]
  simp only []
  rw [if_neg (by simp)]
  simp
set_option maxRecDepth 100000 in
theorem nums_nil : nums [] = none := rfl
/-- What a text is read as. -/
def Reads (s : List Int) (h p : Int) (ok : Bool) : Prop := (ok = true ∧ addrOk h p = true ∧ addrI h p = s) ∨ (ok = false ∧ h = 0 ∧ p = 0 ∧ ∀ h p, addrOk h p = true → addrI h p ≠ s)
set_option maxRecDepth 100000 in
theorem addrI_inj {h p h' p' : Int} (k : addrOk h p = true) (k' : addrOk h' p' = true) (e : addrI h p = addrI h' p') : h = h' ∧ p = p' := by
  have a := (addrOk_iff h p).1 k
  have b := (addrOk_iff h' p').1 k'
  unfold addrI at e
  rw [if_pos k, if_pos k'] at e
  have e2 := nums_addrT h.toNat p.toNat (by omega) (by omega)
  rw [e, nums_addrT h'.toNat p'.toNat (by omega) (by omega)] at e2
  simp only [Option.some.injEq, List.cons.injEq, and_true] at e2
  omega
set_option maxRecDepth 100000 in
theorem Reads.unique {s : List Int} {h p h' p' : Int} {ok ok' : Bool} (a : Reads s h p ok) (b : Reads s h' p' ok') : h = h' ∧ p = p' ∧ ok = ok' := by
  rcases a with ⟨rfl, a1, a2⟩ | ⟨rfl, a1, a2, a3⟩
  · rcases b with ⟨rfl, b1, b2⟩ | ⟨rfl, b1, b2, b3⟩
    · have := addrI_inj a1 b1 (a2.trans b2.symm)
      exact ⟨this.1, this.2, rfl⟩
    · exact absurd a2 (b3 h p a1)
  · rcases b with ⟨rfl, b1, b2⟩ | ⟨rfl, b1, b2, b3⟩
    · exact absurd b2 (a3 h' p' b1)
    · exact ⟨a1.trans b1.symm, a2.trans b2.symm, rfl⟩
set_option maxRecDepth 100000 in
theorem addrT_len (h p : Nat) (hh : h ≤ 4294967295) (hp : p ≤ 65535) : (addrT h p).length ≤ 29 := by
  have h1 := dec_len (h / 16777216) (by omega)
  have h2 := dec_len (h / 65536 % 256) (by omega)
  have h3 := dec_len (h / 256 % 256) (by omega)
  have h4 := dec_len (h % 256) (by omega)
  have h5 := dec_len p hp
  simp only [addrT, List.length_append, List.length_singleton]
  omega
set_option maxRecDepth 100000 in
theorem addrT_bytes (h p : Nat) : Bytes (addrT h p) := by
  have d (n : Nat) : Bytes (dec n) := fun z hz => by have := dec_digits n z hz; omega
  have o (c : Int) (h : 0 ≤ c ∧ c ≤ 255) : Bytes [c] := fun z hz => by simp at hz; omega
  have ap {a b : List Int} (ha : Bytes a) (hb : Bytes b) : Bytes (a ++ b) := fun z hz => (List.mem_append.1 hz).elim (ha z) (hb z)
  exact ap (ap (ap (ap (ap (ap (ap (ap (d _) (o 46 (by omega))) (d _)) (o 46 (by omega))) (d _)) (o 46 (by omega))) (d _)) (o 58 (by omega))) (d _)
set_option maxRecDepth 100000 in
theorem addrI_bytes (h p : Int) : Bytes (addrI h p) := by
  unfold addrI; split
  · exact addrT_bytes _ _
  · intro z hz; cases hz
set_option maxRecDepth 100000 in
theorem addrI_len (h p : Int) : (addrI h p).length ≤ 29 := by
  unfold addrI; split
  · rename_i k; have := (addrOk_iff h p).1 k; exact addrT_len _ _ (by omega) (by omega)
  · simp
set_option maxRecDepth 100000 in
theorem addrI_ne (h p : Int) (k : addrOk h p = true) : addrI h p ≠ [] := by
  intro e
  have a := (addrOk_iff h p).1 k
  unfold addrI at e
  rw [if_pos k] at e
  have e2 := nums_addrT h.toNat p.toNat (by omega) (by omega)
  rw [e, nums_nil] at e2
  cases e2
set_option maxRecDepth 100000 in
/-- A text is read byte by byte. -/
theorem steps_take (s : List Int) (k : Nat) (h : k < s.length) (l : List Int) (n : Int) (e : steps ([], -1) (s.take k) = some (l, n)) : steps ([], -1) (s.take (k + 1)) = rdStep (l, n) (s.getD k 0) := by
  have e2 : s.getD k 0 = s[k] := by simp [List.getD, h]
  rw [List.take_succ_eq_append_getElem h, steps_append, e, e2]
  show (match rdStep (l, n) s[k] with | none => none | some t => steps t []) = _
  cases rdStep (l, n) s[k] <;> rfl
set_option maxRecDepth 100000 in
theorem steps_none (s : List Int) (k : Nat) (e : steps ([], -1) (s.take k) = none) : nums s = none := by
  unfold nums
  rw [← List.take_append_drop k s, steps_append, e]
/-- What may have been read so far. -/
def SoFar (t : List Int × Int) : Prop := t.1.length ≤ 5 ∧ -1 ≤ t.2 ∧ t.2 ≤ 65539 ∧ ∀ z ∈ t.1, 0 ≤ z ∧ z ≤ 65539
set_option maxRecDepth 100000 in
theorem rdStep_good (t u : List Int × Int) (c : Int) (h : SoFar t) (e : rdStep t c = some u) : SoFar u := by
  obtain ⟨h1, h2, h3, h4⟩ := h
  unfold rdStep at e
  split at e
  · split at e
    · cases e
    · rename_i hh
      obtain rfl := Option.some.inj e
      refine ⟨by simp; omega, by simp, by simp, ?_⟩
      intro z hz
      rcases List.mem_append.1 hz with h | h
      · exact h4 z h
      · simp at h; omega
  · split at e
    · cases e
    · rename_i hh
      obtain rfl := Option.some.inj e
      refine ⟨h1, ?_, ?_, h4⟩
      · simp only; split <;> omega
      · simp only; split <;> omega
set_option maxRecDepth 100000 in
theorem steps_good (s : List Int) : ∀ t u, SoFar t → steps t s = some u → SoFar u := by
  induction s with
  | nil => intro t u h e; obtain rfl := Option.some.inj e; exact h
  | cons c r ih =>
    intro t u h e
    have e' : (match rdStep t c with | none => none | some t => steps t r) = some u := e
    cases hs : rdStep t c with
    | none => rw [hs] at e'; cases e'
    | some v => rw [hs] at e'; exact ih v u (rdStep_good t v c h hs) e'
set_option maxRecDepth 100000 in
theorem good_start : SoFar ([], -1) := ⟨by simp, by simp, by simp, by intro z hz; cases hz⟩
set_option maxRecDepth 100000 in
theorem nums_good (s l : List Int) (h : nums s = some l) : l.length ≤ 5 ∧ ∀ z ∈ l, 0 ≤ z ∧ z ≤ 65539 := by
  unfold nums at h
  cases hs : steps ([], -1) s with
  | none => rw [hs] at h; cases h
  | some t =>
    obtain ⟨l', n⟩ := t
    rw [hs] at h
    have g := steps_good s _ _ good_start hs
    simp only at h
    split at h
    · cases h
    · rename_i hh
      obtain rfl := Option.some.inj h
      refine ⟨by simp; omega, ?_⟩
      intro z hz
      rcases List.mem_append.1 hz with k | k
      · exact g.2.2.2 z k
      · have := g.2.2.1; simp at k this; omega
set_option maxRecDepth 100000 in
theorem reads_no {s : List Int} (h : nums s = none) : Reads s 0 0 false := by
  refine .inr ⟨rfl, rfl, rfl, ?_⟩
  intro h' p' k e
  have a := (addrOk_iff h' p').1 k
  unfold addrI at e
  rw [if_pos k] at e
  have e2 := nums_addrT h'.toNat p'.toNat (by omega) (by omega)
  rw [e, h] at e2
  cases e2
set_option maxRecDepth 100000 in
theorem reads_len {s l : List Int} (h : nums s = some l) (hl : l.length ≠ 5) : Reads s 0 0 false := by
  refine .inr ⟨rfl, rfl, rfl, ?_⟩
  intro h' p' k e
  have a := (addrOk_iff h' p').1 k
  unfold addrI at e
  rw [if_pos k] at e
  have e2 := nums_addrT h'.toNat p'.toNat (by omega) (by omega)
  rw [e, h] at e2
  obtain rfl := Option.some.inj e2
  exact hl rfl
set_option maxRecDepth 100000 in
theorem reads_big {s l : List Int} (h : nums s = some l) (i : Nat) (hi : i < 4) (hb : 255 < l.getD i 0) : Reads s 0 0 false := by
  refine .inr ⟨rfl, rfl, rfl, ?_⟩
  intro h' p' k e
  have a := (addrOk_iff h' p').1 k
  unfold addrI at e
  rw [if_pos k] at e
  have e2 := nums_addrT h'.toNat p'.toNat (by omega) (by omega)
  rw [e, h] at e2
  obtain rfl := Option.some.inj e2
  match i, hi with
  | 0, _ => simp at hb; omega
  | 1, _ => simp at hb; omega
  | 2, _ => simp at hb; omega
  | 3, _ => simp at hb; omega
set_option maxRecDepth 100000 in
/-- A text with these five numbers is that address's, or none's. -/
theorem reads_of {s : List Int} {a b c d e : Int} (h : nums s = some [a, b, c, d, e]) (hne : addrI (a * 16777216 + b * 65536 + c * 256 + d) e ≠ s) : Reads s 0 0 false := by
  refine .inr ⟨rfl, rfl, rfl, ?_⟩
  intro h' p' k f
  have o := (addrOk_iff h' p').1 k
  have f' := f
  unfold addrI at f
  rw [if_pos k] at f
  have e2 := nums_addrT h'.toNat p'.toNat (by omega) (by omega)
  rw [f, h] at e2
  simp only [Option.some.injEq, List.cons.injEq, and_true] at e2
  apply hne
  rw [← f']
  congr 1 <;> omega
set_option maxRecDepth 100000 in
theorem reads_yes {s : List Int} {h p : Int} (hs : nums s ≠ none) (e : addrI h p = s) : Reads s h p true := by
  refine .inl ⟨rfl, ?_, e⟩
  cases k : addrOk h p with
  | true => rfl
  | false =>
    exfalso
    unfold addrI at e
    rw [if_neg (by rw [k]; simp)] at e
    rw [← e] at hs
    exact hs nums_nil
end Go.Proofs.YtpgapjdejelajaaDoor.AddrP

/-
  How impl reads the numbers of an address's text, as plain functions: whatever the text is, five numbers come; of an address's text they are its parts.
-/
import Derived.Test.YticfgbfchpnpoaaDoorAddrP
namespace Go.Proofs.YticfgbfchpnpoaaDoor.AddrN
open Go.RowKit Go.Proofs.YticfgbfchpnpoaaDoor.Mem Go.Proofs.YticfgbfchpnpoaaDoor.AddrP

/-- One byte of the text: the numbers so far, and which of them is the last. -/
def nst (t : List Int × Nat) (c : Int) : Option (List Int × Nat) :=
  if 48 ≤ c ∧ c ≤ 57 then some (t.1.set t.2 (t.1.getD t.2 0 * 10 + (c - 48)), t.2)
  else if t.2 = 4 then none else some (t.1, t.2 + 1)
def nsts : List Int × Nat → List Int → Option (List Int × Nat)
  | t, [] => some t
  | t, c :: r => match nst t c with
    | none => none
    | some u => nsts u r
theorem nsts_append (t : List Int × Nat) (a b : List Int) : nsts t (a ++ b) = match nsts t a with | none => none | some u => nsts u b := by
  induction a generalizing t with
  | nil => rfl
  | cons c r ih =>
    show (match nst t c with | none => none | some u => nsts u (r ++ b)) = (match (match nst t c with | none => none | some u => nsts u r) with | none => none | some u => nsts u b)
    cases nst t c with
    | none => rfl
    | some u => exact ih u
theorem nst_digit (x : List Int) (i : Nat) (c : Int) (h : 48 ≤ c ∧ c ≤ 57) : nst (x, i) c = some (x.set i (x.getD i 0 * 10 + (c - 48)), i) := by unfold nst; rw [if_pos h]
theorem nst_mark (x : List Int) (i : Nat) (c : Int) (h : ¬ (48 ≤ c ∧ c ≤ 57)) (h4 : i ≠ 4) : nst (x, i) c = some (x, i + 1) := by unfold nst; rw [if_neg h, if_neg h4]
theorem nst_end (x : List Int) (c : Int) (h : ¬ (48 ≤ c ∧ c ≤ 57)) : nst (x, 4) c = none := by unfold nst; rw [if_neg h, if_pos rfl]
theorem getD_set (x : List Int) (i : Nat) (v : Int) (h : i < x.length) : (x.set i v).getD i 0 = v := by simp [List.getD, h]
theorem nsts_digs (x : List Int) (i : Nat) (hi : i < x.length) (hx : x.getD i 0 = 0) (n : Nat) : nsts (x, i) (digs n) = some (x.set i (n : Int), i) := by
  induction n using Nat.strongRecOn with
  | ind n ih =>
    by_cases h0 : n = 0
    · subst h0
      rw [digs_zero]
      have e : x.set i ((0 : Nat) : Int) = x := by
        apply List.ext_getElem?
        intro j
        rw [List.getElem?_set]
        split
        · rename_i h; subst h; simp only [List.getD] at hx; simp [hi] at hx ⊢; exact hx.symm
        · rfl
      rw [e]; rfl
    · rw [digs_pos n (by omega), nsts_append, ih (n / 10) (by omega)]
      show (match nst (x.set i ((n / 10 : Nat) : Int), i) _ with | none => none | some u => nsts u []) = _
      rw [nst_digit _ _ _ (by omega), getD_set x i _ hi, List.set_set]
      show some _ = some _
      congr 3
      omega
theorem nsts_dec (x : List Int) (i : Nat) (hi : i < x.length) (hx : x.getD i 0 = 0) (n : Nat) : nsts (x, i) (dec n) = some (x.set i (n : Int), i) := by
  by_cases h0 : n = 0
  · subst h0
    rw [dec_zero]
    show (match nst (x, i) 48 with | none => none | some u => nsts u []) = _
    rw [nst_digit _ _ _ (by omega), hx]
    rfl
  · rw [dec_pos n (by omega)]; exact nsts_digs x i hi hx n
theorem nsts_sep (x : List Int) (i : Nat) (c : Int) (r : List Int) (h : c = 46 ∨ c = 58) (h4 : i ≠ 4) : nsts (x, i) (c :: r) = nsts (x, i + 1) r := by
  show (match nst (x, i) c with | none => none | some u => nsts u r) = _
  rw [nst_mark x i c (by omega) h4]
def zero5 : List Int := [0, 0, 0, 0, 0]
theorem nsts_addrT (h p : Nat) : nsts (zero5, 0) (addrT h p) = some ([((h / 16777216 : Nat) : Int), ((h / 65536 % 256 : Nat) : Int), ((h / 256 % 256 : Nat) : Int), ((h % 256 : Nat) : Int), (p : Int)], 4) := by
  unfold addrT zero5
  simp only [List.append_assoc]
  rw [nsts_append, nsts_dec _ _ (by simp) rfl]
  simp only [List.singleton_append]
  rw [nsts_sep _ _ _ _ (.inl rfl) (by omega), nsts_append, nsts_dec _ _ (by simp) rfl]
  simp only []
  rw [nsts_sep _ _ _ _ (.inl rfl) (by omega), nsts_append, nsts_dec _ _ (by simp) rfl]
  simp only []
  rw [nsts_sep _ _ _ _ (.inl rfl) (by omega), nsts_append, nsts_dec _ _ (by simp) rfl]
  simp only []
  rw [nsts_sep _ _ _ _ (.inr rfl) (by omega), nsts_dec _ _ (by simp) rfl]
  rfl
/-- What is read only grows. -/
theorem nst_mono (t u : List Int × Nat) (c : Int) (h : ∀ i, 0 ≤ t.1.getD i 0) (e : nst t c = some u) : ∀ i, t.1.getD i 0 ≤ u.1.getD i 0 := by
  intro i
  unfold nst at e
  split at e
  · rename_i hc
    obtain rfl := Option.some.inj e
    have h2 := h t.2
    simp only [List.getD, List.getElem?_set]
    by_cases hi : t.2 = i
    · subst hi
      rw [if_pos rfl]
      split
      · simp only [List.getD] at h2; simp only [Option.getD_some]; omega
      · rename_i hl; rw [List.getElem?_eq_none (by omega)]; simp
    · rw [if_neg hi]; exact Int.le_refl _
  · split at e
    · cases e
    · obtain rfl := Option.some.inj e; exact Int.le_refl _
theorem nsts_mono (r : List Int) : ∀ t u : List Int × Nat, (∀ i, 0 ≤ t.1.getD i 0) → nsts t r = some u → ∀ i, t.1.getD i 0 ≤ u.1.getD i 0 := by
  induction r with
  | nil => intro t u _ e i; obtain rfl := Option.some.inj e; exact Int.le_refl _
  | cons c r ih =>
    intro t u h e i
    have e' : (match nst t c with | none => none | some v => nsts v r) = some u := e
    cases hs : nst t c with
    | none => rw [hs] at e'; cases e'
    | some v =>
      rw [hs] at e'
      have h1 := nst_mono t v c h hs
      exact Int.le_trans (h1 i) (ih v u (fun j => Int.le_trans (h j) (h1 j)) e' i)
/-- An address's text. -/
def IsText (b : List Int) (h p : Int) : Prop := addrOk h p = true ∧ addrI h p = b
theorem IsText.all {b : List Int} {h p : Int} (t : IsText b h p) : ∃ x : List Int, nsts (zero5, 0) b = some (x, 4) ∧ x = [h / 16777216, h / 65536 % 256, h / 256 % 256, h % 256, p] ∧ ∀ i, x.getD i 0 ≤ 65535 := by
  obtain ⟨k, rfl⟩ := t
  have a := (addrOk_iff h p).1 k
  unfold addrI
  rw [if_pos k, nsts_addrT]
  refine ⟨_, rfl, ?_, ?_⟩
  · simp only [List.cons.injEq, and_true]
    omega
  · intro i
    match i with
    | 0 => simp; omega
    | 1 => simp; omega
    | 2 => simp; omega
    | 3 => simp; omega
    | 4 => simp; omega
    | n + 5 => simp
theorem IsText.ascii {b : List Int} {h p : Int} (t : IsText b h p) (z : Int) (hz : z ∈ b) : 46 ≤ z ∧ z ≤ 58 := by
  obtain ⟨k, rfl⟩ := t
  unfold addrI at hz
  rw [if_pos k] at hz
  unfold addrT at hz
  simp only [List.mem_append, List.mem_singleton] at hz
  have d (n : Nat) (y : Int) (hy : y ∈ dec n) : 46 ≤ y ∧ y ≤ 58 := by have := dec_digits n y hy; omega
  rcases hz with (((((((hz | hz) | hz) | hz) | hz) | hz) | hz) | hz) | hz
  · exact d _ z hz
  · omega
  · exact d _ z hz
  · omega
  · exact d _ z hz
  · omega
  · exact d _ z hz
  · omega
  · exact d _ z hz
/-- Where the text is an address's, what was read of its first k bytes is this. -/
def Track (b : List Int) (k : Nat) (x : List Int) (last : Nat) : Prop := (b = [] → x = zero5) ∧ ∀ h p, IsText b h p → nsts (zero5, 0) (b.take k) = some (x, last)
theorem track_start (b : List Int) : Track b 0 zero5 0 := ⟨fun _ => rfl, fun _ _ _ => rfl⟩
theorem ne_of_lt {b : List Int} {k : Nat} (hk : k < b.length) {x y : List Int} (e : b = []) : x = y := by subst e; exact absurd hk (by simp)
theorem zero5_nonneg : ∀ i, 0 ≤ zero5.getD i 0 := by
  intro i
  unfold zero5
  match i with
  | 0 => simp
  | 1 => simp
  | 2 => simp
  | 3 => simp
  | 4 => simp
  | n + 5 => simp
theorem track_byte {b : List Int} {k : Nat} {x : List Int} {last : Nat} (t : Track b k x last) (hk : k < b.length) {h p : Int} (ht : IsText b h p) :
    ∃ u, nst (x, last) (b.getD k 0) = some u ∧ nsts (zero5, 0) (b.take (k + 1)) = some u ∧ (∀ i, 0 ≤ x.getD i 0) ∧ ∀ i, u.1.getD i 0 ≤ 65535 := by
  have e := t.2 h p ht
  obtain ⟨y, hy, _, hb⟩ := ht.all
  have e2 : b.getD k 0 = b[k] := by simp [List.getD, hk]
  have e3 : nsts (zero5, 0) (b.take (k + 1)) = nst (x, last) (b.getD k 0) := by
    rw [List.take_succ_eq_append_getElem hk, nsts_append, e, e2]
    show (match nst (x, last) b[k] with | none => none | some u => nsts u []) = _
    cases nst (x, last) b[k] <;> rfl
  have nn : ∀ i, 0 ≤ x.getD i 0 := fun i => Int.le_trans (zero5_nonneg i) (nsts_mono _ (zero5, 0) (x, last) zero5_nonneg e i)
  rw [← List.take_append_drop (k + 1) b, nsts_append, e3] at hy
  cases hs : nst (x, last) (b.getD k 0) with
  | none => rw [hs] at hy; cases hy
  | some u =>
    rw [hs] at hy e3
    have n2 : ∀ i, 0 ≤ u.1.getD i 0 := fun i => Int.le_trans (nn i) (nst_mono (x, last) u _ nn hs i)
    exact ⟨u, rfl, e3, nn, fun i => Int.le_trans (nsts_mono _ u (y, 4) n2 hy i) (hb i)⟩
theorem track_digit {b : List Int} {k : Nat} {x : List Int} {last : Nat} (t : Track b k x last) (hk : k < b.length) (hd : 48 ≤ b.getD k 0 ∧ b.getD k 0 ≤ 57) (v : Int)
    (hv : 0 ≤ x.getD last 0 → x.getD last 0 ≤ 65535 → v = x.getD last 0 * 10 + (b.getD k 0 - 48)) : Track b (k + 1) (x.set last v) last := by
  refine ⟨ne_of_lt hk, ?_⟩
  intro h p ht
  obtain ⟨u, h1, h2, h3, h4⟩ := track_byte t hk ht
  have h5 := nst_mono (x, last) u _ h3 h1 last
  have h6 := h4 last
  rw [nst_digit _ _ _ hd] at h1
  obtain rfl := Option.some.inj h1
  rw [h2, hv (h3 last) (by simp only at h5 h6; omega)]
theorem track_mark {b : List Int} {k : Nat} {x : List Int} {last : Nat} (t : Track b k x last) (hk : k < b.length) (hd : ¬ (48 ≤ b.getD k 0 ∧ b.getD k 0 ≤ 57)) (h4 : last ≠ 4) : Track b (k + 1) x (last + 1) := by
  refine ⟨ne_of_lt hk, ?_⟩
  intro h p ht
  obtain ⟨u, h1, h2, _, _⟩ := track_byte t hk ht
  rw [nst_mark _ _ _ hd h4] at h1
  obtain rfl := Option.some.inj h1
  exact h2
/-- The text is no address's: it goes on with a mark too many, or with what is no ASCII. -/
theorem track_no {b : List Int} {k : Nat} {x : List Int} (t : Track b k x 4) (hk : k < b.length) (hd : ¬ (48 ≤ b.getD k 0 ∧ b.getD k 0 ≤ 57)) (h p : Int) : ¬ IsText b h p := by
  intro ht
  obtain ⟨u, h1, _⟩ := track_byte t hk ht
  rw [nst_end _ _ hd] at h1
  cases h1
theorem high_no {b : List Int} {k : Nat} (hk : k < b.length) (hd : 128 ≤ b.getD k 0) (h p : Int) : ¬ IsText b h p := by
  intro ht
  have e2 : b.getD k 0 = b[k] := by simp [List.getD, hk]
  have := ht.ascii b[k] (List.getElem_mem hk)
  omega
/-- What the numbers are. -/
def Parts (b : List Int) (x : List Int) : Prop := (b = [] → x = zero5) ∧ ∀ h p, IsText b h p → x = [h / 16777216, h / 65536 % 256, h / 256 % 256, h % 256, p]
theorem parts_no {b : List Int} {k : Nat} (hk : k < b.length) (n : ∀ h p, ¬ IsText b h p) (x : List Int) : Parts b x := ⟨ne_of_lt hk, fun h p t => absurd t (n h p)⟩
theorem track_no' {b : List Int} {j : Nat} (hk : j < b.length) (n : ∀ h p, ¬ IsText b h p) (k : Nat) (x : List Int) (last : Nat) : Track b k x last := ⟨ne_of_lt hk, fun h p t => absurd t (n h p)⟩
theorem parts_end {b : List Int} {k : Nat} {x : List Int} {last : Nat} (t : Track b k x last) (hk : ¬ k < b.length) : Parts b x := by
  refine ⟨t.1, ?_⟩
  intro h p ht
  have e := t.2 h p ht
  rw [List.take_of_length_le (by omega)] at e
  obtain ⟨y, hy, hx, _⟩ := ht.all
  rw [e] at hy
  have := (Prod.mk.inj (Option.some.inj hy)).1
  rw [this]; exact hx
end Go.Proofs.YticfgbfchpnpoaaDoor.AddrN

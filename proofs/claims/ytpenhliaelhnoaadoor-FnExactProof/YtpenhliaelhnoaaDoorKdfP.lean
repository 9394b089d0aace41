/-
  Keys of keys, and bytes that hide, as plain functions on lists of numbers.
-/
import Derived.Test.YtpenhliaelhnoaaDoorMacP
namespace Go.Proofs.YtpenhliaelhnoaaDoor.KdfP
open Go.RowKit Go.Proofs.YtpenhliaelhnoaaDoor.Mem Go.Proofs.YtpenhliaelhnoaaDoor.App Go.Proofs.YtpenhliaelhnoaaDoor.ShaP Go.Proofs.YtpenhliaelhnoaaDoor.Ends Go.Proofs.YtpenhliaelhnoaaDoor.DiffP Go.Proofs.YtpenhliaelhnoaaDoor.MacP

/-- The i-th block: of the one ahead, info, and a byte. -/
def blk (k f : List Int) : Nat → List Int
  | 0 => []
  | i + 1 => hmacI k (blk k f i ++ f ++ [((i + 1 : Nat) : Int) % 256])
/-- The first i blocks, one behind the other. -/
def blks (k f : List Int) : Nat → List Int
  | 0 => []
  | i + 1 => blks k f i ++ blk k f (i + 1)
def mayExp (k f : List Int) (n : Int) : Bool := decide (0 ≤ n ∧ n ≤ 8160 ∧ f.length ≤ 100 ∧ k.length ≤ 1048576)
set_option maxRecDepth 100000 in
theorem mayExp_iff (k f : List Int) (n : Int) : mayExp k f n = true ↔ 0 ≤ n ∧ n ≤ 8160 ∧ f.length ≤ 100 ∧ k.length ≤ 1048576 := by simp [mayExp]
def expI (k f : List Int) (n : Int) : List Int := if mayExp k f n = true then (blks k f ((n.toNat + 31) / 32)).take n.toNat else []
def derI (k f : List Int) : List Int := expI k f 32
def rekey : List Int := [114, 101, 107, 101, 121]
def chn (k : List Int) : Nat → List Int
  | 0 => k
  | i + 1 => derI (chn k i) rekey
def chnI (k : List Int) (n : Int) : List Int := if 0 ≤ n ∧ n ≤ 64 then chn k n.toNat else []

set_option maxRecDepth 100000 in
theorem blk_le (k f : List Int) (i : Nat) : (blk k f i).length ≤ 32 := by
  cases i with
  | zero => simp [blk]
  | succ i => unfold blk; exact hmacI_le _ _
set_option maxRecDepth 100000 in
theorem blk_len (k f : List Int) (hk : k.length ≤ 1048576) (hf : f.length ≤ 100) (i : Nat) : (blk k f (i + 1)).length = 32 := by
  unfold blk
  apply hmacI_len k _ hk
  have := blk_le k f i
  simp only [List.length_append, List.length_singleton]
  omega
set_option maxRecDepth 100000 in
theorem blk_bytes (k f : List Int) (i : Nat) : Bytes (blk k f i) := by
  cases i with
  | zero => intro z hz; cases hz
  | succ i => unfold blk; exact hmacI_bytes _ _
set_option maxRecDepth 100000 in
theorem blks_len (k f : List Int) (hk : k.length ≤ 1048576) (hf : f.length ≤ 100) (i : Nat) : (blks k f i).length = 32 * i := by
  induction i with
  | zero => rfl
  | succ i ih => unfold blks; rw [List.length_append, ih, blk_len k f hk hf]; omega
set_option maxRecDepth 100000 in
theorem blks_bytes (k f : List Int) (i : Nat) : Bytes (blks k f i) := by
  induction i with
  | zero => intro z hz; cases hz
  | succ i ih => unfold blks; exact bytes_append ih (blk_bytes k f (i + 1))
set_option maxRecDepth 100000 in
theorem blks_take (k f : List Int) (i j : Nat) (h : i ≤ j) : ∃ r, blks k f j = blks k f i ++ r := by
  induction j with
  | zero => obtain rfl : i = 0 := by omega
            exact ⟨[], rfl⟩
  | succ j ih =>
    by_cases e : i = j + 1
    · subst e; exact ⟨[], by simp⟩
    · obtain ⟨r, hr⟩ := ih (by omega)
      exact ⟨r ++ blk k f (j + 1), by rw [← List.append_assoc, ← hr]; rfl⟩
set_option maxRecDepth 100000 in
theorem expI_no (k f : List Int) (n : Int) (h : mayExp k f n = false) : expI k f n = [] := by unfold expI; rw [if_neg (by rw [h]; simp)]
set_option maxRecDepth 100000 in
theorem expI_yes (k f : List Int) (n : Int) (h : mayExp k f n = true) : expI k f n = (blks k f ((n.toNat + 31) / 32)).take n.toNat := by unfold expI; rw [if_pos h]
set_option maxRecDepth 100000 in
theorem expI_len (k f : List Int) (n : Nat) (h : mayExp k f (n : Int) = true) : (expI k f (n : Int)).length = n := by
  obtain ⟨h0, h1, h2, h3⟩ := (mayExp_iff k f n).1 h
  rw [expI_yes k f _ h, List.length_take, blks_len k f h3 h2, Int.toNat_natCast]
  omega
set_option maxRecDepth 100000 in
theorem expI_le (k f : List Int) (n : Int) : (expI k f n).length ≤ 8160 := by
  cases h : mayExp k f n with
  | false => rw [expI_no k f n h]; simp
  | true =>
    obtain ⟨h0, h1, h2, h3⟩ := (mayExp_iff k f n).1 h
    obtain ⟨m, rfl⟩ := Int.eq_ofNat_of_zero_le h0
    rw [expI_len k f m h]; omega
set_option maxRecDepth 100000 in
theorem expI_bytes (k f : List Int) (n : Int) : Bytes (expI k f n) := by
  unfold expI; split
  · intro z hz; exact blks_bytes k f _ z (List.mem_of_mem_take hz)
  · intro z hz; cases hz
set_option maxRecDepth 100000 in
theorem derI_le (k f : List Int) : (derI k f).length ≤ 32 := by
  unfold derI
  cases h : mayExp k f 32 with
  | false => rw [expI_no k f _ h]; simp
  | true => rw [show (32 : Int) = ((32 : Nat) : Int) from rfl, expI_len k f 32 h]; exact Nat.le_refl _
set_option maxRecDepth 100000 in
theorem derI_bytes (k f : List Int) : Bytes (derI k f) := expI_bytes k f 32
set_option maxRecDepth 100000 in
theorem chn_bytes (k : List Int) (h : Bytes k) (i : Nat) : Bytes (chn k i) := by
  cases i with
  | zero => exact h
  | succ i => exact derI_bytes _ _
set_option maxRecDepth 100000 in
theorem chn_le (k : List Int) (i : Nat) : (chn k i).length ≤ k.length + 32 := by
  cases i with
  | zero => simp [chn]
  | succ i => have := derI_le (chn k i) rekey; unfold chn; omega
set_option maxRecDepth 100000 in
theorem chnI_le (k : List Int) (n : Int) : (chnI k n).length ≤ k.length + 32 := by
  unfold chnI; split
  · exact chn_le _ _
  · simp
set_option maxRecDepth 100000 in
theorem chnI_most (k : List Int) (n : Int) : (chnI k n).length ≤ max k.length 32 := by
  unfold chnI; split
  · cases n.toNat with
    | zero => show k.length ≤ _; omega
    | succ i => have := derI_le (chn k i) rekey; show (derI (chn k i) rekey).length ≤ _; omega
  · simp
set_option maxRecDepth 100000 in
/-- More bytes begin with fewer. -/
theorem expI_more (k f : List Int) (n m : Nat) (h : n ≤ m) (hm : mayExp k f (m : Int) = true) : (expI k f (m : Int)).take n = expI k f (n : Int) := by
  obtain ⟨h0, h1, h2, h3⟩ := (mayExp_iff k f m).1 hm
  have hn : mayExp k f (n : Int) = true := (mayExp_iff k f n).2 ⟨by omega, by omega, h2, h3⟩
  rw [expI_yes k f _ hm, expI_yes k f _ hn, Int.toNat_natCast, Int.toNat_natCast, List.take_take, Nat.min_eq_left h]
  obtain ⟨r, hr⟩ := blks_take k f ((n + 31) / 32) ((m + 31) / 32) (by omega)
  rw [hr, List.take_append_of_le_length (by rw [blks_len k f h3 h2]; omega)]
set_option maxRecDepth 100000 in
theorem chn_add (k : List Int) (i j : Nat) : chn (chn k i) j = chn k (i + j) := by
  induction j with
  | zero => rfl
  | succ j ih => show derI (chn (chn k i) j) rekey = _; rw [ih]; rfl

/-- The i-th block of a stream. -/
def sblk (k h : List Int) (i : Nat) : List Int := hmacI k (115 :: h ++ num (i : Int) 4)
def sblks (k h : List Int) : Nat → List Int
  | 0 => []
  | i + 1 => sblks k h i ++ sblk k h i
def blockI (k h : List Int) (i : Int) : List Int := if 0 ≤ i ∧ i ≤ 6 ∧ h.length ≤ 100 then sblk k h i.toNat else []
def mayStr (k h : List Int) (n : Int) : Bool := decide (0 ≤ n ∧ n ≤ 200 ∧ h.length ≤ 100 ∧ k.length ≤ 1048576)
set_option maxRecDepth 100000 in
theorem mayStr_iff (k h : List Int) (n : Int) : mayStr k h n = true ↔ 0 ≤ n ∧ n ≤ 200 ∧ h.length ≤ 100 ∧ k.length ≤ 1048576 := by simp [mayStr]
def strI (k h : List Int) (n : Int) : List Int := if mayStr k h n = true then (sblks k h ((n.toNat + 31) / 32)).take n.toNat else []
def xors (a b : List Int) : List Int := List.zipWith (fun x y => bits .xor .u8 x y) a b
def mixI (k h b : List Int) : List Int := if mayStr k h (b.length : Int) = true then xors b (strI k h (b.length : Int)) else []
set_option maxRecDepth 100000 in
theorem sblk_le (k h : List Int) (i : Nat) : (sblk k h i).length ≤ 32 := hmacI_le _ _
set_option maxRecDepth 100000 in
theorem sblk_len (k h : List Int) (hk : k.length ≤ 1048576) (hh : h.length ≤ 100) (i : Nat) : (sblk k h i).length = 32 := by
  unfold sblk
  apply hmacI_len k _ hk
  simp only [List.length_append, List.length_cons, num_length]
  omega
set_option maxRecDepth 100000 in
theorem sblks_len (k h : List Int) (hk : k.length ≤ 1048576) (hh : h.length ≤ 100) (i : Nat) : (sblks k h i).length = 32 * i := by
  induction i with
  | zero => rfl
  | succ i ih => unfold sblks; rw [List.length_append, ih, sblk_len k h hk hh]; omega
set_option maxRecDepth 100000 in
theorem sblks_bytes (k h : List Int) (i : Nat) : Bytes (sblks k h i) := by
  induction i with
  | zero => intro z hz; cases hz
  | succ i ih => unfold sblks; exact bytes_append ih (hmacI_bytes _ _)
set_option maxRecDepth 100000 in
theorem sblks_take (k h : List Int) (i j : Nat) (hij : i ≤ j) : ∃ r, sblks k h j = sblks k h i ++ r := by
  induction j with
  | zero => obtain rfl : i = 0 := by omega
            exact ⟨[], rfl⟩
  | succ j ih =>
    by_cases e : i = j + 1
    · subst e; exact ⟨[], by simp⟩
    · obtain ⟨r, hr⟩ := ih (by omega)
      exact ⟨r ++ sblk k h j, by rw [← List.append_assoc, ← hr]; rfl⟩
set_option maxRecDepth 100000 in
theorem strI_no (k h : List Int) (n : Int) (e : mayStr k h n = false) : strI k h n = [] := by unfold strI; rw [if_neg (by rw [e]; simp)]
set_option maxRecDepth 100000 in
theorem strI_yes (k h : List Int) (n : Int) (e : mayStr k h n = true) : strI k h n = (sblks k h ((n.toNat + 31) / 32)).take n.toNat := by unfold strI; rw [if_pos e]
set_option maxRecDepth 100000 in
theorem strI_len (k h : List Int) (n : Nat) (e : mayStr k h (n : Int) = true) : (strI k h (n : Int)).length = n := by
  obtain ⟨h0, h1, h2, h3⟩ := (mayStr_iff k h n).1 e
  rw [strI_yes k h _ e, List.length_take, sblks_len k h h3 h2, Int.toNat_natCast]
  omega
set_option maxRecDepth 100000 in
theorem strI_le (k h : List Int) (n : Int) : (strI k h n).length ≤ 200 := by
  cases e : mayStr k h n with
  | false => rw [strI_no k h n e]; simp
  | true =>
    obtain ⟨h0, h1, h2, h3⟩ := (mayStr_iff k h n).1 e
    obtain ⟨m, rfl⟩ := Int.eq_ofNat_of_zero_le h0
    rw [strI_len k h m e]; omega
set_option maxRecDepth 100000 in
theorem strI_bytes (k h : List Int) (n : Int) : Bytes (strI k h n) := by
  unfold strI; split
  · intro z hz; exact sblks_bytes k h _ z (List.mem_of_mem_take hz)
  · intro z hz; cases hz
set_option maxRecDepth 100000 in
theorem blockI_le (k h : List Int) (i : Int) : (blockI k h i).length ≤ 32 := by
  unfold blockI; split
  · exact sblk_le _ _ _
  · simp
set_option maxRecDepth 100000 in
theorem blockI_bytes (k h : List Int) (i : Int) : Bytes (blockI k h i) := by
  unfold blockI; split
  · exact hmacI_bytes _ _
  · intro z hz; cases hz
set_option maxRecDepth 100000 in
theorem xors_length (a b : List Int) : (xors a b).length = min a.length b.length := by simp [xors]
set_option maxRecDepth 100000 in
theorem xors_bytes {a b : List Int} (ha : Bytes a) (hb : Bytes b) : Bytes (xors a b) := by
  intro z hz
  unfold xors at hz
  rw [List.mem_iff_getElem] at hz
  obtain ⟨i, hi, rfl⟩ := hz
  rw [List.getElem_zipWith]
  have hi' : i < a.length ∧ i < b.length := by simp at hi; omega
  have h1 := ha _ (List.getElem_mem hi'.1)
  have h2 := hb _ (List.getElem_mem hi'.2)
  exact xor_byte _ _ h1.1 h1.2 h2.1 h2.2
set_option maxRecDepth 100000 in
theorem mixI_le (k h b : List Int) : (mixI k h b).length ≤ 200 := by
  unfold mixI; split
  · rw [xors_length]; have := strI_le k h (b.length : Int); omega
  · simp
set_option maxRecDepth 100000 in
/-- More bytes of a stream begin with fewer. -/
theorem strI_more (k h : List Int) (n m : Nat) (hnm : n ≤ m) (hm : mayStr k h (m : Int) = true) : (strI k h (m : Int)).take n = strI k h (n : Int) := by
  obtain ⟨h0, h1, h2, h3⟩ := (mayStr_iff k h m).1 hm
  have hn : mayStr k h (n : Int) = true := (mayStr_iff k h n).2 ⟨by omega, by omega, h2, h3⟩
  rw [strI_yes k h _ hm, strI_yes k h _ hn, Int.toNat_natCast, Int.toNat_natCast, List.take_take, Nat.min_eq_left hnm]
  obtain ⟨r, hr⟩ := sblks_take k h ((n + 31) / 32) ((m + 31) / 32) (by omega)
  rw [hr, List.take_append_of_le_length (by rw [sblks_len k h h3 h2]; omega)]
set_option maxRecDepth 100000 in
theorem xor_twice (x y : Int) (h1 : 0 ≤ x) (h2 : x ≤ 255) (h3 : 0 ≤ y) (h4 : y ≤ 255) : bits .xor .u8 (bits .xor .u8 x y) y = x := by
  have hx := xor_byte x y h1 h2 h3 h4
  rw [u8_xor _ y hx.1 (by omega) h3 (by omega), u8_xor x y h1 (by omega) h3 (by omega), Int.toNat_natCast, Nat.xor_assoc, Nat.xor_self, Nat.xor_zero]
  omega
set_option maxRecDepth 100000 in
theorem xors_at (a b : List Int) (i : Nat) (h1 : i < a.length) (h2 : i < b.length) : (xors a b)[i]? = some (bits .xor .u8 a[i] b[i]) := by
  unfold xors
  rw [List.getElem?_zipWith, List.getElem?_eq_getElem h1, List.getElem?_eq_getElem h2]
set_option maxRecDepth 100000 in
theorem xors_twice (a b : List Int) (ha : Bytes a) (hb : Bytes b) (hl : a.length = b.length) : xors (xors a b) b = a := by
  apply List.ext_getElem?
  intro i
  by_cases h : i < a.length
  · have hx : i < (xors a b).length := by rw [xors_length]; omega
    have e := xors_at a b i h (by omega)
    rw [List.getElem?_eq_getElem hx, Option.some.injEq] at e
    rw [xors_at (xors a b) b i hx (by omega), e, List.getElem?_eq_getElem h]
    have p := ha _ (List.getElem_mem h)
    have q := hb _ (List.getElem_mem (by omega : i < b.length))
    rw [xor_twice _ _ p.1 p.2 q.1 q.2]
  · rw [List.getElem?_eq_none (by rw [xors_length, xors_length]; omega), List.getElem?_eq_none (by omega)]
set_option maxRecDepth 100000 in
theorem mixI_of (k h b : List Int) (e : mayStr k h (b.length : Int) = true) : mixI k h b = xors b (strI k h (b.length : Int)) := by unfold mixI; rw [if_pos e]
set_option maxRecDepth 100000 in
theorem mixI_no (k h b : List Int) (e : mayStr k h (b.length : Int) = false) : mixI k h b = [] := by unfold mixI; rw [if_neg (by rw [e]; simp)]
set_option maxRecDepth 100000 in
theorem mixI_len (k h b : List Int) (e : mayStr k h (b.length : Int) = true) : (mixI k h b).length = b.length := by rw [mixI_of k h b e, xors_length, strI_len k h _ e, Nat.min_self]
set_option maxRecDepth 100000 in
theorem mixI_twice (k h b : List Int) (hb : Bytes b) (e : mayStr k h (b.length : Int) = true) : mixI k h (mixI k h b) = b := by
  have l1 := mixI_len k h b e
  rw [mixI_of k h (mixI k h b) (by rw [l1]; exact e), l1, mixI_of k h b e]
  exact xors_twice b _ hb (strI_bytes k h _) (by rw [strI_len k h _ e])
end Go.Proofs.YtpenhliaelhnoaaDoor.KdfP

/-
  How two lists of bytes differ, as a plain function.
-/
import Derived.Test.YtpenhliaelhnoaaDoorMem
import Derived.Test.YtpenhliaelhnoaaDoorBits
import Derived.Laws.BitsAllLaws
namespace Go.Proofs.YtpenhliaelhnoaaDoor.DiffP
open Go.RowKit Go.Proofs.YtpenhliaelhnoaaDoor.Mem

set_option maxRecDepth 100000 in
theorem xor_byte (a b : Int) (h1 : 0 ≤ a) (h2 : a ≤ 255) (h3 : 0 ≤ b) (h4 : b ≤ 255) : 0 ≤ bits .xor .u8 a b ∧ bits .xor .u8 a b ≤ 255 := by
  rw [u8_xor a b h1 (by omega) h3 (by omega)]
  have : a.toNat ^^^ b.toNat < 2 ^ 8 := Nat.xor_lt_two_pow (by omega) (by omega)
  omega
/-- What is turned in the first n places, all in one. -/
def diffN (a b : List Int) : Nat → Int
  | 0 => 0
  | n + 1 => bits .or .u8 (diffN a b n) (bits .xor .u8 (a.getD n 0) (b.getD n 0))
def diffI (a b : List Int) : Int := if a.length = b.length then diffN a b a.length else -1

set_option maxRecDepth 100000 in
theorem diffN_bd (a b : List Int) (ha : Bytes a) (hb : Bytes b) (n : Nat) : 0 ≤ diffN a b n ∧ diffN a b n ≤ 255 := by
  induction n with
  | zero => simp [diffN]
  | succ n ih =>
    have hx := xor_byte (a.getD n 0) (b.getD n 0) (ha.at n).1 (ha.at n).2 (hb.at n).1 (hb.at n).2
    unfold diffN
    rw [u8_or _ _ ih.1 (by omega) hx.1 (by omega)]
    have : (diffN a b n).toNat ||| (bits .xor .u8 (a.getD n 0) (b.getD n 0)).toNat < 2 ^ 8 := Nat.or_lt_two_pow (by omega) (by omega)
    omega
set_option maxRecDepth 100000 in
theorem or_wide (x y : Int) (h1 : 0 ≤ x) (h2 : x ≤ 255) (h3 : 0 ≤ y) (h4 : y ≤ 255) : bits .or .i64 x y = bits .or .u8 x y := by
  rw [u8_or x y h1 (by omega) h3 (by omega)]
  have := Bits.or_i64 x.toNat y.toNat (by omega) (by omega)
  rw [Int.toNat_of_nonneg h1, Int.toNat_of_nonneg h3] at this
  exact this
set_option maxRecDepth 100000 in
theorem xor_zero_iff (a b : Int) (h1 : 0 ≤ a) (h2 : a ≤ 255) (h3 : 0 ≤ b) (h4 : b ≤ 255) : bits .xor .u8 a b = 0 ↔ a = b := by
  rw [u8_xor a b h1 (by omega) h3 (by omega)]
  constructor
  · intro h
    have : a.toNat ^^^ b.toNat = 0 := by omega
    have h2 := congrArg (fun x => a.toNat ^^^ x) this
    simp only [← Nat.xor_assoc, Nat.xor_self, Nat.zero_xor, Nat.xor_zero] at h2
    omega
  · rintro rfl; simp
set_option maxRecDepth 100000 in
theorem or_zero_iff (a b : Int) (h1 : 0 ≤ a) (h2 : a ≤ 255) (h3 : 0 ≤ b) (h4 : b ≤ 255) : bits .or .u8 a b = 0 ↔ a = 0 ∧ b = 0 := by
  rw [u8_or a b h1 (by omega) h3 (by omega)]
  constructor
  · intro h
    have : a.toNat ||| b.toNat = 0 := by omega
    rw [Nat.or_eq_zero_iff] at this
    omega
  · rintro ⟨rfl, rfl⟩; simp
set_option maxRecDepth 100000 in
theorem diffN_zero (a b : List Int) (ha : Bytes a) (hb : Bytes b) (n : Nat) : diffN a b n = 0 ↔ ∀ i, i < n → a.getD i 0 = b.getD i 0 := by
  induction n with
  | zero => simp [diffN]
  | succ n ih =>
    have hx := xor_byte (a.getD n 0) (b.getD n 0) (ha.at n).1 (ha.at n).2 (hb.at n).1 (hb.at n).2
    have hd := diffN_bd a b ha hb n
    unfold diffN
    rw [or_zero_iff _ _ hd.1 hd.2 hx.1 hx.2, ih, xor_zero_iff _ _ (ha.at n).1 (ha.at n).2 (hb.at n).1 (hb.at n).2]
    constructor
    · rintro ⟨h, k⟩ i hi
      rcases Nat.lt_or_ge i n with h' | h'
      · exact h i h'
      · obtain rfl : i = n := by omega
        exact k
    · intro h; exact ⟨fun i hi => h i (by omega), h n (by omega)⟩
set_option maxRecDepth 100000 in
theorem list_eq_of {a b : List Int} (hl : a.length = b.length) (h : ∀ i, i < a.length → a.getD i 0 = b.getD i 0) : a = b := by
  apply List.ext_getElem hl
  intro i h1 h2
  have := h i h1
  simpa [List.getD, h1, h2] using this
set_option maxRecDepth 100000 in
theorem diffI_zero (a b : List Int) (ha : Bytes a) (hb : Bytes b) : diffI a b = 0 ↔ a = b := by
  unfold diffI
  by_cases h : a.length = b.length
  · rw [if_pos h, diffN_zero a b ha hb]
    exact ⟨fun k => list_eq_of h k, fun k i _ => by rw [k]⟩
  · rw [if_neg h]
    exact ⟨fun k => by omega, fun k => absurd (by rw [k]) h⟩
set_option maxRecDepth 100000 in
theorem diffI_bd (a b : List Int) (ha : Bytes a) (hb : Bytes b) : -1 ≤ diffI a b ∧ diffI a b ≤ 255 := by
  unfold diffI; split
  · have := diffN_bd a b ha hb a.length; omega
  · omega
set_option maxRecDepth 100000 in
theorem diffI_less (a b : List Int) (ha : Bytes a) (hb : Bytes b) : diffI a b = -1 ↔ a.length ≠ b.length := by
  unfold diffI; split
  · have := diffN_bd a b ha hb a.length
    constructor
    · intro h; omega
    · intro h; contradiction
  · simpa using by assumption
set_option maxRecDepth 100000 in
theorem bits_xor_comm (a b : Int) (h1 : 0 ≤ a) (h2 : a ≤ 255) (h3 : 0 ≤ b) (h4 : b ≤ 255) : bits .xor .u8 a b = bits .xor .u8 b a := by
  rw [u8_xor a b h1 (by omega) h3 (by omega), u8_xor b a h3 (by omega) h1 (by omega), Nat.xor_comm]
set_option maxRecDepth 100000 in
theorem diffN_comm (a b : List Int) (ha : Bytes a) (hb : Bytes b) (n : Nat) : diffN a b n = diffN b a n := by
  induction n with
  | zero => rfl
  | succ n ih => unfold diffN; rw [ih, bits_xor_comm _ _ (ha.at n).1 (ha.at n).2 (hb.at n).1 (hb.at n).2]
set_option maxRecDepth 100000 in
theorem diffI_comm (a b : List Int) (ha : Bytes a) (hb : Bytes b) : diffI a b = diffI b a := by
  unfold diffI
  by_cases h : a.length = b.length
  · rw [if_pos h, if_pos h.symm, diffN_comm a b ha hb, h]
  · rw [if_neg h, if_neg (Ne.symm h)]
/-- Two tags are the same: 16 bytes, and the same ones. -/
def sameI (a b : List Int) : Bool := decide (a.length = 16 ∧ diffI a b = 0)
end Go.Proofs.YtpenhliaelhnoaaDoor.DiffP

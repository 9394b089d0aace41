/-
  Plain facts on int's bit operations: masks, joins and turns of numbers below 2 to the 32, no condition beyond the bounds that each lemma names.
-/
import Derived.WalkKit
namespace Go.Proofs.Ytadlckgaeljdkaa.Bits
open Go.RowKit (wrap64)

set_option maxRecDepth 100000 in
theorem wrap_i64_nat (m : Nat) (h : m < 9223372036854775808) : IntKind.i64.wrap (m : Int) = (m : Int) := by
  rw [IntKind.wrap_i64]; omega

set_option maxRecDepth 100000 in
theorem ofInt64_nat (a : Nat) (h : a < 18446744073709551616) : (BitVec.ofInt 64 (a : Int)).toNat = a := by
  rw [BitVec.ofInt_natCast, BitVec.toNat_ofNat]; exact Nat.mod_eq_of_lt (by omega)

set_option maxRecDepth 100000 in
theorem and_i64 (a b : Nat) (ha : a < 9223372036854775808) (hb : b < 9223372036854775808) : bits .and .i64 (a : Int) (b : Int) = ((a &&& b : Nat) : Int) := by
  have h : a &&& b < 9223372036854775808 := Nat.lt_of_le_of_lt Nat.and_le_left ha
  show IntKind.i64.wrap ((BitVec.ofInt 64 (a : Int) &&& BitVec.ofInt 64 (b : Int)).toNat : Int) = _
  rw [BitVec.toNat_and, ofInt64_nat a (by omega), ofInt64_nat b (by omega), wrap_i64_nat _ h]

set_option maxRecDepth 100000 in
theorem or_i64 (a b : Nat) (ha : a < 9223372036854775808) (hb : b < 9223372036854775808) : bits .or .i64 (a : Int) (b : Int) = ((a ||| b : Nat) : Int) := by
  have h : a ||| b < 2 ^ 63 := Nat.or_lt_two_pow (by omega) (by omega)
  show IntKind.i64.wrap ((BitVec.ofInt 64 (a : Int) ||| BitVec.ofInt 64 (b : Int)).toNat : Int) = _
  rw [BitVec.toNat_or, ofInt64_nat a (by omega), ofInt64_nat b (by omega), wrap_i64_nat _ (by omega)]

set_option maxRecDepth 100000 in
theorem xor_i64 (a b : Nat) (ha : a < 9223372036854775808) (hb : b < 9223372036854775808) : bits .xor .i64 (a : Int) (b : Int) = ((a ^^^ b : Nat) : Int) := by
  have h : a ^^^ b < 2 ^ 63 := Nat.xor_lt_two_pow (by omega) (by omega)
  show IntKind.i64.wrap ((BitVec.ofInt 64 (a : Int) ^^^ BitVec.ofInt 64 (b : Int)).toNat : Int) = _
  rw [BitVec.toNat_xor, ofInt64_nat a (by omega), ofInt64_nat b (by omega), wrap_i64_nat _ (by omega)]

set_option maxRecDepth 100000 in
theorem or_u32 (a b : Nat) (ha : a < 4294967296) (hb : b < 4294967296) : bits .or .u32 (a : Int) (b : Int) = ((a ||| b : Nat) : Int) := by
  have h : a ||| b < 2 ^ 32 := Nat.or_lt_two_pow (by omega) (by omega)
  have e : ∀ c : Nat, c < 4294967296 → (BitVec.ofInt 32 (c : Int)).toNat = c := fun c hc => by rw [BitVec.ofInt_natCast, BitVec.toNat_ofNat]; exact Nat.mod_eq_of_lt (by omega)
  show IntKind.u32.wrap ((BitVec.ofInt 32 (a : Int) ||| BitVec.ofInt 32 (b : Int)).toNat : Int) = _
  rw [BitVec.toNat_or, e a ha, e b hb, show ∀ n, IntKind.u32.wrap n = n % 4294967296 from fun n => by simp [IntKind.wrap, IntKind.bits, IntKind.signed]]
  omega

set_option maxRecDepth 100000 in
/-- A mask of the k lowest bits, of whatever int: what is left behind a division by their power. -/
theorem mask_i64 (k : Nat) (hk : k ≤ 62) (x : Int) : bits .and .i64 x ((2 ^ k - 1 : Nat) : Int) = x % ((2 ^ k : Nat) : Int) := by
  have hp : 2 ^ k ≤ 2 ^ 62 := Nat.pow_le_pow_right (by omega) hk
  have hp0 : 0 < 2 ^ k := Nat.two_pow_pos k
  have e : (2 : Nat) ^ 62 = 4611686018427387904 := by decide
  have hl : (x % 18446744073709551616).toNat % 2 ^ k < 9223372036854775808 := by
    have := Nat.mod_lt (x % 18446744073709551616).toNat hp0; omega
  show IntKind.i64.wrap ((BitVec.ofInt 64 x &&& BitVec.ofInt 64 ((2 ^ k - 1 : Nat) : Int)).toNat : Int) = _
  rw [BitVec.toNat_and, ofInt64_nat _ (by omega), Nat.and_two_pow_sub_one_eq_mod, BitVec.toNat_ofInt]
  have e2 : (((2 ^ 64 : Nat) : Int)) = 18446744073709551616 := by decide
  rw [e2, wrap_i64_nat _ hl]
  have h1 : (((x % 18446744073709551616).toNat % 2 ^ k : Nat) : Int) = (x % 18446744073709551616) % ((2 ^ k : Nat) : Int) := by
    rw [Int.natCast_emod, Int.toNat_of_nonneg (by omega)]
  rw [h1]
  refine Int.emod_emod_of_dvd x ?_
  have : (18446744073709551616 : Int) = ((2 ^ k * 2 ^ (64 - k) : Nat) : Int) := by rw [← Nat.pow_add, show k + (64 - k) = 64 by omega]; decide
  rw [this, Int.natCast_mul]
  exact Int.dvd_mul_right _ _

set_option maxRecDepth 100000 in
theorem mask32 (x : Int) : bits .and .i64 x 4294967295 = x % 4294967296 := mask_i64 32 (by omega) x
set_option maxRecDepth 100000 in
theorem mask8 (x : Int) : bits .and .i64 x 255 = x % 256 := mask_i64 8 (by omega) x
set_option maxRecDepth 100000 in
theorem mask30 (x : Int) : bits .and .i64 x 1073741823 = x % 1073741824 := mask_i64 30 (by omega) x

/-- What a word of 32 bits is, turned to the right by n of 1 to 31. -/
def rotN (x n : Nat) : Nat := x / 2 ^ n ||| x * 2 ^ (32 - n) % 4294967296
def rot (x n : Int) : Int := if 1 ≤ n ∧ n ≤ 31 then ((rotN (x % 4294967296).toNat n.toNat : Nat) : Int) else x % 4294967296

set_option maxRecDepth 100000 in
theorem rotN_lt (x n : Nat) (hx : x < 4294967296) : rotN x n < 4294967296 := by
  have h1 : x / 2 ^ n < 2 ^ 32 := Nat.lt_of_le_of_lt (Nat.div_le_self _ _) (by omega)
  have h2 : x * 2 ^ (32 - n) % 4294967296 < 2 ^ 32 := by omega
  have := Nat.or_lt_two_pow h1 h2
  unfold rotN; omega
set_option maxRecDepth 100000 in
theorem rot_bd (x n : Int) : 0 ≤ rot x n ∧ rot x n ≤ 4294967295 := by
  unfold rot
  split
  · have := rotN_lt (x % 4294967296).toNat n.toNat (by omega); omega
  · omega

set_option maxRecDepth 100000 in
theorem rot_wide (x n : Int) (h1 : 1 ≤ n) (h2 : n ≤ 31) :
    bits .and .i64 (bits .or .i64 (x % 4294967296 / 2 ^ n.toNat) (wrap64 (x % 4294967296 * 2 ^ (32 - n).toNat))) 4294967295 = rot x n := by
  obtain ⟨X, hX⟩ := Int.eq_ofNat_of_zero_le (show 0 ≤ x % 4294967296 by omega)
  obtain ⟨N, rfl⟩ := Int.eq_ofNat_of_zero_le (show 0 ≤ n by omega)
  have hXl : X < 4294967296 := by omega
  have e1 : (32 - (N : Int)).toNat = 32 - N := by omega
  have hpw : 2 ^ (32 - N) ≤ 2 ^ 31 := Nat.pow_le_pow_right (by omega) (by omega)
  have e31 : (2 : Nat) ^ 31 = 2147483648 := by decide
  have hm : X * 2 ^ (32 - N) < 9223372036854775808 := by
    have := Nat.mul_le_mul (show X ≤ 4294967295 by omega) hpw; omega
  have hd : X / 2 ^ N < 9223372036854775808 := Nat.lt_of_le_of_lt (Nat.div_le_self _ _) (by omega)
  have e2 : (X : Int) / 2 ^ N = ((X / 2 ^ N : Nat) : Int) := by simp
  have e3 : (X : Int) * 2 ^ (32 - N) = ((X * 2 ^ (32 - N) : Nat) : Int) := by simp
  have e4 : wrap64 ((X * 2 ^ (32 - N) : Nat) : Int) = ((X * 2 ^ (32 - N) : Nat) : Int) := by rw [← IntWalk.i64_left]; exact wrap_i64_nat _ hm
  rw [mask32]
  unfold rot
  rw [if_pos ⟨h1, h2⟩, hX, e1]
  simp only [Int.toNat_natCast]
  rw [e2, e3, e4, or_i64 _ _ hd hm]
  unfold rotN
  rw [show (4294967296 : Int) = ((2 ^ 32 : Nat) : Int) by decide, ← Int.natCast_emod, Nat.or_mod_two_pow, Nat.mod_eq_of_lt (a := X / 2 ^ N)]
  exact Nat.lt_of_le_of_lt (Nat.div_le_self _ _) (by omega)

set_option maxRecDepth 100000 in
theorem rot_word (x n : Int) (h1 : 1 ≤ n) (h2 : n ≤ 31) :
    wrap64 (bits .or .u32 (x % 4294967296 / 2 ^ n.toNat) (x % 4294967296 * 2 ^ (32 - n).toNat % 4294967296)) = rot x n := by
  obtain ⟨X, hX⟩ := Int.eq_ofNat_of_zero_le (show 0 ≤ x % 4294967296 by omega)
  obtain ⟨N, rfl⟩ := Int.eq_ofNat_of_zero_le (show 0 ≤ n by omega)
  have hXl : X < 4294967296 := by omega
  have e1 : (32 - (N : Int)).toNat = 32 - N := by omega
  have hd : X / 2 ^ N < 4294967296 := Nat.lt_of_le_of_lt (Nat.div_le_self _ _) (by omega)
  have e2 : (X : Int) / 2 ^ N = ((X / 2 ^ N : Nat) : Int) := by simp
  have e3 : (X : Int) * 2 ^ (32 - N) % 4294967296 = ((X * 2 ^ (32 - N) % 4294967296 : Nat) : Int) := by simp
  have hb := rotN_lt X N hXl
  unfold rot
  rw [if_pos ⟨h1, h2⟩, hX, e1]
  simp only [Int.toNat_natCast]
  rw [e2, e3, or_u32 _ _ hd (by omega)]
  unfold rotN at hb ⊢
  rw [← IntWalk.i64_left]; exact wrap_i64_nat _ (by omega)

set_option maxRecDepth 100000 in
theorem rot_zero (x : Int) : wrap64 (x % 4294967296) = x % 4294967296 := by
  obtain ⟨X, hX⟩ := Int.eq_ofNat_of_zero_le (show 0 ≤ x % 4294967296 by omega)
  rw [hX, ← IntWalk.i64_left]; exact wrap_i64_nat X (by omega)

end Go.Proofs.Ytadlckgaeljdkaa.Bits

/-
  Words and their bits, as the program's and the specification's operations reckon them.
-/
import Derived.Test.YtmcflfpckpjphaaWinP
namespace Go.Proofs.Ytmcflfpckpjphaa.WinB
open Go.RowKit Go.Proofs.Ytmcflfpckpjphaa.Bits Go.Proofs.Ytmcflfpckpjphaa.WinP

theorem tb_i64 (X k : Nat) : (bits .and .i64 ((X : Int) / 2 ^ k) 1 == 1) = X.testBit k := by
  have e : bits .and .i64 ((X : Int) / 2 ^ k) 1 = ((X : Int) / 2 ^ k) % 2 := mask_i64 1 (by omega) _
  have e2 : ((X : Int) / 2 ^ k) % 2 = ((X / 2 ^ k % 2 : Nat) : Int) := by simp
  rw [e, e2, Nat.testBit_eq_decide_div_mod_eq, Bool.eq_iff_iff]
  simp only [beq_iff_eq, decide_eq_true_iff]
  omega
theorem andNot_nat (v X M : Nat) (hX : X < 2 ^ v) (hM : M < 2 ^ v) : (BitVec.ofInt v (X : Int) &&& ~~~ BitVec.ofInt v (M : Int)).toNat = X ^^^ (X &&& M) := by
  apply Nat.eq_of_testBit_eq
  intro j
  rw [BitVec.testBit_toNat, BitVec.getLsbD_and, BitVec.getLsbD_not, BitVec.ofInt_natCast, BitVec.ofInt_natCast, BitVec.getLsbD_ofNat, BitVec.getLsbD_ofNat, Nat.testBit_xor, Nat.testBit_and]
  by_cases hj : j < v
  · rw [decide_eq_true hj]
    cases X.testBit j <;> cases M.testBit j <;> rfl
  · have : (2 : Nat) ^ v ≤ 2 ^ j := Nat.pow_le_pow_right (by omega) (by omega)
    rw [decide_eq_false hj, Nat.testBit_lt_two_pow (x := X) (by omega), Nat.testBit_lt_two_pow (x := M) (by omega)]
    rfl
theorem andNot_i64 (X M : Nat) (hX : X < 4294967296) (hM : M < 4294967296) : bits .andNot .i64 (X : Int) (M : Int) = ((X ^^^ (X &&& M) : Nat) : Int) := by
  show IntKind.i64.wrap ((BitVec.ofInt 64 (X : Int) &&& ~~~ BitVec.ofInt 64 (M : Int)).toNat : Int) = _
  have h : X ^^^ (X &&& M) < 2 ^ 32 := Nat.xor_lt_two_pow (by omega) (Nat.lt_of_le_of_lt Nat.and_le_left (by omega))
  rw [andNot_nat 64 X M (by omega) (by omega), wrap_i64_nat _ (by omega)]
theorem wrap_u32 (n : Int) : IntKind.u32.wrap n = n % 4294967296 := by simp [IntKind.wrap, IntKind.bits, IntKind.signed]
theorem andNot_u32 (X M : Nat) (hX : X < 4294967296) (hM : M < 4294967296) : bits .andNot .u32 (X : Int) (M : Int) = ((X ^^^ (X &&& M) : Nat) : Int) := by
  show IntKind.u32.wrap ((BitVec.ofInt 32 (X : Int) &&& ~~~ BitVec.ofInt 32 (M : Int)).toNat : Int) = _
  have h : X ^^^ (X &&& M) < 2 ^ 32 := Nat.xor_lt_two_pow (by omega) (Nat.lt_of_le_of_lt Nat.and_le_left (by omega))
  rw [andNot_nat 32 X M (by omega) (by omega), wrap_u32]
  omega
theorem and_u32 (X M : Nat) (hX : X < 4294967296) (hM : M < 4294967296) : bits .and .u32 (X : Int) (M : Int) = ((X &&& M : Nat) : Int) := by
  have e : ∀ c : Nat, c < 4294967296 → (BitVec.ofInt 32 (c : Int)).toNat = c := fun c hc => by rw [BitVec.ofInt_natCast, BitVec.toNat_ofNat]; exact Nat.mod_eq_of_lt (by omega)
  show IntKind.u32.wrap ((BitVec.ofInt 32 (X : Int) &&& BitVec.ofInt 32 (M : Int)).toNat : Int) = _
  have h : X &&& M < 4294967296 := Nat.lt_of_le_of_lt Nat.and_le_left hX
  rw [BitVec.toNat_and, e X hX, e M hM, wrap_u32]
  omega
theorem pow_lt (k : Nat) (hk : k < 32) : 2 ^ k < 4294967296 := by
  have := Nat.pow_lt_pow_right (a := 2) (by omega) hk
  omega
theorem and_pow (X k : Nat) : (X &&& 2 ^ k ≠ 0) ↔ X.testBit k = true := by
  constructor
  · intro h
    by_cases hb : X.testBit k = true
    · exact hb
    · exfalso; apply h
      apply Nat.eq_of_testBit_eq
      intro j
      rw [Nat.testBit_and, Nat.testBit_two_pow, Nat.zero_testBit]
      by_cases hj : k = j
      · subst hj; rw [Bool.eq_false_iff.2 hb]; rfl
      · rw [decide_eq_false hj, Bool.and_false]
  · intro h e
    have := congrArg (Nat.testBit · k) e
    simp [Nat.testBit_and, h] at this
theorem tb_u32 (X k : Nat) (hX : X < 4294967296) (hk : k < 32) : (bits .and .u32 (X : Int) ((2 ^ k : Nat) : Int) != 0) = X.testBit k := by
  rw [and_u32 X (2 ^ k) hX (pow_lt k hk), Bool.eq_iff_iff, ← and_pow X k]
  simp only [bne_iff_ne, ne_eq]
  omega
theorem clr_u32 (X k : Nat) (hX : X < 4294967296) (hk : k < 32) : bits .andNot .u32 (X : Int) ((2 ^ k : Nat) : Int) = (clrN X k : Nat) := andNot_u32 X (2 ^ k) hX (pow_lt k hk)
theorem set_u32 (X k : Nat) (hX : X < 4294967296) (hk : k < 32) : bits .or .u32 (X : Int) ((2 ^ k : Nat) : Int) = (setN X k : Nat) := or_u32 X (2 ^ k) hX (pow_lt k hk)
theorem clr_i64 (X k : Nat) (hX : X < 4294967296) (hk : k < 32) : bits .andNot .i64 (X : Int) ((2 ^ k : Nat) : Int) = (clrN X k : Nat) := andNot_i64 X (2 ^ k) hX (pow_lt k hk)
theorem set_i64 (X k : Nat) (hX : X < 4294967296) (hk : k < 32) : bits .or .i64 (X : Int) ((2 ^ k : Nat) : Int) = (setN X k : Nat) := by
  have := pow_lt k hk
  exact or_i64 X (2 ^ k) (by omega) (by omega)
/-- Nothing is set above the a lowest bits. -/
theorem room_zero (X a : Nat) (hX : X < 4294967296) : X ^^^ (X &&& (2 ^ min a 32 - 1)) = 0 ↔ ∀ j, a ≤ j → j < 32 → X.testBit j = false := by
  rw [Nat.and_two_pow_sub_one_eq_mod]
  constructor
  · intro h j h1 h2
    have := congrArg (Nat.testBit · j) h
    simp only [Nat.testBit_xor, Nat.testBit_mod_two_pow, Nat.zero_testBit] at this
    rw [decide_eq_false (by omega)] at this
    simpa using this
  · intro h
    apply Nat.eq_of_testBit_eq
    intro j
    rw [Nat.testBit_xor, Nat.testBit_mod_two_pow, Nat.zero_testBit]
    by_cases hj : j < min a 32
    · rw [decide_eq_true hj]; simp
    · by_cases hk : j < 32
      · rw [h j (by omega) hk]; simp
      · have : (2 : Nat) ^ 32 ≤ 2 ^ j := Nat.pow_le_pow_right (by omega) (by omega)
        rw [Nat.testBit_lt_two_pow (x := X) (by omega)]; simp
end Go.Proofs.Ytmcflfpckpjphaa.WinB

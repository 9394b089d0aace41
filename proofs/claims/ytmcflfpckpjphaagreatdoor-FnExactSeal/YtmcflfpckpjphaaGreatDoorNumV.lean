/-
  Numbers and their bytes as plain facts.
-/
import Derived.Test.YtmcflfpckpjphaaGreatDoorGet
namespace Go.Proofs.YtmcflfpckpjphaaGreatDoor.NumV
open Go.RowKit Go.Proofs.YtmcflfpckpjphaaGreatDoor.Mem Go.Proofs.YtmcflfpckpjphaaGreatDoor.App Go.Proofs.YtmcflfpckpjphaaGreatDoor.Get

set_option maxRecDepth 100000 in
theorem fold_from (r : List Int) : ∀ a : Int, r.foldl (fun n z => n * 256 + z) a = a * 256 ^ r.length + val r := by
  induction r with
  | nil => intro a; simp [val]
  | cons z r ih =>
    intro a
    have hv : val (z :: r) = z * 256 ^ r.length + val r := by
      have := ih (0 * 256 + z)
      rw [show (0 : Int) * 256 + z = z by omega] at this
      show (z :: r).foldl (fun n z => n * 256 + z) 0 = _
      rw [List.foldl_cons, show (0 : Int) * 256 + z = z by omega, this]
    rw [List.foldl_cons, ih, hv, List.length_cons, Int.pow_succ, Int.add_mul, Int.mul_assoc, Int.mul_comm 256 (256 ^ r.length), Int.add_assoc]
set_option maxRecDepth 100000 in
theorem val_cons (z : Int) (r : List Int) : val (z :: r) = z * 256 ^ r.length + val r := by
  have := fold_from r (0 * 256 + z)
  rw [show (0 : Int) * 256 + z = z by omega] at this
  show (z :: r).foldl (fun n z => n * 256 + z) 0 = _
  rw [List.foldl_cons, show (0 : Int) * 256 + z = z by omega, this]
set_option maxRecDepth 100000 in
theorem pow8 (j : Nat) : (2 : Int) ^ (8 * j) = 256 ^ j := by
  rw [Int.pow_mul]
  rfl
set_option maxRecDepth 100000 in
theorem val_num (n : Int) (k : Nat) : val (num n k) = n % 256 ^ k := by
  induction k with
  | zero => simp [num, val]
  | succ j ih =>
    unfold num
    rw [val_cons, num_length, ih, pow8, Int.pow_succ]
    have hp : (0 : Int) < 256 ^ j := Int.pow_pos (by decide)
    generalize (256 : Int) ^ j = P at *
    have h1 := Int.emod_add_mul_ediv n P
    have h2 := Int.emod_add_mul_ediv (n / P) 256
    have a1 := Int.emod_nonneg n (show P ≠ 0 by omega)
    have a2 := Int.emod_lt_of_pos n hp
    have a3 := Int.emod_nonneg (n / P) (show (256 : Int) ≠ 0 by decide)
    have a4 := Int.emod_lt_of_pos (n / P) (show (0 : Int) < 256 by decide)
    generalize n / P / 256 = q at *
    generalize hu : n / P % 256 = u at *
    generalize n / P = m at *
    generalize n % P = v at *
    have e : n = (v + u * P) + P * 256 * q := by
      rw [← h1, ← h2, Int.mul_add, ← Int.mul_assoc, Int.mul_comm P u, Int.add_assoc]
    have hup : u * P ≤ 255 * P := Int.mul_le_mul_of_nonneg_right (by omega) (by omega)
    have hu0 : 0 ≤ u * P := Int.mul_nonneg a3 (by omega)
    rw [e, Int.add_mul_emod_self_left, Int.emod_eq_of_lt (by omega) (by omega)]
    omega

set_option maxRecDepth 100000 in
theorem piece_tail (r x : List Int) (k : Nat) (h : x.length = k) : piece (r ++ x) r.length k = x := by
  unfold piece
  rw [List.drop_left, List.take_of_length_le (by omega)]
set_option maxRecDepth 100000 in
theorem piece_mid (r x y : List Int) (k : Nat) (h : x.length = k) : piece (r ++ x ++ y) r.length k = x := by
  unfold piece
  rw [List.append_assoc, List.drop_left, List.take_left' h]
end Go.Proofs.YtmcflfpckpjphaaGreatDoor.NumV

/-
  Keys as plain functions: which words are shared, and what a proof is of.
-/
import Derived.Test.YtpenhliaelhnoaaDoorWords
import Derived.Test.YtpenhliaelhnoaaDoorApp
namespace Go.Proofs.YtpenhliaelhnoaaDoor.KeP
open Go.RowKit Go.Proofs.YtpenhliaelhnoaaDoor.Mem Go.Proofs.YtpenhliaelhnoaaDoor.App Go.Proofs.YtpenhliaelhnoaaDoor.Words

def pskOk (n : Nat) : Bool := isIn (n : Int) 1 32
set_option maxRecDepth 100000 in
theorem pskOk_iff {n : Nat} : pskOk n = true ↔ 1 ≤ n ∧ n ≤ 32 := by unfold pskOk isIn; simp; omega
/-- Whether a proof may be of these. -/
def proofF (id : Int) (cn sn : Nat) (tick : Int) (ck : Nat) : Bool := isIn id 1 9 && ((cn : Int) == 12) && ((sn : Int) == 12) && isIn tick 0 1000000 && ((ck : Int) == 16)
set_option maxRecDepth 100000 in
theorem proofF_parts {id : Int} {cn sn : Nat} {tick : Int} {ck : Nat} (k : proofF id cn sn tick ck = true) : (1 ≤ id ∧ id ≤ 9) ∧ cn = 12 ∧ sn = 12 ∧ (0 ≤ tick ∧ tick ≤ 1000000) ∧ ck = 16 := by
  unfold proofF isIn at k
  simp only [Bool.and_eq_true, decide_eq_true_eq, beq_iff_eq] at k
  obtain ⟨⟨⟨⟨k1, k2⟩, k3⟩, k4⟩, k5⟩ := k
  exact ⟨k1, by omega, by omega, k4, by omega⟩
/-- What a proof is of. -/
def proofL (id : Int) (cn sn : List Int) (tick : Int) (ck : List Int) : List Int := if proofF id cn.length sn.length tick ck.length = true then [102, id] ++ cn ++ sn ++ putN tick 4 ++ ck else []
set_option maxRecDepth 100000 in
theorem proofL_yes {id : Int} {cn sn : List Int} {tick : Int} {ck : List Int} (k : proofF id cn.length sn.length tick ck.length = true) : proofL id cn sn tick ck = [102, id] ++ cn ++ sn ++ putN tick 4 ++ ck := if_pos k
set_option maxRecDepth 100000 in
theorem proofL_no {id : Int} {cn sn : List Int} {tick : Int} {ck : List Int} (k : proofF id cn.length sn.length tick ck.length = false) : proofL id cn sn tick ck = [] := if_neg (by rw [k]; decide)
set_option maxRecDepth 100000 in
theorem putN4_len (n : Int) : (putN n 4).length = 4 := by show (num n 4).length = 4; rw [num_length]
set_option maxRecDepth 100000 in
theorem proofL_len {id : Int} {cn sn : List Int} {tick : Int} {ck : List Int} (k : proofF id cn.length sn.length tick ck.length = true) : (proofL id cn sn tick ck).length = 46 := by
  obtain ⟨_, k2, k3, _, k5⟩ := proofF_parts k
  rw [proofL_yes k]
  simp only [List.length_append, putN4_len, k2, k3, k5]
  rfl
set_option maxRecDepth 100000 in
theorem proofL_le (id : Int) (cn sn : List Int) (tick : Int) (ck : List Int) : (proofL id cn sn tick ck).length ≤ 46 := by
  cases k : proofF id cn.length sn.length tick ck.length with
  | true => rw [proofL_len k]; exact Nat.le_refl _
  | false => rw [proofL_no k]; simp
set_option maxRecDepth 100000 in
theorem app_bytes {a b : List Int} (ha : Bytes a) (hb : Bytes b) : Bytes (a ++ b) := by
  intro z hz
  rcases List.mem_append.1 hz with h | h
  · exact ha z h
  · exact hb z h
set_option maxRecDepth 100000 in
theorem proofL_bytes {id : Int} {cn sn : List Int} {tick : Int} {ck : List Int} (hc : Bytes cn) (hs : Bytes sn) (hk : Bytes ck) : Bytes (proofL id cn sn tick ck) := by
  cases k : proofF id cn.length sn.length tick ck.length with
  | true =>
    have q := (proofF_parts k).1
    rw [proofL_yes k]
    refine app_bytes (app_bytes (app_bytes (app_bytes ?_ hc) hs) ?_) hk
    · intro z hz; simp at hz; omega
    · show Bytes (num tick 4); exact num_bytes _ _
  | false => rw [proofL_no k]; intro z hz; cases hz
end Go.Proofs.YtpenhliaelhnoaaDoor.KeP

/-
  What dice roll, as plain functions.
-/
import Derived.Test.YtcodonnknepkeaaDoorDiP
import Derived.Test.YtcodonnknepkeaaDoorMacP
import Derived.Test.YtcodonnknepkeaaDoorStr
namespace Go.Proofs.YtcodonnknepkeaaDoor.DiQ
open Go.RowKit Go.Proofs.YtcodonnknepkeaaDoor.Mem Go.Proofs.YtcodonnknepkeaaDoor.App Go.Proofs.YtcodonnknepkeaaDoor.Words Go.Proofs.YtcodonnknepkeaaDoor.Zone Go.Proofs.YtcodonnknepkeaaDoor.DiZ Go.Proofs.YtcodonnknepkeaaDoor.DiP Go.Proofs.YtcodonnknepkeaaDoor.MacP Go.Proofs.YtcodonnknepkeaaDoor.Str

/-- The bytes of 'roll'. -/
def rollB : ByteArray := ⟨#[114, 111, 108, 108]⟩
set_option maxRecDepth 100000 in
theorem roll_len : (bs rollB).length = 4 := by rw [bs_length]; rfl
/-- What a number is rolled of. -/
def ofN (n : Int) : List Int := bs rollB ++ putN n 4
set_option maxRecDepth 100000 in
theorem putN_bytes (n k : Int) : Bytes (putN n k) := by
  unfold putN; split
  · exact num_bytes _ _
  · intro z hz; cases hz
set_option maxRecDepth 100000 in
theorem ofN_len (n : Int) : (ofN n).length ≤ 10 := by
  have := putN_length n 4
  unfold ofN; rw [List.length_append, roll_len]; omega
set_option maxRecDepth 100000 in
theorem ofN_bytes (n : Int) : Bytes (ofN n) := bytes_append (bs_bytes _) (putN_bytes _ _)
def atB (l : List Int) (n : Int) : Bool := seedOk l.length && rollOk n
/-- What is rolled at n. -/
def atL (l : List Int) (n : Int) : List Int := if atB l n = true then (hmacI l (ofN n)).take 12 else []
set_option maxRecDepth 100000 in
theorem at_yes {l : List Int} {n : Int} (h : atB l n = true) : atL l n = (hmacI l (ofN n)).take 12 := if_pos h
set_option maxRecDepth 100000 in
theorem at_no {l : List Int} {n : Int} (h : atB l n = false) : atL l n = [] := if_neg (by rw [h]; decide)
set_option maxRecDepth 100000 in
theorem hm_len {l : List Int} {n : Int} (h : atB l n = true) : (hmacI l (ofN n)).length = 32 := by
  have h1 := seedOk_iff.1 (Bool.and_eq_true_iff.1 h).1
  have h2 := ofN_len n
  exact hmacI_len _ _ (by omega) (by omega)
set_option maxRecDepth 100000 in
theorem at_len {l : List Int} {n : Int} (h : atB l n = true) : (atL l n).length = 12 := by rw [at_yes h, List.length_take, hm_len h]; rfl
set_option maxRecDepth 100000 in
theorem at_le (l : List Int) (n : Int) : (atL l n).length ≤ 12 := by
  cases h : atB l n with
  | true => rw [at_len h]; exact Nat.le_refl _
  | false => rw [at_no h]; simp
set_option maxRecDepth 100000 in
theorem at_bytes (l : List Int) (n : Int) : Bytes (atL l n) := by
  cases h : atB l n with
  | true => rw [at_yes h]; exact fun z hz => hmacI_bytes _ _ z (List.mem_of_mem_take hz)
  | false => rw [at_no h]; intro z hz; cases hz
/-- Whether the dice can roll. -/
def mayRoll (D : DiD) : Bool := diOk D && decide (D.num < 10000)
def rollD (D : DiD) : DiD := if mayRoll D = true then ⟨D.seed, D.num + 1⟩ else D
def rollL (D : DiD) : List Int := if mayRoll D = true then atL D.seed D.num else []
set_option maxRecDepth 100000 in
theorem rollD_yes {D : DiD} (h : mayRoll D = true) : rollD D = ⟨D.seed, D.num + 1⟩ := if_pos h
set_option maxRecDepth 100000 in
theorem rollD_no {D : DiD} (h : mayRoll D = false) : rollD D = D := if_neg (by rw [h]; decide)
set_option maxRecDepth 100000 in
theorem rollL_yes {D : DiD} (h : mayRoll D = true) : rollL D = atL D.seed D.num := if_pos h
set_option maxRecDepth 100000 in
theorem rollL_no {D : DiD} (h : mayRoll D = false) : rollL D = [] := if_neg (by rw [h]; decide)
set_option maxRecDepth 100000 in
theorem rollD_seed (D : DiD) : (rollD D).seed = D.seed := by unfold rollD; split <;> rfl
set_option maxRecDepth 100000 in
theorem rollD_short {D : DiD} {m : Nat} (h : DiShort D m) : DiShort (rollD D) m := ⟨by rw [rollD_seed]; exact h.seed⟩
set_option maxRecDepth 100000 in
theorem rollL_le (D : DiD) : (rollL D).length ≤ 12 := by
  unfold rollL; split
  · exact at_le _ _
  · simp
set_option maxRecDepth 100000 in
theorem rollL_bytes (D : DiD) : Bytes (rollL D) := by
  unfold rollL; split
  · exact at_bytes _ _
  · intro z hz; cases hz
set_option maxRecDepth 100000 in
theorem may_parts {D : DiD} (h : mayRoll D = true) : seedOk D.seed.length = true ∧ 0 ≤ D.num ∧ D.num < 10000 := by
  obtain ⟨h1, h2⟩ := Bool.and_eq_true_iff.1 h
  obtain ⟨h3, h4⟩ := Bool.and_eq_true_iff.1 h1
  exact ⟨h3, (rollOk_iff.1 h4).1, of_decide_eq_true h2⟩
/-- Dice, and what they rolled, each in memory of its own. -/
def AnsR (D : DiD) (l : List Int) (w : World) : Ending → World → Prop := fun e w' => ∃ (S0 : DiS) (S1 : Sl) (p0 q0 p1 q1 : Nat), e = .returned (.tuple #[diV D S0, .slice S1.a S1.n S1.c]) ∧ DiOwn w' p0 q0 S0 D ∧ SOwn w' p1 q1 S1 l ∧ (w.heap.size ≤ p0 ∧ q0 ≤ w'.heap.size ∧ w.heap.size ≤ p1 ∧ q1 ≤ w'.heap.size ∧ (q0 ≤ p1 ∨ q1 ≤ p0)) ∧ Below w.heap.size w w'
end Go.Proofs.YtcodonnknepkeaaDoor.DiQ

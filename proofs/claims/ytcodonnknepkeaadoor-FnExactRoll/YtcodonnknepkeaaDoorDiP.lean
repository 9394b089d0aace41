/-
  Dice as plain functions: which are dice, and dice that are wound.
-/
import Derived.Test.YtcodonnknepkeaaDoorDiL
import Derived.Test.YtcodonnknepkeaaDoorWords
namespace Go.Proofs.YtcodonnknepkeaaDoor.DiP
open Go.RowKit Go.Proofs.YtcodonnknepkeaaDoor.Mem Go.Proofs.YtcodonnknepkeaaDoor.Words Go.Proofs.YtcodonnknepkeaaDoor.Zone Go.Proofs.YtcodonnknepkeaaDoor.DiZ

def seedOk (n : Nat) : Bool := isIn (n : Int) 1 32
def rollOk (n : Int) : Bool := isIn n 0 10000
def diOk (D : DiD) : Bool := seedOk D.seed.length && rollOk D.num
/-- The dice wound to n. -/
def windD (D : DiD) (n : Int) : DiD := if (diOk D && rollOk n) = true then ⟨D.seed, n⟩ else D
set_option maxRecDepth 100000 in
theorem wind_yes {D : DiD} {n : Int} (h : (diOk D && rollOk n) = true) : windD D n = ⟨D.seed, n⟩ := if_pos h
set_option maxRecDepth 100000 in
theorem wind_no {D : DiD} {n : Int} (h : (diOk D && rollOk n) = false) : windD D n = D := if_neg (by rw [h]; decide)
set_option maxRecDepth 100000 in
theorem wind_seed (D : DiD) (n : Int) : (windD D n).seed = D.seed := by unfold windD; split <;> rfl
set_option maxRecDepth 100000 in
theorem wind_short {D : DiD} {n : Int} {m : Nat} (h : DiShort D m) : DiShort (windD D n) m := ⟨by rw [wind_seed]; exact h.seed⟩
set_option maxRecDepth 100000 in
theorem seedOk_iff {n : Nat} : seedOk n = true ↔ 1 ≤ n ∧ n ≤ 32 := by unfold seedOk isIn; simp; omega
set_option maxRecDepth 100000 in
theorem rollOk_iff {n : Int} : rollOk n = true ↔ 0 ≤ n ∧ n ≤ 10000 := by unfold rollOk isIn; simp
/-- Dice in memory of their own. -/
def AnsD (D : DiD) (w : World) : Ending → World → Prop := fun e w' => ∃ S0 : DiS, e = .returned (diV D S0) ∧ DiOwn w' w.heap.size w'.heap.size S0 D ∧ Below w.heap.size w w'
end Go.Proofs.YtcodonnknepkeaaDoor.DiP

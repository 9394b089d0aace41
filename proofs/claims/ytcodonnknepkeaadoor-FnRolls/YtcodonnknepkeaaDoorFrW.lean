/-
  The words behind impl's interface: what each asks of its parts, and the frame that it is.
-/
import Derived.Test.YtcodonnknepkeaaDoorFrB
namespace Go.Proofs.YtcodonnknepkeaaDoor.FrW
open Go.RowKit Go.Proofs.YtcodonnknepkeaaDoor.Mem Go.Proofs.YtcodonnknepkeaaDoor.Blk Go.Proofs.YtcodonnknepkeaaDoor.Words Go.Proofs.YtcodonnknepkeaaDoor.Zone Go.Proofs.YtcodonnknepkeaaDoor.Res Go.Proofs.YtcodonnknepkeaaDoor.FrZ Go.Proofs.YtcodonnknepkeaaDoor.FrP

set_option maxRecDepth 100000 in
theorem geq_leq {x a b : Int} {p : Prop} [Decidable p] (h : p ↔ (a ≤ x ∧ x ≤ b)) : decide p = isIn x a b := by
  unfold isIn; simp only [h]

end Go.Proofs.YtcodonnknepkeaaDoor.FrW

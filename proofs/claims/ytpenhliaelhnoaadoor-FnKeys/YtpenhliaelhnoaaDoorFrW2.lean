/-
  The frames of impl's words, and the words of impl's frames.
-/
import Derived.Test.YtpenhliaelhnoaaDoorGd8
namespace Go.Proofs.YtpenhliaelhnoaaDoor.FrW2
open Go.RowKit Go.Proofs.YtpenhliaelhnoaaDoor.Mem Go.Proofs.YtpenhliaelhnoaaDoor.Blk Go.Proofs.YtpenhliaelhnoaaDoor.Words Go.Proofs.YtpenhliaelhnoaaDoor.Zone Go.Proofs.YtpenhliaelhnoaaDoor.Res Go.Proofs.YtpenhliaelhnoaaDoor.FrZ Go.Proofs.YtpenhliaelhnoaaDoor.FrP Go.Proofs.YtpenhliaelhnoaaDoor.FrW

set_option maxRecDepth 100000 in
theorem aggCook : aggB Tryd.prog 60 4 = true := by kernel_rfl
end Go.Proofs.YtpenhliaelhnoaaDoor.FrW2

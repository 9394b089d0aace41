/-
  The frames of impl's words, and the words of impl's frames.
-/
import Derived.Test.YtcodonnknepkeaaDoorFrW
namespace Go.Proofs.YtcodonnknepkeaaDoor.FrW2
open Go.RowKit Go.Proofs.YtcodonnknepkeaaDoor.Mem Go.Proofs.YtcodonnknepkeaaDoor.Blk Go.Proofs.YtcodonnknepkeaaDoor.Words Go.Proofs.YtcodonnknepkeaaDoor.Zone Go.Proofs.YtcodonnknepkeaaDoor.Res Go.Proofs.YtcodonnknepkeaaDoor.FrZ Go.Proofs.YtcodonnknepkeaaDoor.FrP Go.Proofs.YtcodonnknepkeaaDoor.FrW

end Go.Proofs.YtcodonnknepkeaaDoor.FrW2

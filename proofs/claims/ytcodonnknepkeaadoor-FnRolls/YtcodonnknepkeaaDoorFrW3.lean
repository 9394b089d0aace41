/-
  The words of impl's frames; which are sealed.
-/
import Derived.Test.YtcodonnknepkeaaDoorFrW2
import Derived.Test.YtcodonnknepkeaaDoorFrT
import Derived.Deep.RegionHeld3
namespace Go.Proofs.YtcodonnknepkeaaDoor.FrW3
open Go.RowKit Go.Proofs.YtcodonnknepkeaaDoor.Mem Go.Proofs.YtcodonnknepkeaaDoor.Blk Go.Proofs.YtcodonnknepkeaaDoor.Words Go.Proofs.YtcodonnknepkeaaDoor.Zone Go.Proofs.YtcodonnknepkeaaDoor.Res Go.Proofs.YtcodonnknepkeaaDoor.FrZ Go.Proofs.YtcodonnknepkeaaDoor.FrP Go.Proofs.YtcodonnknepkeaaDoor.FrW Go.Proofs.YtcodonnknepkeaaDoor.FrW2 Go.Proofs.YtcodonnknepkeaaDoor.FrT

end Go.Proofs.YtcodonnknepkeaaDoor.FrW3

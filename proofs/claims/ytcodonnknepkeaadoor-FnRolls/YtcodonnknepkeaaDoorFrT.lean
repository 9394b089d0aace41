/-
  Closed facts on impl's interface: which word is of which type, and which method a word has.
-/
import Derived.Test.YtcodonnknepkeaaDoorProg
import Derived.WalkKit
import Derived.KernelRfl
namespace Go.Proofs.YtcodonnknepkeaaDoor.FrT
open Go.RowKit

end Go.Proofs.YtcodonnknepkeaaDoor.FrT

/-
  What impl lays as a head, and as what a tag is of.
  What is sealed, and opened, as plain functions.
  A range over a function that hands each round a value in new memory: each round is told what the iterator says of that value in the world where it is handed over (the library's contracts hand a round a value alone).
  What impl's BlockOf and canStream answer, and the iterator of a stream's blocks, where the table of round words holds what the program's text lays into it.
-/
import Derived.Test.YtpenhliaelhnoaaGreatDoorVaGz13
import Derived.Test.YtpenhliaelhnoaaGreatDoorVaGz12
import Derived.Test.YtpenhliaelhnoaaGreatDoorVaGz5
import Derived.RangeFuncNested
import Derived.RangeFuncBound
import Derived.RangeFuncCalls
import Derived.RangeFuncLeaves
import Derived.Test.YtpenhliaelhnoaaGreatDoorVaGz1
import Derived.Test.YtpenhliaelhnoaaGreatDoorVaGz9
import Derived.Test.YtpenhliaelhnoaaGreatDoorVaGz8
import Derived.Shelf.Abstract
import Derived.Shelf.RegionOpen
import Derived.WalkKit
import Derived.OwnWalkIn
import Derived.TacticsInMore
import Derived.LoopNIn
import Derived.LoopIn
set_option linter.unusedVariables false


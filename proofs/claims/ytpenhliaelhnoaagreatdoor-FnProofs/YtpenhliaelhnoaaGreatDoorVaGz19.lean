/-
  'append' of bytes to a row of the call's own, as one step of a region that draws its order; and where it lies then.
  What spec lays as a head, and as what a tag is of.
  What spec's BlockOf, Stream and Mix answer.
-/
import Derived.Test.YtpenhliaelhnoaaGreatDoorVaGz15
import Derived.Deep.RegionHeld3
import Derived.Laws.AppendOwnNone
import Derived.Test.YtpenhliaelhnoaaGreatDoorVaGz13
import Derived.Test.YtpenhliaelhnoaaGreatDoorVaFrS
import Derived.Test.YtpenhliaelhnoaaGreatDoorVaGz12
import Derived.Test.YtpenhliaelhnoaaGreatDoorVaGz5
import Derived.Test.YtpenhliaelhnoaaGreatDoorVaGz17
import Derived.Test.YtpenhliaelhnoaaGreatDoorVaGz3
set_option linter.unusedVariables false


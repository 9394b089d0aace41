/-
  'append' of bytes to a row of the call's own, as one step of a region that draws its order; and where it lies then.
  What spec lays as a head, and as what a tag is of.
  What spec's BlockOf, Stream and Mix answer.
-/
import Derived.Test.YtpenhliaelhnoaaGreatDoorVbGz15
import Derived.Deep.RegionHeld3
import Derived.Laws.AppendOwnNone
import Derived.Test.YtpenhliaelhnoaaGreatDoorVbGz13
import Derived.Test.YtpenhliaelhnoaaGreatDoorVbFrS
import Derived.Test.YtpenhliaelhnoaaGreatDoorVbGz12
import Derived.Test.YtpenhliaelhnoaaGreatDoorVbGz5
import Derived.Test.YtpenhliaelhnoaaGreatDoorVbGz17
import Derived.Test.YtpenhliaelhnoaaGreatDoorVbGz3
set_option linter.unusedVariables false


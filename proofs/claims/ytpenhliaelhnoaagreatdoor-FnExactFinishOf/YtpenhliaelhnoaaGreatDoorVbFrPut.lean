/-
  What spec's PutFrame answers.
-/
import Derived.Test.YtpenhliaelhnoaaGreatDoorVbFrS
import Derived.Test.YtpenhliaelhnoaaGreatDoorVbGz19
import Derived.Test.YtpenhliaelhnoaaGreatDoorVbGz7

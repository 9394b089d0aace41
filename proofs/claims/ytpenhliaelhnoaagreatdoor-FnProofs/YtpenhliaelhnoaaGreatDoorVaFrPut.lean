/-
  What spec's PutFrame answers.
-/
import Derived.Test.YtpenhliaelhnoaaGreatDoorVaFrS
import Derived.Test.YtpenhliaelhnoaaGreatDoorVaGz19
import Derived.Test.YtpenhliaelhnoaaGreatDoorVaGz7

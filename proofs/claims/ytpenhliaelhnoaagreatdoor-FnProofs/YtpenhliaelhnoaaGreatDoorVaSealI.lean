/-
  What impl seals, and opens.
-/
import Derived.Test.YtpenhliaelhnoaaGreatDoorVaGz14
import Derived.Test.YtpenhliaelhnoaaGreatDoorVaGz16
import Derived.Test.YtpenhliaelhnoaaGreatDoorVaGz7

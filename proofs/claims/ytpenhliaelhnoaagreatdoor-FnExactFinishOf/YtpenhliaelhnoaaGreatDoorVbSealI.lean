/-
  What impl seals, and opens.
-/
import Derived.Test.YtpenhliaelhnoaaGreatDoorVbGz14
import Derived.Test.YtpenhliaelhnoaaGreatDoorVbGz16
import Derived.Test.YtpenhliaelhnoaaGreatDoorVbGz7

/-
  What spec opens.
-/
import Derived.Test.YtpenhliaelhnoaaGreatDoorVbGz19
import Derived.Test.YtpenhliaelhnoaaGreatDoorVbGz14
import Derived.Test.YtpenhliaelhnoaaGreatDoorVbGz16
import Derived.Test.YtpenhliaelhnoaaGreatDoorVbGz7
import Derived.Test.YtpenhliaelhnoaaGreatDoorVbGz12

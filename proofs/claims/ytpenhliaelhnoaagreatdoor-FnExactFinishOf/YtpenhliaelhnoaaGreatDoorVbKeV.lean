/-
  What impl's ProofOk answers.
-/
import Derived.Test.YtpenhliaelhnoaaGreatDoorVbGz7
import Derived.Test.YtpenhliaelhnoaaGreatDoorVbGz10
import Derived.Test.YtpenhliaelhnoaaGreatDoorVbUnsI
import Derived.Test.YtpenhliaelhnoaaGreatDoorVbGz13
import Derived.Test.YtpenhliaelhnoaaGreatDoorVbGz8
import Derived.Test.YtpenhliaelhnoaaGreatDoorVbGz16

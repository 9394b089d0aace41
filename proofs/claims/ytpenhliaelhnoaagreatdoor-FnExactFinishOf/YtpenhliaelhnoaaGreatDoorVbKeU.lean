/-
  What spec's ProofOk answers.
-/
import Derived.Test.YtpenhliaelhnoaaGreatDoorVbGz7
import Derived.Test.YtpenhliaelhnoaaGreatDoorVbGz18
import Derived.Test.YtpenhliaelhnoaaGreatDoorVbUnsS
import Derived.Test.YtpenhliaelhnoaaGreatDoorVbFrS
import Derived.Test.YtpenhliaelhnoaaGreatDoorVbGz8
import Derived.Test.YtpenhliaelhnoaaGreatDoorVbGz16

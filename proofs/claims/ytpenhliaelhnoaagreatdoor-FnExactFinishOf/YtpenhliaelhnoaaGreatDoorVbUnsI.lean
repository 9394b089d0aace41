/-
  What impl opens.
-/
import Derived.Test.YtpenhliaelhnoaaGreatDoorVbSealI

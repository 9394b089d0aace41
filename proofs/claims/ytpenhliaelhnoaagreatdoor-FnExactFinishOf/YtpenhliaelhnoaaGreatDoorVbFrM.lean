/-
  A Frame that is being made in a block of its own: what setting a field leaves.
-/
import Derived.Test.YtpenhliaelhnoaaGreatDoorVbFrZ

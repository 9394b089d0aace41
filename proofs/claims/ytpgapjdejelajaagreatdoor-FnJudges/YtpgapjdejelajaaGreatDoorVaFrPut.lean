/-
  What spec's PutFrame answers.
-/
import Derived.Test.YtpgapjdejelajaaGreatDoorVaGr9

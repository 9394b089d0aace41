/-
  A list of texts in memory, and one of them drawn.
-/
import Derived.Test.YtpgapjdejelajaaGreatDoorVaDrawB

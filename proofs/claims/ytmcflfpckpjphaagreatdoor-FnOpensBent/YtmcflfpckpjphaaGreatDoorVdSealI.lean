/-
  What impl seals, and opens.
-/
import Derived.Test.YtmcflfpckpjphaaGreatDoorVdBas6
import Derived.Test.YtmcflfpckpjphaaGreatDoorVdBas7

/-
  What impl seals, and opens.
-/
import Derived.Test.YtmcflfpckpjphaaGreatDoorVcBas6
import Derived.Test.YtmcflfpckpjphaaGreatDoorVcBas7

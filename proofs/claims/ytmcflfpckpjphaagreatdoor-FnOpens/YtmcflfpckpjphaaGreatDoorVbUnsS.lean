/-
  What spec opens.
-/
import Derived.Test.YtmcflfpckpjphaaGreatDoorVbBas9
import Derived.Test.YtmcflfpckpjphaaGreatDoorVbBas6
import Derived.Test.YtmcflfpckpjphaaGreatDoorVbBas7
import Derived.Test.YtmcflfpckpjphaaGreatDoorVbFrQ2

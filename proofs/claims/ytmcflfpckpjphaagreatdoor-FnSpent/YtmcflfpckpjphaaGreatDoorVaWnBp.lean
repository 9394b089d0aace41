/-
  What is taken into a window is had then, and is taken no more; what was had is had still, if it is not too old.
-/
import Derived.Test.YtmcflfpckpjphaaGreatDoorVaBas2

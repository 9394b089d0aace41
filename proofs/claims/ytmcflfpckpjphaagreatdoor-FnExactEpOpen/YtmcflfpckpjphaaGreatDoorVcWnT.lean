/-
  What spec's WinNew and WinList answer; appending to a slice that is none or the call's own.
-/
import Derived.Test.YtmcflfpckpjphaaGreatDoorVcBas2

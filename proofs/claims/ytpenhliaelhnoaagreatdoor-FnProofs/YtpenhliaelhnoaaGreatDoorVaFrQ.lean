/-
  What impl's putCookie and putSealed answer: bytes that are laid behind others.
-/
import Derived.Test.YtpenhliaelhnoaaGreatDoorVaGz10
import Derived.Deep.RegionHeld3

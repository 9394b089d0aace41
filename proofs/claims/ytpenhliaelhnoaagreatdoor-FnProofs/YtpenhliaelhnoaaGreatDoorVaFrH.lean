/-
  Frames read back out of their bytes, kind by kind: what stands at each place of a right frame's bytes.
-/
import Derived.Test.YtpenhliaelhnoaaGreatDoorVaGz7

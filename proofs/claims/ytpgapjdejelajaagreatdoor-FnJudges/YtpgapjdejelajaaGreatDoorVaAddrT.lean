/-
  What spec's l6Num and AddrText answer: a number's digits, an address's text.
-/
import Derived.Test.YtpgapjdejelajaaGreatDoorVaGr4
import Derived.Laws.Concat
import Derived.Laws.BitsAllLaws

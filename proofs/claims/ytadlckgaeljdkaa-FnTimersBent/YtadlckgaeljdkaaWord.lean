/-
  What impl's and spec's Rot and Add32 answer at every two ints: the same number; nothing in memory turns.
-/
import Derived.Test.YtadlckgaeljdkaaProg
import Derived.Test.YtadlckgaeljdkaaBits
import Derived.WalkLawsBesides
import Derived.Deep.QuietTactic
import Derived.BigQuiet
namespace Go.Proofs.Ytadlckgaeljdkaa.Word
open Go.RowKit Go.Proofs.Ytadlckgaeljdkaa.Bits

set_option maxRecDepth 100000 in
theorem rot_none (x : Int) : wrap64 (bits BinOp.or IntKind.u32 (x % 4294967296) 0) = rot x 0 := by
  obtain ⟨X, hX⟩ := Int.eq_ofNat_of_zero_le (show 0 ≤ x % 4294967296 by omega)
  have h : bits BinOp.or IntKind.u32 (X : Int) ((0 : Nat) : Int) = ((X ||| 0 : Nat) : Int) := or_u32 X 0 (by omega) (by omega)
  unfold rot
  rw [if_neg (by omega), hX, show (0 : Int) = ((0 : Nat) : Int) from rfl, h, Nat.or_zero, IntWalk.wrap64_in _ (by omega)]

set_option maxRecDepth 100000 in
theorem add_wide (a b : Int) : bits BinOp.and IntKind.i64 (a % 4294967296 + b % 4294967296) 4294967295 = (a + b) % 4294967296 := by
  rw [mask32]; omega

end Go.Proofs.Ytadlckgaeljdkaa.Word

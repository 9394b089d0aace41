/-
  What impl's and spec's Rot and Add32 answer at every two ints: the same number; nothing in memory turns.
-/
import Derived.Test.YtmcflfpckpjphaaProg
import Derived.Test.YtmcflfpckpjphaaBits
import Derived.WalkLawsBesides
import Derived.Deep.QuietTactic
import Derived.BigQuiet
namespace Go.Proofs.Ytmcflfpckpjphaa.Word
open Go.RowKit Go.Proofs.Ytmcflfpckpjphaa.Bits

theorem rot_none (x : Int) : wrap64 (bits BinOp.or IntKind.u32 (x % 4294967296) 0) = rot x 0 := by
  obtain ⟨X, hX⟩ := Int.eq_ofNat_of_zero_le (show 0 ≤ x % 4294967296 by omega)
  have h : bits BinOp.or IntKind.u32 (X : Int) ((0 : Nat) : Int) = ((X ||| 0 : Nat) : Int) := or_u32 X 0 (by omega) (by omega)
  unfold rot
  rw [if_neg (by omega), hX, show (0 : Int) = ((0 : Nat) : Int) from rfl, h, Nat.or_zero, IntWalk.wrap64_in _ (by omega)]

theorem specRot (x n : Int) (w : World) :
    Calls Try.prog 129 #[.int .i64 x, .int .i64 n] w fun e w' => e = .returned (.int .i64 (rot x n)) ∧ ∃ m, w' = w.drewN m := by
  have hm := mask32 x
  by_cases h : 1 ≤ n ∧ n ≤ 31
  · obtain ⟨a1, a2⟩ := h
    go_enter Try.func129, Try.ntmps129
    go_wp2
    go_quiet (fail)
    go_wp2
    go_ret
    exact ⟨congrArg (fun z => Ending.returned (.int .i64 z)) (rot_wide x n a1 a2), _, rfl⟩
  · have hr : rot x n = x % 4294967296 := by unfold rot; rw [if_neg h]
    have H : Hid (rot x n = x % 4294967296) := hr
    clear hr
    rcases (show n < 1 ∨ 31 < n by omega) with h' | h'
    all_goals
      go_enter Try.func129, Try.ntmps129
      go_wp2
      go_ret
      exact ⟨by rw [H.out]; rfl, 0, rfl⟩

theorem add_wide (a b : Int) : bits BinOp.and IntKind.i64 (a % 4294967296 + b % 4294967296) 4294967295 = (a + b) % 4294967296 := by
  rw [mask32]; omega

end Go.Proofs.Ytmcflfpckpjphaa.Word

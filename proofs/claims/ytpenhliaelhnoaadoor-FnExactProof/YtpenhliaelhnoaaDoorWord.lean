/-
  What impl's and spec's Rot and Add32 answer at every two ints: the same number; nothing in memory turns.
-/
import Derived.Test.YtpenhliaelhnoaaDoorProg
import Derived.Test.YtpenhliaelhnoaaDoorBits
import Derived.WalkLawsBesides
import Derived.Deep.QuietTactic
import Derived.BigQuiet
namespace Go.Proofs.YtpenhliaelhnoaaDoor.Word
open Go.RowKit Go.Proofs.YtpenhliaelhnoaaDoor.Bits

set_option maxRecDepth 100000 in
theorem rot_none (x : Int) : wrap64 (bits BinOp.or IntKind.u32 (x % 4294967296) 0) = rot x 0 := by
  obtain ⟨X, hX⟩ := Int.eq_ofNat_of_zero_le (show 0 ≤ x % 4294967296 by omega)
  have h : bits BinOp.or IntKind.u32 (X : Int) ((0 : Nat) : Int) = ((X ||| 0 : Nat) : Int) := or_u32 X 0 (by omega) (by omega)
  unfold rot
  rw [if_neg (by omega), hX, show (0 : Int) = ((0 : Nat) : Int) from rfl, h, Nat.or_zero, IntWalk.wrap64_in _ (by omega)]

set_option maxRecDepth 100000 in
theorem implRot (x n : Int) (w : World) :
    Calls Tryd.prog 88 #[.int .i64 x, .int .i64 n] w fun e w' => e = .returned (.int .i64 (rot x n)) ∧ ∃ m, w' = w.drewN m := by
  by_cases h1 : n < 0
  · have hr : rot x n = x % 4294967296 := by unfold rot; rw [if_neg (by omega)]
    have H : Hid (rot x n = x % 4294967296) := hr
    clear hr
    go_enter Tryd.func88, Tryd.ntmps88
    go_wp2
    go_ret
    exact ⟨by rw [H.out]; rfl, 0, rfl⟩
  · by_cases h2 : 32 ≤ n
    · have hr : rot x n = x % 4294967296 := by unfold rot; rw [if_neg (by omega)]
      have H : Hid (rot x n = x % 4294967296) := hr
      clear hr
      go_enter Tryd.func88, Tryd.ntmps88
      go_wp2
      go_ret
      exact ⟨by rw [H.out]; rfl, 0, rfl⟩
    · by_cases h3 : n = 0
      · subst h3
        go_enter Tryd.func88, Tryd.ntmps88
        go_wp2
        go_quiet (fail)
        go_wp2
        go_ret
        exact ⟨congrArg (fun z => Ending.returned (.int .i64 z)) (rot_none x), _, rfl⟩
      · have a1 : 1 ≤ n := by omega
        have a2 : n ≤ 31 := by omega
        clear h1 h2 h3
        go_enter Tryd.func88, Tryd.ntmps88
        go_wp2
        go_quiet (fail)
        go_wp2
        go_ret
        exact ⟨congrArg (fun z => Ending.returned (.int .i64 z)) (rot_word x n a1 a2), _, rfl⟩

set_option maxRecDepth 100000 in
theorem specRot (x n : Int) (w : World) :
    Calls Tryd.prog 86 #[.int .i64 x, .int .i64 n] w fun e w' => e = .returned (.int .i64 (rot x n)) ∧ ∃ m, w' = w.drewN m := by
  have hm := mask32 x
  by_cases h : 1 ≤ n ∧ n ≤ 31
  · obtain ⟨a1, a2⟩ := h
    go_enter Tryd.func86, Tryd.ntmps86
    go_wp2
    go_quiet (fail)
    go_wp2
    go_ret
    exact ⟨congrArg (fun z => Ending.returned (.int .i64 z)) (rot_wide x n a1 a2), _, rfl⟩
  · have hr : rot x n = x % 4294967296 := by unfold rot; rw [if_neg h]
    have H : Hid (rot x n = x % 4294967296) := hr
    clear hr
    rcases (show n < 1 ∨ 31 < n by omega) with h' | h'
    all_goals
      go_enter Tryd.func86, Tryd.ntmps86
      go_wp2
      go_ret
      exact ⟨by rw [H.out]; rfl, 0, rfl⟩

set_option maxRecDepth 100000 in
theorem implAdd (a b : Int) (w : World) :
    Calls Tryd.prog 89 #[.int .i64 a, .int .i64 b] w fun e w' => e = .returned (.int .i64 ((a + b) % 4294967296)) ∧ w' = w := by
  go_enter Tryd.func89, Tryd.ntmps89
  go_wp2
  go_ret
  exact ⟨rfl, rfl⟩

set_option maxRecDepth 100000 in
theorem add_wide (a b : Int) : bits BinOp.and IntKind.i64 (a % 4294967296 + b % 4294967296) 4294967295 = (a + b) % 4294967296 := by
  rw [mask32]; omega

end Go.Proofs.YtpenhliaelhnoaaDoor.Word

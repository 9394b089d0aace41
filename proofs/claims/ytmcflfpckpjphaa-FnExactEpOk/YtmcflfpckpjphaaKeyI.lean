/-
  What impl's isEpoch and isKey answer.
-/
import Derived.Test.YtmcflfpckpjphaaWords
namespace Go.Proofs.Ytmcflfpckpjphaa.KeyI
open Go.RowKit Go.Proofs.Ytmcflfpckpjphaa.Words

theorem isEpoch (x : Int) (w : World) :
    Calls Try.prog 63 #[.int .i64 x] w fun e w' => e = .returned (.bool (isIn x 0 4294967295)) ∧ w = w' := by
  by_cases h1 : x ≥ 0
  · by_cases h2 : x ≤ 4294967295
    · have H : Hid (isIn x 0 4294967295 = true) := isIn_yes ⟨h1, by omega⟩
      go_enter Try.func63, Try.ntmps63
      go_wp2
      go_ret
      exact ⟨by rw [H.out]; simp, rfl⟩
    · have H : Hid (isIn x 0 4294967295 = false) := isIn_no (fun h => h2 (by omega))
      go_enter Try.func63, Try.ntmps63
      go_wp2
      go_ret
      exact ⟨by rw [H.out]; simp, rfl⟩
  · have H : Hid (isIn x 0 4294967295 = false) := isIn_no (fun h => h1 h.1)
    go_enter Try.func63, Try.ntmps63
    go_wp2
    go_ret
    exact ⟨by rw [H.out]; simp, rfl⟩

theorem isKey (a : Option Addr) (n c : Nat) (w : World) :
    Calls Try.prog 77 #[.slice a n c] w fun e w' => e = .returned (.bool ((n : Int) == 32)) ∧ w = w' := by
  go_enter Try.func77, Try.ntmps77
  go_wp2
  go_ret
  exact ⟨by simp, rfl⟩
end Go.Proofs.Ytmcflfpckpjphaa.KeyI

/-
  Two timers, compared as structs; a timer that is handed back.
-/
import Derived.Test.YtadlckgaeljdkaaTmP
import Derived.Test.YtadlckgaeljdkaaRes
import Derived.Test.YtadlckgaeljdkaaBlk
import Derived.Deep.CutBlock
namespace Go.Proofs.Ytadlckgaeljdkaa.TmE
open Go.RowKit Go.Proofs.Ytadlckgaeljdkaa.Mem Go.Proofs.Ytadlckgaeljdkaa.Blk Go.Proofs.Ytadlckgaeljdkaa.Res Go.Proofs.Ytadlckgaeljdkaa.TmP

set_option maxRecDepth 100000 in
theorem eqTm (a : Bool) (x y z : Int) (a' : Bool) (x' y' z' : Int) (w : World) :
    (Op.equalIn 10000 26 (.agg #[.bool a, .int .i64 x, .int .i64 y, .int .i64 z]) (.agg #[.bool a', .int .i64 x', .int .i64 y', .int .i64 z'])).run Try.prog w = .ok (a == a' && x == x' && y == y' && z == z') w := by
  rw [show (10000 : Nat) = 9999 + 1 from rfl]
  unfold Op.equalIn
  by_cases h0 : a = a'
  · by_cases h1 : x = x'
    · by_cases h2 : y = y'
      · by_cases h3 : z = z'
        · simp [Sem.run_bind, Try.underlying26, underlying, go_sem, Result.andThen, h0, h1, h2, h3]
        · simp [Sem.run_bind, Try.underlying26, underlying, go_sem, Result.andThen, h0, h1, h2, h3]
      · simp [Sem.run_bind, Try.underlying26, underlying, go_sem, Result.andThen, h0, h1, h2]
    · simp [Sem.run_bind, Try.underlying26, underlying, go_sem, Result.andThen, h0, h1]
  · simp [Sem.run_bind, Try.underlying26, underlying, go_sem, Result.andThen, h0]
set_option maxRecDepth 100000 in
theorem aggTm : aggB Try.prog 26 4 = true := by kernel_rfl
set_option maxRecDepth 100000 in
theorem tm_eta (D : TmD) : tmV D = .agg #[.bool D.on, .int .i64 D.due, .int .i64 D.wait, .int .i64 D.tries] := rfl
set_option maxRecDepth 100000 in
/-- A timer that is stored into a block of its own. -/
theorem tm_stored {w : World} {g : Nat} {u0 u1 u2 u3 : Value} (D : TmD) (k : Blk w g 26 [u0, u1, u2, u3]) :
    Blk ((((w.setCell ⟨g, 0, none⟩ (.bool D.on)).setCell ⟨g, 1, none⟩ (.int .i64 D.due)).setCell ⟨g, 2, none⟩ (.int .i64 D.wait)).setCell ⟨g, 3, none⟩ (.int .i64 D.tries)) g 26 [.bool D.on, .int .i64 D.due, .int .i64 D.wait, .int .i64 D.tries] ∧
      (∀ B a, B ≤ g → Below B a w → Below B a ((((w.setCell ⟨g, 0, none⟩ (.bool D.on)).setCell ⟨g, 1, none⟩ (.int .i64 D.due)).setCell ⟨g, 2, none⟩ (.int .i64 D.wait)).setCell ⟨g, 3, none⟩ (.int .i64 D.tries))) := by
  refine ⟨(((k.set 0 _ (by simp [maxLen])).set 1 _ (by simp [maxLen])).set 2 _ (by simp [maxLen])).set 3 _ (by simp [maxLen]), fun B a hB h => ?_⟩
  exact (((h.setCell (by exact hB) _).setCell (by exact hB) _).setCell (by exact hB) _).setCell (by exact hB) _
end Go.Proofs.Ytadlckgaeljdkaa.TmE

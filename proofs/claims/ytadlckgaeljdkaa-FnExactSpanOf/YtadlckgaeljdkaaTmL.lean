/-
  What the laws' own toTimer and eqTimer answer.
-/
import Derived.Test.YtadlckgaeljdkaaTmE
import Derived.Test.YtadlckgaeljdkaaWords
namespace Go.Proofs.Ytadlckgaeljdkaa.TmL
open Go.RowKit Go.Proofs.Ytadlckgaeljdkaa.Mem Go.Proofs.Ytadlckgaeljdkaa.Blk Go.Proofs.Ytadlckgaeljdkaa.Words Go.Proofs.Ytadlckgaeljdkaa.Res Go.Proofs.Ytadlckgaeljdkaa.TmP Go.Proofs.Ytadlckgaeljdkaa.TmE

set_option maxRecDepth 100000 in
set_option maxHeartbeats 1600000 in
theorem toTimer (D : TmD) (w : World) :
    Calls Try.prog 22 #[tmV D] w fun e w' => e = .returned (tmV D) ∧ Below w.heap.size w w' := by
  unfold tmV
  go_enter Try.func22, Try.ntmps22
  go_wp2
  have b1 := Blk.new (w.alloc (.cells #[.bool D.on, .int .i64 D.due, .int .i64 D.wait, .int .i64 D.tries] 36)) 26 [.bool D.on, .int .i64 D.due, .int .i64 D.wait, .int .i64 D.tries]
  rw [World.size_alloc] at b1
  exact bodyPost_ret (v := tmV D) (res1 rfl (is_cell rfl (b1.alloc _) aggTm)) rfl ⟨rfl, (((Below.refl _ _).alloc (Nat.le_refl _) _).alloc (by simp) _).alloc (by simp; omega) _⟩

set_option maxRecDepth 100000 in
set_option maxHeartbeats 1600000 in
theorem eqTimer (D : TmD) (w : World) :
    Calls Try.prog 20 #[tmV D, tmV D] w fun e w' => e = .returned (.bool true) ∧ Below w.heap.size w w' := by
  have hb : (D.on != D.on) = false := by simp
  unfold tmV
  go_enter Try.func20, Try.ntmps20
  go_wp2
  go_ret
  exact ⟨by simp, ((Below.refl _ _).alloc (Nat.le_refl _) _).alloc (by simp) _⟩
end Go.Proofs.Ytadlckgaeljdkaa.TmL

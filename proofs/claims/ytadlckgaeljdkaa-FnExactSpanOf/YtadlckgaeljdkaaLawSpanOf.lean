/-
  The walk of the law FnExactSpanOf: at every argument it answers true, and nothing that was there is written.
-/
import Derived.Test.YtadlckgaeljdkaaTmI
import Derived.Test.YtadlckgaeljdkaaTmS
import Derived.Test.YtadlckgaeljdkaaTmL
namespace Go.Proofs.Ytadlckgaeljdkaa.LawSpanOf
open Go.RowKit Go.Proofs.Ytadlckgaeljdkaa.Mem Go.Proofs.Ytadlckgaeljdkaa.Blk Go.Proofs.Ytadlckgaeljdkaa.Words Go.Proofs.Ytadlckgaeljdkaa.Res Go.Proofs.Ytadlckgaeljdkaa.TmP Go.Proofs.Ytadlckgaeljdkaa.TmE

set_option maxRecDepth 100000 in
set_option maxHeartbeats 4000000 in
theorem walk (a0 : Int) (w : World) :
    Calls Try.prog 9 #[.int .i64 a0] w fun e w' => e = .returned (.bool true) ∧ Below w.heap.size w w' := by
  obtain ⟨N, hN⟩ : ∃ z : Int, spanOf a0 = z := ⟨_, rfl⟩
  have HN : Hid (spanOf a0 = N) := hN
  clear hN
  go_enter Try.func9, Try.ntmps9
  have B0 : Hid (Below w.heap.size w w) := Below.refl _ _
  go_wp2_with fail
  refine (TmS.specSpanOf a0 w).mono ?_
  rw [HN.out]
  rintro e x1 ⟨rfl, b⟩
  have L1 : Hid (w.heap.size ≤ x1.heap.size) := b.size
  have B1 : Hid (Below w.heap.size w x1) := B0.out.trans (b.mono B0.out.size)
  clear b B0
  go_wp2_with fail
  refine (TmI.implSpanOf a0 x1).mono ?_
  rw [HN.out]
  rintro e x2 ⟨rfl, b⟩
  have L2 : Hid (x1.heap.size ≤ x2.heap.size) := b.size
  have B2 : Hid (Below w.heap.size w x2) := B1.out.trans (b.mono B1.out.size)
  clear b B1
  have hh : (N != N) = false := by simp
  go_wp2
  go_ret
  exact ⟨rfl, B2.out⟩
end Go.Proofs.Ytadlckgaeljdkaa.LawSpanOf

/-
  The walk of the law FnExactTimerSet: at every argument it answers true, and nothing that was there is written.
-/
import Derived.Test.YtadlckgaeljdkaaTmI
import Derived.Test.YtadlckgaeljdkaaTmS
import Derived.Test.YtadlckgaeljdkaaTmL
namespace Go.Proofs.Ytadlckgaeljdkaa.LawTimerSet
open Go.RowKit Go.Proofs.Ytadlckgaeljdkaa.Mem Go.Proofs.Ytadlckgaeljdkaa.Blk Go.Proofs.Ytadlckgaeljdkaa.Words Go.Proofs.Ytadlckgaeljdkaa.Res Go.Proofs.Ytadlckgaeljdkaa.TmP Go.Proofs.Ytadlckgaeljdkaa.TmE

set_option maxRecDepth 100000 in
set_option maxHeartbeats 4000000 in
theorem walk (a0 : Int) (w : World) :
    Calls Try.prog 5 #[.int .i64 a0] w fun e w' => e = .returned (.bool true) ∧ Below w.heap.size w w' := by
  obtain ⟨N, hN⟩ : ∃ z : TmD, setT a0 = z := ⟨_, rfl⟩
  have HN : Hid (setT a0 = N) := hN
  clear hN
  go_enter Try.func5, Try.ntmps5
  have B0 : Hid (Below w.heap.size w w) := Below.refl _ _
  go_wp2_with fail
  refine (TmS.specTimerSet a0 w).mono ?_
  rw [HN.out]
  rintro e x1 ⟨rfl, b⟩
  have L1 : Hid (w.heap.size ≤ x1.heap.size) := b.size
  have B1 : Hid (Below w.heap.size w x1) := B0.out.trans (b.mono B0.out.size)
  clear b B0
  obtain ⟨x2, hx2⟩ : ∃ x2, x1.alloc (.cells #[.bool N.on, .int .i64 N.due, .int .i64 N.wait, .int .i64 N.tries] 26) = x2 := ⟨_, rfl⟩
  have HW2 : Hid (x1.alloc (.cells #[.bool N.on, .int .i64 N.due, .int .i64 N.wait, .int .i64 N.tries] 26) = x2) := hx2
  have b2 : Below x1.heap.size x1 x2 := by rw [← hx2]; exact (Below.refl _ _).alloc (Nat.le_refl _) _
  have KN : Blk x2 x1.heap.size 26 [.bool N.on, .int .i64 N.due, .int .i64 N.wait, .int .i64 N.tries] := by rw [← hx2]; exact Blk.new x1 _ _
  have HSZ2 : Hid (x2.heap.size = x1.heap.size + 1) := by rw [← hx2]; show _ = _; simp
  clear hx2
  have L2 : Hid (x1.heap.size ≤ x2.heap.size) := b2.size
  have B2 : Hid (Below w.heap.size w x2) := B1.out.trans (b2.mono B1.out.size)
  clear b2 B1
  unfold tmV
  go_upto_region 2 with fail
  rw [HW2.out]
  obtain ⟨g1, hg1⟩ : ∃ g, x1.heap.size = g := ⟨_, rfl⟩
  have Gg1 : Hid (x1.heap.size = g1 ∧ x2.heap.size = g1 + 1) := ⟨hg1, by rw [← hg1]; exact HSZ2.out⟩
  rw [hg1] at KN ⊢
  clear HW2 HSZ2 hg1
  have K12 : Hid (Blk x2 g1 26 [.bool N.on, .int .i64 N.due, .int .i64 N.wait, .int .i64 N.tries]) := KN
  clear KN
  go_wp2_with fail
  refine (TmI.implTimerSet a0 x2).mono ?_
  rw [HN.out]
  rintro e x3 ⟨rfl, b⟩
  have L3 : Hid (x2.heap.size ≤ x3.heap.size) := b.size
  have B3 : Hid (Below w.heap.size w x3) := B2.out.trans (b.mono B2.out.size)
  have K13 : Hid (Blk x3 g1 26 [.bool N.on, .int .i64 N.due, .int .i64 N.wait, .int .i64 N.tries]) := K12.out.later b
  clear b B2 K12
  obtain ⟨x4, hx4⟩ : ∃ x4, x3.alloc (.cells #[.bool N.on, .int .i64 N.due, .int .i64 N.wait, .int .i64 N.tries] 26) = x4 := ⟨_, rfl⟩
  have HW4 : Hid (x3.alloc (.cells #[.bool N.on, .int .i64 N.due, .int .i64 N.wait, .int .i64 N.tries] 26) = x4) := hx4
  have b4 : Below x3.heap.size x3 x4 := by rw [← hx4]; exact (Below.refl _ _).alloc (Nat.le_refl _) _
  have KN : Blk x4 x3.heap.size 26 [.bool N.on, .int .i64 N.due, .int .i64 N.wait, .int .i64 N.tries] := by rw [← hx4]; exact Blk.new x3 _ _
  have HSZ4 : Hid (x4.heap.size = x3.heap.size + 1) := by rw [← hx4]; show _ = _; simp
  clear hx4
  have L4 : Hid (x3.heap.size ≤ x4.heap.size) := b4.size
  have B4 : Hid (Below w.heap.size w x4) := B3.out.trans (b4.mono B3.out.size)
  have K14 : Hid (Blk x4 g1 26 [.bool N.on, .int .i64 N.due, .int .i64 N.wait, .int .i64 N.tries]) := K13.out.later b4
  clear b4 B3 K13
  unfold tmV
  go_upto_region 3 with fail
  rw [HW4.out]
  obtain ⟨g2, hg2⟩ : ∃ g, x3.heap.size = g := ⟨_, rfl⟩
  have Gg2 : Hid (x3.heap.size = g2 ∧ x4.heap.size = g2 + 1) := ⟨hg2, by rw [← hg2]; exact HSZ4.out⟩
  rw [hg2] at KN ⊢
  clear HW4 HSZ4 hg2
  have K24 : Hid (Blk x4 g2 26 [.bool N.on, .int .i64 N.due, .int .i64 N.wait, .int .i64 N.tries]) := KN
  clear KN
  have d0 := K14.out.cell 0 rfl
  have d1 := K14.out.cell 1 rfl
  have d2 := K14.out.cell 2 rfl
  have d3 := K14.out.cell 3 rfl
  have e0 := K24.out.cell 0 rfl
  have e1 := K24.out.cell 1 rfl
  have e2 := K24.out.cell 2 rfl
  have e3 := K24.out.cell 3 rfl
  go_wp2_with fail
  refine (TmL.eqTimer N x4).mono ?_
  rintro e x5 ⟨rfl, b⟩
  have L5 : Hid (x4.heap.size ≤ x5.heap.size) := b.size
  have B5 : Hid (Below w.heap.size w x5) := B4.out.trans (b.mono B4.out.size)
  have K15 : Hid (Blk x5 g1 26 [.bool N.on, .int .i64 N.due, .int .i64 N.wait, .int .i64 N.tries]) := K14.out.later b
  have K25 : Hid (Blk x5 g2 26 [.bool N.on, .int .i64 N.due, .int .i64 N.wait, .int .i64 N.tries]) := K24.out.later b
  clear b B4 K14 K24
  clear d0 d1 d2 d3
  clear e0 e1 e2 e3
  go_wp2
  go_ret
  exact ⟨rfl, B5.out⟩
end Go.Proofs.Ytadlckgaeljdkaa.LawTimerSet

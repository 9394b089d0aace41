/-
  The walk of the law FnExactTimerNext: at every argument it answers true, and nothing that was there is written.
-/
import Derived.Test.YtadlckgaeljdkaaTmI
import Derived.Test.YtadlckgaeljdkaaTmS
import Derived.Test.YtadlckgaeljdkaaTmL
namespace Go.Proofs.Ytadlckgaeljdkaa.LawTimerNext
open Go.RowKit Go.Proofs.Ytadlckgaeljdkaa.Mem Go.Proofs.Ytadlckgaeljdkaa.Blk Go.Proofs.Ytadlckgaeljdkaa.Words Go.Proofs.Ytadlckgaeljdkaa.Res Go.Proofs.Ytadlckgaeljdkaa.TmP Go.Proofs.Ytadlckgaeljdkaa.TmE

set_option maxRecDepth 100000 in
set_option maxHeartbeats 4000000 in
theorem walk (D : TmD) (a1 : Int) (w : World) :
    Calls Try.prog 8 #[tmV D, .int .i64 a1] w fun e w' => e = .returned (.bool true) ∧ Below w.heap.size w w' := by
  obtain ⟨N, hN⟩ : ∃ z : TmD, nextT D a1 = z := ⟨_, rfl⟩
  have HN : Hid (nextT D a1 = N) := hN
  clear hN
  obtain ⟨c, hc⟩ : ∃ z : Int, nextC D a1 = z := ⟨_, rfl⟩
  have HC : Hid (nextC D a1 = c) := hc
  clear hc
  go_enter Try.func8, Try.ntmps8
  obtain ⟨x1, hx1⟩ : ∃ x1, w.alloc (.cells #[.bool D.on, .int .i64 D.due, .int .i64 D.wait, .int .i64 D.tries] 36) = x1 := ⟨_, rfl⟩
  have HW1 : Hid (w.alloc (.cells #[.bool D.on, .int .i64 D.due, .int .i64 D.wait, .int .i64 D.tries] 36) = x1) := hx1
  have b1 : Below w.heap.size w x1 := by rw [← hx1]; exact (Below.refl _ _).alloc (Nat.le_refl _) _
  have KN : Blk x1 w.heap.size 36 [.bool D.on, .int .i64 D.due, .int .i64 D.wait, .int .i64 D.tries] := by rw [← hx1]; exact Blk.new w _ _
  have HSZ1 : Hid (x1.heap.size = w.heap.size + 1) := by rw [← hx1]; show _ = _; simp
  clear hx1
  have L1 : Hid (w.heap.size ≤ x1.heap.size) := b1.size
  have B1 : Hid (Below w.heap.size w x1) := b1
  clear b1
  unfold tmV
  go_upto_region 1 with fail
  rw [HW1.out]
  obtain ⟨gt, hgt⟩ : ∃ g, w.heap.size = g := ⟨_, rfl⟩
  have Ggt : Hid (w.heap.size = gt ∧ x1.heap.size = gt + 1) := ⟨hgt, by rw [← hgt]; exact HSZ1.out⟩
  rw [hgt] at KN ⊢
  clear HW1 HSZ1 hgt
  have KT1 : Hid (Blk x1 gt 36 [.bool D.on, .int .i64 D.due, .int .i64 D.wait, .int .i64 D.tries]) := KN
  clear KN
  have d0 := KT1.out.cell 0 rfl
  have d1 := KT1.out.cell 1 rfl
  have d2 := KT1.out.cell 2 rfl
  have d3 := KT1.out.cell 3 rfl
  go_wp2_with fail
  refine (TmL.toTimer D x1).mono ?_
  rintro e x2 ⟨rfl, b⟩
  have L2 : Hid (x1.heap.size ≤ x2.heap.size) := b.size
  have B2 : Hid (Below w.heap.size w x2) := B1.out.trans (b.mono B1.out.size)
  have KT2 : Hid (Blk x2 gt 36 [.bool D.on, .int .i64 D.due, .int .i64 D.wait, .int .i64 D.tries]) := KT1.out.later b
  clear b B1 KT1
  go_wp2_with fail
  refine (TmS.specTimerNext D a1 x2).mono ?_
  rw [HN.out, HC.out]
  rintro e x3 ⟨rfl, b⟩
  have L3 : Hid (x2.heap.size ≤ x3.heap.size) := b.size
  have B3 : Hid (Below w.heap.size w x3) := B2.out.trans (b.mono B2.out.size)
  have KT3 : Hid (Blk x3 gt 36 [.bool D.on, .int .i64 D.due, .int .i64 D.wait, .int .i64 D.tries]) := KT2.out.later b
  clear b B2 KT2
  clear d0 d1 d2 d3
  obtain ⟨x4, hx4⟩ : ∃ x4, x3.alloc (.cells #[.bool N.on, .int .i64 N.due, .int .i64 N.wait, .int .i64 N.tries] 26) = x4 := ⟨_, rfl⟩
  have HW4 : Hid (x3.alloc (.cells #[.bool N.on, .int .i64 N.due, .int .i64 N.wait, .int .i64 N.tries] 26) = x4) := hx4
  have b4 : Below x3.heap.size x3 x4 := by rw [← hx4]; exact (Below.refl _ _).alloc (Nat.le_refl _) _
  have KN : Blk x4 x3.heap.size 26 [.bool N.on, .int .i64 N.due, .int .i64 N.wait, .int .i64 N.tries] := by rw [← hx4]; exact Blk.new x3 _ _
  have HSZ4 : Hid (x4.heap.size = x3.heap.size + 1) := by rw [← hx4]; show _ = _; simp
  clear hx4
  have L4 : Hid (x3.heap.size ≤ x4.heap.size) := b4.size
  have B4 : Hid (Below w.heap.size w x4) := B3.out.trans (b4.mono B3.out.size)
  have KT4 : Hid (Blk x4 gt 36 [.bool D.on, .int .i64 D.due, .int .i64 D.wait, .int .i64 D.tries]) := KT3.out.later b4
  clear b4 B3 KT3
  unfold tmV
  go_upto_region 2 with fail
  rw [HW4.out]
  obtain ⟨g1, hg1⟩ : ∃ g, x3.heap.size = g := ⟨_, rfl⟩
  have Gg1 : Hid (x3.heap.size = g1 ∧ x4.heap.size = g1 + 1) := ⟨hg1, by rw [← hg1]; exact HSZ4.out⟩
  rw [hg1] at KN ⊢
  clear HW4 HSZ4 hg1
  have K14 : Hid (Blk x4 g1 26 [.bool N.on, .int .i64 N.due, .int .i64 N.wait, .int .i64 N.tries]) := KN
  clear KN
  have d0 := KT4.out.cell 0 rfl
  have d1 := KT4.out.cell 1 rfl
  have d2 := KT4.out.cell 2 rfl
  have d3 := KT4.out.cell 3 rfl
  go_wp2_with fail
  refine (TmL.toTimer D x4).mono ?_
  rintro e x5 ⟨rfl, b⟩
  have L5 : Hid (x4.heap.size ≤ x5.heap.size) := b.size
  have B5 : Hid (Below w.heap.size w x5) := B4.out.trans (b.mono B4.out.size)
  have KT5 : Hid (Blk x5 gt 36 [.bool D.on, .int .i64 D.due, .int .i64 D.wait, .int .i64 D.tries]) := KT4.out.later b
  have K15 : Hid (Blk x5 g1 26 [.bool N.on, .int .i64 N.due, .int .i64 N.wait, .int .i64 N.tries]) := K14.out.later b
  clear b B4 KT4 K14
  go_wp2_with fail
  refine (TmI.implTimerNext D a1 x5).mono ?_
  rw [HN.out, HC.out]
  rintro e x6 ⟨rfl, b⟩
  have L6 : Hid (x5.heap.size ≤ x6.heap.size) := b.size
  have B6 : Hid (Below w.heap.size w x6) := B5.out.trans (b.mono B5.out.size)
  have KT6 : Hid (Blk x6 gt 36 [.bool D.on, .int .i64 D.due, .int .i64 D.wait, .int .i64 D.tries]) := KT5.out.later b
  have K16 : Hid (Blk x6 g1 26 [.bool N.on, .int .i64 N.due, .int .i64 N.wait, .int .i64 N.tries]) := K15.out.later b
  clear b B5 KT5 K15
  clear d0 d1 d2 d3
  obtain ⟨x7, hx7⟩ : ∃ x7, x6.alloc (.cells #[.bool N.on, .int .i64 N.due, .int .i64 N.wait, .int .i64 N.tries] 26) = x7 := ⟨_, rfl⟩
  have HW7 : Hid (x6.alloc (.cells #[.bool N.on, .int .i64 N.due, .int .i64 N.wait, .int .i64 N.tries] 26) = x7) := hx7
  have b7 : Below x6.heap.size x6 x7 := by rw [← hx7]; exact (Below.refl _ _).alloc (Nat.le_refl _) _
  have KN : Blk x7 x6.heap.size 26 [.bool N.on, .int .i64 N.due, .int .i64 N.wait, .int .i64 N.tries] := by rw [← hx7]; exact Blk.new x6 _ _
  have HSZ7 : Hid (x7.heap.size = x6.heap.size + 1) := by rw [← hx7]; show _ = _; simp
  clear hx7
  have L7 : Hid (x6.heap.size ≤ x7.heap.size) := b7.size
  have B7 : Hid (Below w.heap.size w x7) := B6.out.trans (b7.mono B6.out.size)
  have KT7 : Hid (Blk x7 gt 36 [.bool D.on, .int .i64 D.due, .int .i64 D.wait, .int .i64 D.tries]) := KT6.out.later b7
  have K17 : Hid (Blk x7 g1 26 [.bool N.on, .int .i64 N.due, .int .i64 N.wait, .int .i64 N.tries]) := K16.out.later b7
  clear b7 B6 KT6 K16
  unfold tmV
  go_upto_region 3 with fail
  rw [HW7.out]
  obtain ⟨g2, hg2⟩ : ∃ g, x6.heap.size = g := ⟨_, rfl⟩
  have Gg2 : Hid (x6.heap.size = g2 ∧ x7.heap.size = g2 + 1) := ⟨hg2, by rw [← hg2]; exact HSZ7.out⟩
  rw [hg2] at KN ⊢
  clear HW7 HSZ7 hg2
  have K27 : Hid (Blk x7 g2 26 [.bool N.on, .int .i64 N.due, .int .i64 N.wait, .int .i64 N.tries]) := KN
  clear KN
  have d0 := K17.out.cell 0 rfl
  have d1 := K17.out.cell 1 rfl
  have d2 := K17.out.cell 2 rfl
  have d3 := K17.out.cell 3 rfl
  have e0 := K27.out.cell 0 rfl
  have e1 := K27.out.cell 1 rfl
  have e2 := K27.out.cell 2 rfl
  have e3 := K27.out.cell 3 rfl
  go_wp2_with fail
  refine (TmL.eqTimer N x7).mono ?_
  rintro e x8 ⟨rfl, b⟩
  have L8 : Hid (x7.heap.size ≤ x8.heap.size) := b.size
  have B8 : Hid (Below w.heap.size w x8) := B7.out.trans (b.mono B7.out.size)
  have KT8 : Hid (Blk x8 gt 36 [.bool D.on, .int .i64 D.due, .int .i64 D.wait, .int .i64 D.tries]) := KT7.out.later b
  have K18 : Hid (Blk x8 g1 26 [.bool N.on, .int .i64 N.due, .int .i64 N.wait, .int .i64 N.tries]) := K17.out.later b
  have K28 : Hid (Blk x8 g2 26 [.bool N.on, .int .i64 N.due, .int .i64 N.wait, .int .i64 N.tries]) := K27.out.later b
  clear b B7 KT7 K17 K27
  clear d0 d1 d2 d3
  clear e0 e1 e2 e3
  have hh : (c != c) = false := by simp
  go_wp2
  go_ret
  exact ⟨rfl, B8.out⟩
end Go.Proofs.Ytadlckgaeljdkaa.LawTimerNext

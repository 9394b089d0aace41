/-
  The walk of the law FnExactTimerFires: at every argument it answers true, and nothing that was there is written.
-/
import Derived.Test.YtadlckgaeljdkaaTmI
import Derived.Test.YtadlckgaeljdkaaTmS
import Derived.Test.YtadlckgaeljdkaaTmL
namespace Go.Proofs.Ytadlckgaeljdkaa.LawTimerFires
open Go.RowKit Go.Proofs.Ytadlckgaeljdkaa.Mem Go.Proofs.Ytadlckgaeljdkaa.Blk Go.Proofs.Ytadlckgaeljdkaa.Words Go.Proofs.Ytadlckgaeljdkaa.Res Go.Proofs.Ytadlckgaeljdkaa.TmP Go.Proofs.Ytadlckgaeljdkaa.TmE

set_option maxRecDepth 100000 in
set_option maxHeartbeats 4000000 in
theorem walk (D : TmD) (a1 : Int) (w : World) :
    Calls Try.prog 7 #[tmV D, .int .i64 a1] w fun e w' => e = .returned (.bool true) ∧ Below w.heap.size w w' := by
  obtain ⟨v, hv⟩ : ∃ z : Bool, fires D a1 = z := ⟨_, rfl⟩
  have HV : Hid (fires D a1 = v) := hv
  clear hv
  go_enter Try.func7, Try.ntmps7
  obtain ⟨x1, hx1⟩ : ∃ x1, w.alloc (.cells #[.bool D.on, .int .i64 D.due, .int .i64 D.wait, .int .i64 D.tries] 36) = x1 := ⟨_, rfl⟩
  have HW1 : Hid (w.alloc (.cells #[.bool D.on, .int .i64 D.due, .int .i64 D.wait, .int .i64 D.tries] 36) = x1) := hx1
  have b1 : Below w.heap.size w x1 := by rw [← hx1]; exact (Below.refl _ _).alloc (Nat.le_refl _) _
  have KN : Blk x1 w.heap.size 36 [.bool D.on, .int .i64 D.due, .int .i64 D.wait, .int .i64 D.tries] := by rw [← hx1]; exact Blk.new w _ _
  have HSZ1 : Hid (x1.heap.size = w.heap.size + 1) := by rw [← hx1]; show _ = _; simp
  clear hx1
  have L1 : Hid (w.heap.size ≤ x1.heap.size) := b1.size
  have B1 : Hid (Below w.heap.size w x1) := b1
  clear b1
  unfold tmV
  go_upto_region 1 with fail
  rw [HW1.out]
  obtain ⟨gt, hgt⟩ : ∃ g, w.heap.size = g := ⟨_, rfl⟩
  have Ggt : Hid (w.heap.size = gt ∧ x1.heap.size = gt + 1) := ⟨hgt, by rw [← hgt]; exact HSZ1.out⟩
  rw [hgt] at KN ⊢
  clear HW1 HSZ1 hgt
  have KT1 : Hid (Blk x1 gt 36 [.bool D.on, .int .i64 D.due, .int .i64 D.wait, .int .i64 D.tries]) := KN
  clear KN
  have d0 := KT1.out.cell 0 rfl
  have d1 := KT1.out.cell 1 rfl
  have d2 := KT1.out.cell 2 rfl
  have d3 := KT1.out.cell 3 rfl
  go_wp2_with fail
  refine (TmL.toTimer D x1).mono ?_
  rintro e x2 ⟨rfl, b⟩
  have L2 : Hid (x1.heap.size ≤ x2.heap.size) := b.size
  have B2 : Hid (Below w.heap.size w x2) := B1.out.trans (b.mono B1.out.size)
  have KT2 : Hid (Blk x2 gt 36 [.bool D.on, .int .i64 D.due, .int .i64 D.wait, .int .i64 D.tries]) := KT1.out.later b
  clear b B1 KT1
  go_wp2_with fail
  refine (TmS.specTimerFires D a1 x2).mono ?_
  rw [HV.out]
  rintro e x3 ⟨rfl, b⟩
  have L3 : Hid (x2.heap.size ≤ x3.heap.size) := b.size
  have B3 : Hid (Below w.heap.size w x3) := B2.out.trans (b.mono B2.out.size)
  have KT3 : Hid (Blk x3 gt 36 [.bool D.on, .int .i64 D.due, .int .i64 D.wait, .int .i64 D.tries]) := KT2.out.later b
  clear b B2 KT2
  clear d0 d1 d2 d3
  have d0 := KT3.out.cell 0 rfl
  have d1 := KT3.out.cell 1 rfl
  have d2 := KT3.out.cell 2 rfl
  have d3 := KT3.out.cell 3 rfl
  go_wp2_with fail
  refine (TmL.toTimer D x3).mono ?_
  rintro e x4 ⟨rfl, b⟩
  have L4 : Hid (x3.heap.size ≤ x4.heap.size) := b.size
  have B4 : Hid (Below w.heap.size w x4) := B3.out.trans (b.mono B3.out.size)
  have KT4 : Hid (Blk x4 gt 36 [.bool D.on, .int .i64 D.due, .int .i64 D.wait, .int .i64 D.tries]) := KT3.out.later b
  clear b B3 KT3
  go_wp2_with fail
  refine (TmI.implTimerFires D a1 x4).mono ?_
  rw [HV.out]
  rintro e x5 ⟨rfl, b⟩
  have L5 : Hid (x4.heap.size ≤ x5.heap.size) := b.size
  have B5 : Hid (Below w.heap.size w x5) := B4.out.trans (b.mono B4.out.size)
  have KT5 : Hid (Blk x5 gt 36 [.bool D.on, .int .i64 D.due, .int .i64 D.wait, .int .i64 D.tries]) := KT4.out.later b
  clear b B4 KT4
  clear d0 d1 d2 d3
  have hh : (v != v) = false := by simp
  go_wp2
  go_ret
  exact ⟨rfl, B5.out⟩
end Go.Proofs.Ytadlckgaeljdkaa.LawTimerFires

/-
  The walks of the laws FnExactAddrOk and FnExactNear: at every argument they answer true, and nothing that was there is written.
-/
import Derived.Test.YticfgbfchpnpoaaAddrL
import Derived.Test.YticfgbfchpnpoaaAddrI
namespace Go.Proofs.Yticfgbfchpnpoaa.LawAddrs1
open Go.RowKit Go.Proofs.Yticfgbfchpnpoaa.Mem Go.Proofs.Yticfgbfchpnpoaa.Blk Go.Proofs.Yticfgbfchpnpoaa.AddrP Go.Proofs.Yticfgbfchpnpoaa.AddrS Go.Proofs.Yticfgbfchpnpoaa.AddrL Go.Proofs.Yticfgbfchpnpoaa.AddrI

set_option maxRecDepth 100000 in
set_option maxHeartbeats 800000 in
theorem addrOk_walk (h p : Int) (w : World) :
    Calls Try.prog 3 #[addrV h p] w fun e w' => e = .returned (.bool true) ∧ Below w.heap.size w w' := by
  obtain ⟨v, hv⟩ : ∃ v, addrOk h p = v := ⟨_, rfl⟩
  have HV : Hid (addrOk h p = v) := hv
  have hvv : (v != v) = false := by simp
  obtain ⟨w0, hw0⟩ : ∃ w0, w.alloc (.cells #[.int .i64 h, .int .i64 p] 23) = w0 := ⟨_, rfl⟩
  have HW0 : Hid (w.alloc (.cells #[.int .i64 h, .int .i64 p] 23) = w0) := hw0
  have B0 : Hid (Below w.heap.size w w0) := by rw [← hw0]; exact (Below.refl _ _).alloc (Nat.le_refl _) _
  have K0 : Hid (Blk w0 w.heap.size 23 [.int .i64 h, .int .i64 p]) := by rw [← hw0]; exact Blk.new w _ _
  clear hv hw0
  have c0 := K0.out.cell 0 rfl
  have c1 := K0.out.cell 1 rfl
  unfold addrV
  go_enter Try.func3, Try.ntmps3
  go_upto_region 1 with fail
  rw [HW0.out]
  go_wp2_with fail
  refine (toAddr h p w0).mono ?_
  rintro e w1 ⟨rfl, b1⟩
  have B1 : Hid (Below w.heap.size w w1) := B0.out.trans (b1.mono B0.out.size)
  have K1 : Hid (Blk w1 w.heap.size 23 [.int .i64 h, .int .i64 p]) := K0.out.later b1
  clear b1 B0 K0 c0 c1
  go_wp2_with fail
  refine (specAddrOk h p w1).mono ?_
  rw [HV.out]
  rintro e w2 ⟨rfl, b2⟩
  have B2 : Hid (Below w.heap.size w w2) := B1.out.trans (b2.mono B1.out.size)
  have K2 : Hid (Blk w2 w.heap.size 23 [.int .i64 h, .int .i64 p]) := K1.out.later b2
  clear b2 B1 K1
  have c0 := K2.out.cell 0 rfl
  have c1 := K2.out.cell 1 rfl
  go_wp2_with fail
  refine (toAddr h p w2).mono ?_
  rintro e w3 ⟨rfl, b3⟩
  have B3 : Hid (Below w.heap.size w w3) := B2.out.trans (b3.mono B2.out.size)
  clear b3 B2 K2 c0 c1
  go_wp2_with fail
  refine (implAddrOk h p w3).mono ?_
  rw [HV.out]
  rintro e w4 ⟨rfl, b4⟩
  have B4 : Hid (Below w.heap.size w w4) := B3.out.trans (b4.mono B3.out.size)
  clear b4 B3
  go_wp2
  go_ret
  exact ⟨rfl, B4.out⟩

theorem near_form (i : Int) : ∃ x y, (if 0 ≤ i ∧ i ≤ 255 then addrV (167772160 + i) (7000 + i) else addrV 0 0) = addrV x y := by
  split
  · exact ⟨_, _, rfl⟩
  · exact ⟨_, _, rfl⟩

set_option maxRecDepth 100000 in
set_option maxHeartbeats 1600000 in
theorem near_walk (i : Int) (w : World) :
    Calls Try.prog 6 #[.int .i64 i] w fun e w' => e = .returned (.bool true) ∧ Below w.heap.size w w' := by
  obtain ⟨x, y, hxy⟩ := near_form i
  have HV : Hid ((if 0 ≤ i ∧ i ≤ 255 then addrV (167772160 + i) (7000 + i) else addrV 0 0) = addrV x y) := hxy
  clear hxy
  go_enter Try.func6, Try.ntmps6
  go_wp2_with fail
  refine (specNear i w).mono ?_
  rw [HV.out]
  rintro e w1 ⟨rfl, b1⟩
  obtain ⟨w2, hw2⟩ : ∃ w2, w1.alloc (.cells #[.int .i64 x, .int .i64 y] 25) = w2 := ⟨_, rfl⟩
  have HW2 : Hid (w1.alloc (.cells #[.int .i64 x, .int .i64 y] 25) = w2) := hw2
  have B2 : Hid (Below w.heap.size w w2) := by rw [← hw2]; exact b1.alloc b1.size _
  have K2 : Hid (Blk w2 w1.heap.size 25 [.int .i64 x, .int .i64 y]) := by rw [← hw2]; exact Blk.new w1 _ _
  clear hw2 b1
  unfold addrV
  go_wp2_with fail
  rw [HW2.out]
  generalize w1.heap.size = g1 at *
  clear HW2
  refine (implNear i w2).mono ?_
  rw [HV.out]
  rintro e w3 ⟨rfl, b3⟩
  obtain ⟨w4, hw4⟩ : ∃ w4, w3.alloc (.cells #[.int .i64 x, .int .i64 y] 25) = w4 := ⟨_, rfl⟩
  have HW4 : Hid (w3.alloc (.cells #[.int .i64 x, .int .i64 y] 25) = w4) := hw4
  have B3 : Hid (Below w.heap.size w w3) := B2.out.trans (b3.mono B2.out.size)
  have B4 : Hid (Below w.heap.size w w4) := by rw [← hw4]; exact B3.out.alloc B3.out.size _
  have K4 : Hid (Blk w4 g1 25 [.int .i64 x, .int .i64 y]) := by rw [← hw4]; exact (K2.out.later b3).alloc _
  have L4 : Hid (Blk w4 w3.heap.size 25 [.int .i64 x, .int .i64 y]) := by rw [← hw4]; exact Blk.new w3 _ _
  clear hw4 b3 B2 K2 B3
  unfold addrV
  go_upto_region 3 with fail
  rw [HW4.out]
  generalize w3.heap.size = g3 at *
  have c0 := K4.out.cell 0 rfl
  have c1 := K4.out.cell 1 rfl
  have d0 := L4.out.cell 0 rfl
  have d1 := L4.out.cell 1 rfl
  clear HW4
  go_wp2_with fail
  refine (eqAddr x y x y w4).mono ?_
  rw [decide_eq_true (show x = x ∧ y = y from ⟨rfl, rfl⟩)]
  rintro e w5 ⟨rfl, b5⟩
  have B5 : Hid (Below w.heap.size w w5) := B4.out.trans (b5.mono B4.out.size)
  clear b5
  go_wp2
  go_ret
  exact ⟨rfl, B5.out⟩
end Go.Proofs.Yticfgbfchpnpoaa.LawAddrs1

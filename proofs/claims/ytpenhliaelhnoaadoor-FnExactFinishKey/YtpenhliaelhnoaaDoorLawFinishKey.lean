/-
  The walk of the law FnExactFinishKey: at every argument it answers true, and nothing that was there is written.
-/
import Derived.Test.YtpenhliaelhnoaaDoorKeJ
import Derived.Test.YtpenhliaelhnoaaDoorKeT
import Derived.Test.YtpenhliaelhnoaaDoorZoneB
import Derived.Test.YtpenhliaelhnoaaDoorZoneI
import Derived.Test.YtpenhliaelhnoaaDoorShp
import Derived.Test.YtpenhliaelhnoaaDoorOps
namespace Go.Proofs.YtpenhliaelhnoaaDoor.LawFinishKey
open Go.RowKit Go.Proofs.YtpenhliaelhnoaaDoor.Mem Go.Proofs.YtpenhliaelhnoaaDoor.Blk Go.Proofs.YtpenhliaelhnoaaDoor.Zone Go.Proofs.YtpenhliaelhnoaaDoor.ZoneB Go.Proofs.YtpenhliaelhnoaaDoor.ZoneI Go.Proofs.YtpenhliaelhnoaaDoor.MemI Go.Proofs.YtpenhliaelhnoaaDoor.Each Go.Proofs.YtpenhliaelhnoaaDoor.Copy Go.Proofs.YtpenhliaelhnoaaDoor.Ops Go.Proofs.YtpenhliaelhnoaaDoor.Shp Go.Proofs.YtpenhliaelhnoaaDoor.App Go.Proofs.YtpenhliaelhnoaaDoor.KeP Go.Proofs.YtpenhliaelhnoaaDoor.KeQ Go.Proofs.YtpenhliaelhnoaaDoor.Comp

set_option maxRecDepth 100000 in
set_option maxHeartbeats 8000000 in
theorem walk (s0 : Sl) (l0 : List Int) (w : World) (hT : Tab w) (h0 : SRd w s0 l0) :
    Calls Tryd.prog 4 #[.slice s0.a s0.n s0.c] w fun e w' => e = .returned (.bool true) ∧ Below w.heap.size w w' := by
  obtain ⟨R0, hR0⟩ : ∃ R : List Int, finK l0 = R := ⟨_, rfl⟩
  have HRD0 : Hid (finK l0 = R0) := hR0
  clear hR0
  have HT : Hid (Tab w) := hT
  clear hT
  have HR0 : Hid (SRd w s0 l0) := h0
  have HN0 : Hid (s0.n = l0.length) := h0.len
  clear h0
  go_enter Tryd.func4, Tryd.ntmps4
  by_cases hbig0 : (s0.n : Int) > 1048576
  · go_wp2
    go_ret
    exact ⟨rfl, Below.refl _ _⟩
  have HL0 : Hid (l0.length ≤ 1048576) := by have := HN0.out; show _ ≤ _; omega
  have HRS0 : Hid (R0.length ≤ 1048576) := by rw [← HRD0.out]; exact Nat.le_trans (finK_le _) (by omega)
  go_wp2_with fail
  refine (toB s0 l0 w HR0.out (by have := HL0.out; omega)).mono ?_
  rintro e x1 ⟨rfl, o, b1⟩
  obtain ⟨qp0, hq⟩ : ∃ q, w.heap.size = q := ⟨_, rfl⟩
  rw [hq] at o ⊢
  have L1 : Hid (w.heap.size ≤ x1.heap.size) := b1.size
  have B1 : Hid (Below w.heap.size w x1) := b1
  clear b1
  have Gqp0 : Hid (w.heap.size = qp0) := hq
  have Op0_1 : Hid (SOwn x1 qp0 x1.heap.size ⟨some ⟨qp0, 0, none⟩, s0.n, s0.n⟩ l0) := o
  clear o hq
  go_wp2_with fail
  refine (KeT.specFinishKey ⟨some ⟨qp0, 0, none⟩, s0.n, s0.n⟩ l0 x1 Op0_1.out.rd).mono ?_
  rw [HRD0.out]
  rintro e x2 ⟨Sw0, rfl, o0, b⟩
  have L2 : Hid (x1.heap.size ≤ x2.heap.size) := b.size
  have B2 : Hid (Below w.heap.size w x2) := B1.out.trans (b.mono B1.out.size)
  have Op0_2 : Hid (SOwn x2 qp0 x1.heap.size ⟨some ⟨qp0, 0, none⟩, s0.n, s0.n⟩ l0) := Op0_1.out.later b
  clear b B1 Op0_1
  have Ow0r_2 : Hid (SOwn x2 x1.heap.size x2.heap.size Sw0 R0) := o0
  clear o0
  go_upto_region 4 with fail
  clear Op0_2
  go_wp2_with fail
  refine (toB s0 l0 x2 (HR0.out.later B2.out) (by have := HL0.out; omega)).mono ?_
  rintro e x3 ⟨rfl, o, b3⟩
  obtain ⟨qx0, hq⟩ : ∃ q, x2.heap.size = q := ⟨_, rfl⟩
  rw [hq] at o ⊢
  have L3 : Hid (x2.heap.size ≤ x3.heap.size) := b3.size
  have B3 : Hid (Below w.heap.size w x3) := B2.out.trans (b3.mono B2.out.size)
  have Ow0r_3 : Hid (SOwn x3 x1.heap.size x2.heap.size Sw0 R0) := Ow0r_2.out.later b3
  clear b3 B2 Ow0r_2
  have Gqx0 : Hid (x2.heap.size = qx0) := hq
  have Ox0_3 : Hid (SOwn x3 qx0 x3.heap.size ⟨some ⟨qx0, 0, none⟩, s0.n, s0.n⟩ l0) := o
  clear o hq
  go_wp2_with fail
  refine (KeJ.implFinishKey ⟨some ⟨qx0, 0, none⟩, s0.n, s0.n⟩ l0 x3 (HT.out.later B3.out) Ox0_3.out.rd).mono ?_
  rw [HRD0.out]
  rintro e x4 ⟨Sg0, rfl, o0, b⟩
  have L4 : Hid (x3.heap.size ≤ x4.heap.size) := b.size
  have B4 : Hid (Below w.heap.size w x4) := B3.out.trans (b.mono B3.out.size)
  have Ow0r_4 : Hid (SOwn x4 x1.heap.size x2.heap.size Sw0 R0) := Ow0r_3.out.later b
  have Ox0_4 : Hid (SOwn x4 qx0 x3.heap.size ⟨some ⟨qx0, 0, none⟩, s0.n, s0.n⟩ l0) := Ox0_3.out.later b
  clear b B3 Ow0r_3 Ox0_3
  have Og0r_4 : Hid (SOwn x4 x3.heap.size x4.heap.size Sg0 R0) := o0
  clear o0
  go_upto_region 6 with fail
  go_wp2_with fail
  refine (eqB Sg0 Sw0 R0 R0 x4 Og0r_4.out.rd Ow0r_4.out.rd (by have := HRS0.out; omega) (by have := HRS0.out; omega)).mono ?_
  rw [decide_eq_true (show R0 = R0 from rfl)]
  rintro e x5 ⟨rfl, b5⟩
  have L5 : Hid (x4.heap.size ≤ x5.heap.size) := b5.size
  have B5 : Hid (Below w.heap.size w x5) := B4.out.trans (b5.mono B4.out.size)
  have Ow0r_5 : Hid (SOwn x5 x1.heap.size x2.heap.size Sw0 R0) := Ow0r_4.out.later b5
  have Ox0_5 : Hid (SOwn x5 qx0 x3.heap.size ⟨some ⟨qx0, 0, none⟩, s0.n, s0.n⟩ l0) := Ox0_4.out.later b5
  have Og0r_5 : Hid (SOwn x5 x3.heap.size x4.heap.size Sg0 R0) := Og0r_4.out.later b5
  clear b5 B4 Ow0r_4 Ox0_4 Og0r_4
  go_wp2_with fail
  refine (toB s0 l0 x5 (HR0.out.later B5.out) (by have := HL0.out; omega)).mono ?_
  rintro e x6 ⟨rfl, o, b6⟩
  obtain ⟨qy0, hq⟩ : ∃ q, x5.heap.size = q := ⟨_, rfl⟩
  rw [hq] at o ⊢
  have L6 : Hid (x5.heap.size ≤ x6.heap.size) := b6.size
  have B6 : Hid (Below w.heap.size w x6) := B5.out.trans (b6.mono B5.out.size)
  have Ow0r_6 : Hid (SOwn x6 x1.heap.size x2.heap.size Sw0 R0) := Ow0r_5.out.later b6
  have Ox0_6 : Hid (SOwn x6 qx0 x3.heap.size ⟨some ⟨qx0, 0, none⟩, s0.n, s0.n⟩ l0) := Ox0_5.out.later b6
  have Og0r_6 : Hid (SOwn x6 x3.heap.size x4.heap.size Sg0 R0) := Og0r_5.out.later b6
  clear b6 B5 Ow0r_5 Ox0_5 Og0r_5
  have Gqy0 : Hid (x5.heap.size = qy0) := hq
  have Oy0_6 : Hid (SOwn x6 qy0 x6.heap.size ⟨some ⟨qy0, 0, none⟩, s0.n, s0.n⟩ l0) := o
  clear o hq
  go_wp2_with fail
  refine (eqB ⟨some ⟨qx0, 0, none⟩, s0.n, s0.n⟩ ⟨some ⟨qy0, 0, none⟩, s0.n, s0.n⟩ l0 l0 x6 Ox0_6.out.rd Oy0_6.out.rd (by have := HL0.out; omega) (by have := HL0.out; omega)).mono ?_
  rw [decide_eq_true (show l0 = l0 from rfl)]
  rintro e x7 ⟨rfl, b7⟩
  have L7 : Hid (x6.heap.size ≤ x7.heap.size) := b7.size
  have B7 : Hid (Below w.heap.size w x7) := B6.out.trans (b7.mono B6.out.size)
  have Ow0r_7 : Hid (SOwn x7 x1.heap.size x2.heap.size Sw0 R0) := Ow0r_6.out.later b7
  have Ox0_7 : Hid (SOwn x7 qx0 x3.heap.size ⟨some ⟨qx0, 0, none⟩, s0.n, s0.n⟩ l0) := Ox0_6.out.later b7
  have Og0r_7 : Hid (SOwn x7 x3.heap.size x4.heap.size Sg0 R0) := Og0r_6.out.later b7
  have Oy0_7 : Hid (SOwn x7 qy0 x6.heap.size ⟨some ⟨qy0, 0, none⟩, s0.n, s0.n⟩ l0) := Oy0_6.out.later b7
  clear b7 B6 Ow0r_6 Ox0_6 Og0r_6 Oy0_6
  clear Oy0_7
  go_wp2_with fail
  refine (markB ⟨some ⟨qx0, 0, none⟩, s0.n, s0.n⟩ l0 (1 : Int) x7 qx0 x3.heap.size Ox0_7.out (by have := HL0.out; omega) (by omega) (by omega)).mono ?_
  rintro e x8 ⟨rfl, _, k8, _⟩
  have L8 : Hid (x7.heap.size ≤ x8.heap.size) := k8.size
  have B8 : Hid (Below w.heap.size w x8) := B7.out.trans (k8.below (by have := L1.out; have := Gqp0.out; have := L2.out; have := L3.out; have := Gqx0.out; have := L4.out; have := L5.out; have := L6.out; have := Gqy0.out; have := L7.out; have := L8.out; omega) B7.out.size)
  have Ow0r_8 : Hid (SOwn x8 x1.heap.size x2.heap.size Sw0 R0) := Ow0r_7.out.carry k8 (by have := L1.out; have := Gqp0.out; have := L2.out; have := L3.out; have := Gqx0.out; have := L4.out; have := L5.out; have := L6.out; have := Gqy0.out; have := L7.out; have := L8.out; omega)
  have Og0r_8 : Hid (SOwn x8 x3.heap.size x4.heap.size Sg0 R0) := Og0r_7.out.carry k8 (by have := L1.out; have := Gqp0.out; have := L2.out; have := L3.out; have := Gqx0.out; have := L4.out; have := L5.out; have := L6.out; have := Gqy0.out; have := L7.out; have := L8.out; omega)
  clear k8 B7 Ow0r_7 Ox0_7 Og0r_7
  have hk0 : ¬ (((1 : Int) + (s0.n : Int)) < 0) := by omega
  go_wp2_with fail
  refine (eqB Sg0 Sw0 R0 R0 x8 Og0r_8.out.rd Ow0r_8.out.rd (by have := HRS0.out; omega) (by have := HRS0.out; omega)).mono ?_
  rw [decide_eq_true (show R0 = R0 from rfl)]
  rintro e x9 ⟨rfl, b9⟩
  have L9 : Hid (x8.heap.size ≤ x9.heap.size) := b9.size
  have B9 : Hid (Below w.heap.size w x9) := B8.out.trans (b9.mono B8.out.size)
  have Ow0r_9 : Hid (SOwn x9 x1.heap.size x2.heap.size Sw0 R0) := Ow0r_8.out.later b9
  have Og0r_9 : Hid (SOwn x9 x3.heap.size x4.heap.size Sg0 R0) := Og0r_8.out.later b9
  clear b9 B8 Ow0r_8 Og0r_8
  have hms0 : (Sg0.n : Int) ≤ 1048576 := by have := Og0r_9.out.len; have := HRS0.out; omega
  go_wp2_with fail
  refine (markB Sg0 R0 (1 : Int) x9 x3.heap.size x4.heap.size Og0r_9.out (by have := HRS0.out; omega) (by omega) (by omega)).mono ?_
  rintro e x10 ⟨rfl, og, k10, _⟩
  have L10 : Hid (x9.heap.size ≤ x10.heap.size) := k10.size
  have B10 : Hid (Below w.heap.size w x10) := B9.out.trans (k10.below (by have := L1.out; have := Gqp0.out; have := L2.out; have := L3.out; have := Gqx0.out; have := L4.out; have := L5.out; have := L6.out; have := Gqy0.out; have := L7.out; have := L8.out; have := L9.out; have := L10.out; omega) B9.out.size)
  have Ow0r_10 : Hid (SOwn x10 x1.heap.size x2.heap.size Sw0 R0) := Ow0r_9.out.carry k10 (by have := L1.out; have := Gqp0.out; have := L2.out; have := L3.out; have := Gqx0.out; have := L4.out; have := L5.out; have := L6.out; have := Gqy0.out; have := L7.out; have := L8.out; have := L9.out; have := L10.out; omega)
  clear k10 B9 Ow0r_9 Og0r_9
  have Og0r_10 : Hid (SOwn x10 x3.heap.size x4.heap.size Sg0 (marks (1 : Int) Sg0.n)) := og
  clear og
  have hmm : (((1 : Int) + (Sg0.n : Int)) != ((1 : Int) + (Sg0.n : Int))) = false := by simp
  go_wp2_with fail
  refine (heldB Sg0 (1 : Int) x10 Og0r_10.out.rd (by omega) (by omega) (by omega)).mono ?_
  rintro e xz ⟨rfl, rfl⟩
  have hq10_0 : ¬ ((1 : Int) + (Sg0.n : Int) < 0) := by omega
  go_wp2_with fail
  refine (toB s0 l0 x10 (HR0.out.later B10.out) (by have := HL0.out; omega)).mono ?_
  rintro e x11 ⟨rfl, o, b11⟩
  obtain ⟨qy0, hq⟩ : ∃ q, x10.heap.size = q := ⟨_, rfl⟩
  rw [hq] at o ⊢
  have L11 : Hid (x10.heap.size ≤ x11.heap.size) := b11.size
  have B11 : Hid (Below w.heap.size w x11) := B10.out.trans (b11.mono B10.out.size)
  have Ow0r_11 : Hid (SOwn x11 x1.heap.size x2.heap.size Sw0 R0) := Ow0r_10.out.later b11
  have Og0r_11 : Hid (SOwn x11 x3.heap.size x4.heap.size Sg0 (marks (1 : Int) Sg0.n)) := Og0r_10.out.later b11
  clear b11 B10 Ow0r_10 Og0r_10
  have Gqy0 : Hid (x10.heap.size = qy0) := hq
  have Oy0_11 : Hid (SOwn x11 qy0 x11.heap.size ⟨some ⟨qy0, 0, none⟩, s0.n, s0.n⟩ l0) := o
  clear o hq
  go_wp2_with fail
  refine (KeJ.implFinishKey ⟨some ⟨qy0, 0, none⟩, s0.n, s0.n⟩ l0 x11 (HT.out.later B11.out) Oy0_11.out.rd).mono ?_
  rw [HRD0.out]
  rintro e x12 ⟨Sh0, rfl, o0, b⟩
  have L12 : Hid (x11.heap.size ≤ x12.heap.size) := b.size
  have B12 : Hid (Below w.heap.size w x12) := B11.out.trans (b.mono B11.out.size)
  have Ow0r_12 : Hid (SOwn x12 x1.heap.size x2.heap.size Sw0 R0) := Ow0r_11.out.later b
  have Og0r_12 : Hid (SOwn x12 x3.heap.size x4.heap.size Sg0 (marks (1 : Int) Sg0.n)) := Og0r_11.out.later b
  have Oy0_12 : Hid (SOwn x12 qy0 x11.heap.size ⟨some ⟨qy0, 0, none⟩, s0.n, s0.n⟩ l0) := Oy0_11.out.later b
  clear b B11 Ow0r_11 Og0r_11 Oy0_11
  have Oh0r_12 : Hid (SOwn x12 x11.heap.size x12.heap.size Sh0 R0) := o0
  clear o0
  go_upto_region 23 with fail
  clear Oy0_12
  go_wp2_with fail
  refine (eqB Sh0 Sw0 R0 R0 x12 Oh0r_12.out.rd Ow0r_12.out.rd (by have := HRS0.out; omega) (by have := HRS0.out; omega)).mono ?_
  rw [decide_eq_true (show R0 = R0 from rfl)]
  rintro e x13 ⟨rfl, b13⟩
  have L13 : Hid (x12.heap.size ≤ x13.heap.size) := b13.size
  have B13 : Hid (Below w.heap.size w x13) := B12.out.trans (b13.mono B12.out.size)
  have Ow0r_13 : Hid (SOwn x13 x1.heap.size x2.heap.size Sw0 R0) := Ow0r_12.out.later b13
  have Og0r_13 : Hid (SOwn x13 x3.heap.size x4.heap.size Sg0 (marks (1 : Int) Sg0.n)) := Og0r_12.out.later b13
  have Oh0r_13 : Hid (SOwn x13 x11.heap.size x12.heap.size Sh0 R0) := Oh0r_12.out.later b13
  clear b13 B12 Ow0r_12 Og0r_12 Oh0r_12
  go_wp2_with fail
  refine (heldB Sg0 (1 : Int) x13 Og0r_13.out.rd (by omega) (by omega) (by omega)).mono ?_
  rintro e xz ⟨rfl, rfl⟩
  have hq13_0 : ¬ ((1 : Int) + (Sg0.n : Int) < 0) := by omega
  go_wp2
  go_ret
  exact ⟨rfl, B13.out⟩
set_option maxRecDepth 100000 in
theorem walk1 (a0 : Option Addr) (n0 c0 : Nat) (z0 : List Int) (w : World) (hT : Tab w) (h0 : IsRow .u8 w a0 n0 c0 z0) :
    Calls Tryd.prog 4 #[.slice a0 n0 c0] w fun e w' => e = .returned (.bool true) ∧ Below w.heap.size w w' := by
  obtain ⟨l0, r0⟩ := row_sl h0
  exact walk ⟨a0, n0, c0⟩ l0 w hT r0
end Go.Proofs.YtpenhliaelhnoaaDoor.LawFinishKey

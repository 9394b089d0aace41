/-
  The walk of the law FnExactProof: at every argument it answers true, and nothing that was there is written.
-/
import Derived.Test.YtpenhliaelhnoaaDoorKeJ
import Derived.Test.YtpenhliaelhnoaaDoorKeT
import Derived.Test.YtpenhliaelhnoaaDoorZoneB
import Derived.Test.YtpenhliaelhnoaaDoorZoneI
import Derived.Test.YtpenhliaelhnoaaDoorShp
import Derived.Test.YtpenhliaelhnoaaDoorOps
namespace Go.Proofs.YtpenhliaelhnoaaDoor.LawProof
open Go.RowKit Go.Proofs.YtpenhliaelhnoaaDoor.Mem Go.Proofs.YtpenhliaelhnoaaDoor.Blk Go.Proofs.YtpenhliaelhnoaaDoor.Zone Go.Proofs.YtpenhliaelhnoaaDoor.ZoneB Go.Proofs.YtpenhliaelhnoaaDoor.ZoneI Go.Proofs.YtpenhliaelhnoaaDoor.MemI Go.Proofs.YtpenhliaelhnoaaDoor.Each Go.Proofs.YtpenhliaelhnoaaDoor.Copy Go.Proofs.YtpenhliaelhnoaaDoor.Ops Go.Proofs.YtpenhliaelhnoaaDoor.Shp Go.Proofs.YtpenhliaelhnoaaDoor.App Go.Proofs.YtpenhliaelhnoaaDoor.KeP Go.Proofs.YtpenhliaelhnoaaDoor.KeQ Go.Proofs.YtpenhliaelhnoaaDoor.Comp

set_option maxRecDepth 100000 in
set_option maxHeartbeats 8000000 in
theorem walk (s0 : Sl) (l0 : List Int) (a1 : Int) (s2 : Sl) (l2 : List Int) (s3 : Sl) (l3 : List Int) (a4 : Int) (s5 : Sl) (l5 : List Int) (w : World) (hT : Tab w) (h0 : SRd w s0 l0) (h2 : SRd w s2 l2) (h3 : SRd w s3 l3) (h5 : SRd w s5 l5) :
    Calls Tryd.prog 8 #[.slice s0.a s0.n s0.c, .int .i64 a1, .slice s2.a s2.n s2.c, .slice s3.a s3.n s3.c, .int .i64 a4, .slice s5.a s5.n s5.c] w fun e w' => e = .returned (.bool true) ∧ Below w.heap.size w w' := by
  obtain ⟨R0, hR0⟩ : ∃ R : List Int, proofK l0 a1 l2 l3 a4 l5 = R := ⟨_, rfl⟩
  have HRD0 : Hid (proofK l0 a1 l2 l3 a4 l5 = R0) := hR0
  clear hR0
  have HT : Hid (Tab w) := hT
  clear hT
  have HR0 : Hid (SRd w s0 l0) := h0
  have HN0 : Hid (s0.n = l0.length) := h0.len
  have HR2 : Hid (SRd w s2 l2) := h2
  have HN2 : Hid (s2.n = l2.length) := h2.len
  have HR3 : Hid (SRd w s3 l3) := h3
  have HN3 : Hid (s3.n = l3.length) := h3.len
  have HR5 : Hid (SRd w s5 l5) := h5
  have HN5 : Hid (s5.n = l5.length) := h5.len
  clear h0 h2 h3 h5
  go_enter Tryd.func8, Tryd.ntmps8
  by_cases hbig0 : (s0.n : Int) > 1048576
  · go_wp2
    go_ret
    exact ⟨rfl, Below.refl _ _⟩
  have HL0 : Hid (l0.length ≤ 1048576) := by have := HN0.out; show _ ≤ _; omega
  by_cases hbig2 : (s2.n : Int) > 1048576
  · go_wp2
    go_ret
    exact ⟨rfl, Below.refl _ _⟩
  have HL2 : Hid (l2.length ≤ 1048576) := by have := HN2.out; show _ ≤ _; omega
  by_cases hbig3 : (s3.n : Int) > 1048576
  · go_wp2
    go_ret
    exact ⟨rfl, Below.refl _ _⟩
  have HL3 : Hid (l3.length ≤ 1048576) := by have := HN3.out; show _ ≤ _; omega
  by_cases hbig5 : (s5.n : Int) > 1048576
  · go_wp2
    go_ret
    exact ⟨rfl, Below.refl _ _⟩
  have HL5 : Hid (l5.length ≤ 1048576) := by have := HN5.out; show _ ≤ _; omega
  have HRS0 : Hid (R0.length ≤ 1048576) := by rw [← HRD0.out]; exact Nat.le_trans (proofK_le _ _ _ _ _ _) (by omega)
  go_wp2_with fail
  refine (toB s0 l0 w HR0.out (by have := HL0.out; omega)).mono ?_
  rintro e x1 ⟨rfl, o, b1⟩
  obtain ⟨qp0, hq⟩ : ∃ q, w.heap.size = q := ⟨_, rfl⟩
  rw [hq] at o ⊢
  have L1 : Hid (w.heap.size ≤ x1.heap.size) := b1.size
  have B1 : Hid (Below w.heap.size w x1) := b1
  clear b1
  have Gqp0 : Hid (w.heap.size = qp0) := hq
  have Op0_1 : Hid (SOwn x1 qp0 x1.heap.size ⟨some ⟨qp0, 0, none⟩, s0.n, s0.n⟩ l0) := o
  clear o hq
  go_wp2_with fail
  refine (toB s2 l2 x1 (HR2.out.later B1.out) (by have := HL2.out; omega)).mono ?_
  rintro e x2 ⟨rfl, o, b2⟩
  obtain ⟨qp2, hq⟩ : ∃ q, x1.heap.size = q := ⟨_, rfl⟩
  rw [hq] at o ⊢
  have L2 : Hid (x1.heap.size ≤ x2.heap.size) := b2.size
  have B2 : Hid (Below w.heap.size w x2) := B1.out.trans (b2.mono B1.out.size)
  have Op0_2 : Hid (SOwn x2 qp0 x1.heap.size ⟨some ⟨qp0, 0, none⟩, s0.n, s0.n⟩ l0) := Op0_1.out.later b2
  clear b2 B1 Op0_1
  have Gqp2 : Hid (x1.heap.size = qp2) := hq
  have Op2_2 : Hid (SOwn x2 qp2 x2.heap.size ⟨some ⟨qp2, 0, none⟩, s2.n, s2.n⟩ l2) := o
  clear o hq
  go_wp2_with fail
  refine (toB s3 l3 x2 (HR3.out.later B2.out) (by have := HL3.out; omega)).mono ?_
  rintro e x3 ⟨rfl, o, b3⟩
  obtain ⟨qp3, hq⟩ : ∃ q, x2.heap.size = q := ⟨_, rfl⟩
  rw [hq] at o ⊢
  have L3 : Hid (x2.heap.size ≤ x3.heap.size) := b3.size
  have B3 : Hid (Below w.heap.size w x3) := B2.out.trans (b3.mono B2.out.size)
  have Op0_3 : Hid (SOwn x3 qp0 x1.heap.size ⟨some ⟨qp0, 0, none⟩, s0.n, s0.n⟩ l0) := Op0_2.out.later b3
  have Op2_3 : Hid (SOwn x3 qp2 x2.heap.size ⟨some ⟨qp2, 0, none⟩, s2.n, s2.n⟩ l2) := Op2_2.out.later b3
  clear b3 B2 Op0_2 Op2_2
  have Gqp3 : Hid (x2.heap.size = qp3) := hq
  have Op3_3 : Hid (SOwn x3 qp3 x3.heap.size ⟨some ⟨qp3, 0, none⟩, s3.n, s3.n⟩ l3) := o
  clear o hq
  go_wp2_with fail
  refine (toB s5 l5 x3 (HR5.out.later B3.out) (by have := HL5.out; omega)).mono ?_
  rintro e x4 ⟨rfl, o, b4⟩
  obtain ⟨qp5, hq⟩ : ∃ q, x3.heap.size = q := ⟨_, rfl⟩
  rw [hq] at o ⊢
  have L4 : Hid (x3.heap.size ≤ x4.heap.size) := b4.size
  have B4 : Hid (Below w.heap.size w x4) := B3.out.trans (b4.mono B3.out.size)
  have Op0_4 : Hid (SOwn x4 qp0 x1.heap.size ⟨some ⟨qp0, 0, none⟩, s0.n, s0.n⟩ l0) := Op0_3.out.later b4
  have Op2_4 : Hid (SOwn x4 qp2 x2.heap.size ⟨some ⟨qp2, 0, none⟩, s2.n, s2.n⟩ l2) := Op2_3.out.later b4
  have Op3_4 : Hid (SOwn x4 qp3 x3.heap.size ⟨some ⟨qp3, 0, none⟩, s3.n, s3.n⟩ l3) := Op3_3.out.later b4
  clear b4 B3 Op0_3 Op2_3 Op3_3
  have Gqp5 : Hid (x3.heap.size = qp5) := hq
  have Op5_4 : Hid (SOwn x4 qp5 x4.heap.size ⟨some ⟨qp5, 0, none⟩, s5.n, s5.n⟩ l5) := o
  clear o hq
  go_wp2_with fail
  refine (KeT.specProof ⟨some ⟨qp0, 0, none⟩, s0.n, s0.n⟩ l0 a1 ⟨some ⟨qp2, 0, none⟩, s2.n, s2.n⟩ ⟨some ⟨qp3, 0, none⟩, s3.n, s3.n⟩ l2 l3 a4 ⟨some ⟨qp5, 0, none⟩, s5.n, s5.n⟩ l5 x4 Op0_4.out.rd Op2_4.out.rd Op3_4.out.rd Op5_4.out.rd).mono ?_
  rw [HRD0.out]
  rintro e x5 ⟨Sw0, rfl, o0, b⟩
  have L5 : Hid (x4.heap.size ≤ x5.heap.size) := b.size
  have B5 : Hid (Below w.heap.size w x5) := B4.out.trans (b.mono B4.out.size)
  have Op0_5 : Hid (SOwn x5 qp0 x1.heap.size ⟨some ⟨qp0, 0, none⟩, s0.n, s0.n⟩ l0) := Op0_4.out.later b
  have Op2_5 : Hid (SOwn x5 qp2 x2.heap.size ⟨some ⟨qp2, 0, none⟩, s2.n, s2.n⟩ l2) := Op2_4.out.later b
  have Op3_5 : Hid (SOwn x5 qp3 x3.heap.size ⟨some ⟨qp3, 0, none⟩, s3.n, s3.n⟩ l3) := Op3_4.out.later b
  have Op5_5 : Hid (SOwn x5 qp5 x4.heap.size ⟨some ⟨qp5, 0, none⟩, s5.n, s5.n⟩ l5) := Op5_4.out.later b
  clear b B4 Op0_4 Op2_4 Op3_4 Op5_4
  have Ow0r_5 : Hid (SOwn x5 x4.heap.size x5.heap.size Sw0 R0) := o0
  clear o0
  go_upto_region 10 with fail
  clear Op0_5
  clear Op2_5
  clear Op3_5
  clear Op5_5
  go_wp2_with fail
  refine (toB s0 l0 x5 (HR0.out.later B5.out) (by have := HL0.out; omega)).mono ?_
  rintro e x6 ⟨rfl, o, b6⟩
  obtain ⟨qx0, hq⟩ : ∃ q, x5.heap.size = q := ⟨_, rfl⟩
  rw [hq] at o ⊢
  have L6 : Hid (x5.heap.size ≤ x6.heap.size) := b6.size
  have B6 : Hid (Below w.heap.size w x6) := B5.out.trans (b6.mono B5.out.size)
  have Ow0r_6 : Hid (SOwn x6 x4.heap.size x5.heap.size Sw0 R0) := Ow0r_5.out.later b6
  clear b6 B5 Ow0r_5
  have Gqx0 : Hid (x5.heap.size = qx0) := hq
  have Ox0_6 : Hid (SOwn x6 qx0 x6.heap.size ⟨some ⟨qx0, 0, none⟩, s0.n, s0.n⟩ l0) := o
  clear o hq
  go_wp2_with fail
  refine (toB s2 l2 x6 (HR2.out.later B6.out) (by have := HL2.out; omega)).mono ?_
  rintro e x7 ⟨rfl, o, b7⟩
  obtain ⟨qx2, hq⟩ : ∃ q, x6.heap.size = q := ⟨_, rfl⟩
  rw [hq] at o ⊢
  have L7 : Hid (x6.heap.size ≤ x7.heap.size) := b7.size
  have B7 : Hid (Below w.heap.size w x7) := B6.out.trans (b7.mono B6.out.size)
  have Ow0r_7 : Hid (SOwn x7 x4.heap.size x5.heap.size Sw0 R0) := Ow0r_6.out.later b7
  have Ox0_7 : Hid (SOwn x7 qx0 x6.heap.size ⟨some ⟨qx0, 0, none⟩, s0.n, s0.n⟩ l0) := Ox0_6.out.later b7
  clear b7 B6 Ow0r_6 Ox0_6
  have Gqx2 : Hid (x6.heap.size = qx2) := hq
  have Ox2_7 : Hid (SOwn x7 qx2 x7.heap.size ⟨some ⟨qx2, 0, none⟩, s2.n, s2.n⟩ l2) := o
  clear o hq
  go_wp2_with fail
  refine (toB s3 l3 x7 (HR3.out.later B7.out) (by have := HL3.out; omega)).mono ?_
  rintro e x8 ⟨rfl, o, b8⟩
  obtain ⟨qx3, hq⟩ : ∃ q, x7.heap.size = q := ⟨_, rfl⟩
  rw [hq] at o ⊢
  have L8 : Hid (x7.heap.size ≤ x8.heap.size) := b8.size
  have B8 : Hid (Below w.heap.size w x8) := B7.out.trans (b8.mono B7.out.size)
  have Ow0r_8 : Hid (SOwn x8 x4.heap.size x5.heap.size Sw0 R0) := Ow0r_7.out.later b8
  have Ox0_8 : Hid (SOwn x8 qx0 x6.heap.size ⟨some ⟨qx0, 0, none⟩, s0.n, s0.n⟩ l0) := Ox0_7.out.later b8
  have Ox2_8 : Hid (SOwn x8 qx2 x7.heap.size ⟨some ⟨qx2, 0, none⟩, s2.n, s2.n⟩ l2) := Ox2_7.out.later b8
  clear b8 B7 Ow0r_7 Ox0_7 Ox2_7
  have Gqx3 : Hid (x7.heap.size = qx3) := hq
  have Ox3_8 : Hid (SOwn x8 qx3 x8.heap.size ⟨some ⟨qx3, 0, none⟩, s3.n, s3.n⟩ l3) := o
  clear o hq
  go_wp2_with fail
  refine (toB s5 l5 x8 (HR5.out.later B8.out) (by have := HL5.out; omega)).mono ?_
  rintro e x9 ⟨rfl, o, b9⟩
  obtain ⟨qx5, hq⟩ : ∃ q, x8.heap.size = q := ⟨_, rfl⟩
  rw [hq] at o ⊢
  have L9 : Hid (x8.heap.size ≤ x9.heap.size) := b9.size
  have B9 : Hid (Below w.heap.size w x9) := B8.out.trans (b9.mono B8.out.size)
  have Ow0r_9 : Hid (SOwn x9 x4.heap.size x5.heap.size Sw0 R0) := Ow0r_8.out.later b9
  have Ox0_9 : Hid (SOwn x9 qx0 x6.heap.size ⟨some ⟨qx0, 0, none⟩, s0.n, s0.n⟩ l0) := Ox0_8.out.later b9
  have Ox2_9 : Hid (SOwn x9 qx2 x7.heap.size ⟨some ⟨qx2, 0, none⟩, s2.n, s2.n⟩ l2) := Ox2_8.out.later b9
  have Ox3_9 : Hid (SOwn x9 qx3 x8.heap.size ⟨some ⟨qx3, 0, none⟩, s3.n, s3.n⟩ l3) := Ox3_8.out.later b9
  clear b9 B8 Ow0r_8 Ox0_8 Ox2_8 Ox3_8
  have Gqx5 : Hid (x8.heap.size = qx5) := hq
  have Ox5_9 : Hid (SOwn x9 qx5 x9.heap.size ⟨some ⟨qx5, 0, none⟩, s5.n, s5.n⟩ l5) := o
  clear o hq
  go_wp2_with fail
  refine (KeJ.implProof ⟨some ⟨qx0, 0, none⟩, s0.n, s0.n⟩ l0 a1 ⟨some ⟨qx2, 0, none⟩, s2.n, s2.n⟩ ⟨some ⟨qx3, 0, none⟩, s3.n, s3.n⟩ l2 l3 a4 ⟨some ⟨qx5, 0, none⟩, s5.n, s5.n⟩ l5 x9 (HT.out.later B9.out) Ox0_9.out.rd Ox2_9.out.rd Ox3_9.out.rd Ox5_9.out.rd).mono ?_
  rw [HRD0.out]
  rintro e x10 ⟨Sg0, rfl, o0, b⟩
  have L10 : Hid (x9.heap.size ≤ x10.heap.size) := b.size
  have B10 : Hid (Below w.heap.size w x10) := B9.out.trans (b.mono B9.out.size)
  have Ow0r_10 : Hid (SOwn x10 x4.heap.size x5.heap.size Sw0 R0) := Ow0r_9.out.later b
  have Ox0_10 : Hid (SOwn x10 qx0 x6.heap.size ⟨some ⟨qx0, 0, none⟩, s0.n, s0.n⟩ l0) := Ox0_9.out.later b
  have Ox2_10 : Hid (SOwn x10 qx2 x7.heap.size ⟨some ⟨qx2, 0, none⟩, s2.n, s2.n⟩ l2) := Ox2_9.out.later b
  have Ox3_10 : Hid (SOwn x10 qx3 x8.heap.size ⟨some ⟨qx3, 0, none⟩, s3.n, s3.n⟩ l3) := Ox3_9.out.later b
  have Ox5_10 : Hid (SOwn x10 qx5 x9.heap.size ⟨some ⟨qx5, 0, none⟩, s5.n, s5.n⟩ l5) := Ox5_9.out.later b
  clear b B9 Ow0r_9 Ox0_9 Ox2_9 Ox3_9 Ox5_9
  have Og0r_10 : Hid (SOwn x10 x9.heap.size x10.heap.size Sg0 R0) := o0
  clear o0
  go_upto_region 15 with fail
  go_wp2_with fail
  refine (eqB Sg0 Sw0 R0 R0 x10 Og0r_10.out.rd Ow0r_10.out.rd (by have := HRS0.out; omega) (by have := HRS0.out; omega)).mono ?_
  rw [decide_eq_true (show R0 = R0 from rfl)]
  rintro e x11 ⟨rfl, b11⟩
  have L11 : Hid (x10.heap.size ≤ x11.heap.size) := b11.size
  have B11 : Hid (Below w.heap.size w x11) := B10.out.trans (b11.mono B10.out.size)
  have Ow0r_11 : Hid (SOwn x11 x4.heap.size x5.heap.size Sw0 R0) := Ow0r_10.out.later b11
  have Ox0_11 : Hid (SOwn x11 qx0 x6.heap.size ⟨some ⟨qx0, 0, none⟩, s0.n, s0.n⟩ l0) := Ox0_10.out.later b11
  have Ox2_11 : Hid (SOwn x11 qx2 x7.heap.size ⟨some ⟨qx2, 0, none⟩, s2.n, s2.n⟩ l2) := Ox2_10.out.later b11
  have Ox3_11 : Hid (SOwn x11 qx3 x8.heap.size ⟨some ⟨qx3, 0, none⟩, s3.n, s3.n⟩ l3) := Ox3_10.out.later b11
  have Ox5_11 : Hid (SOwn x11 qx5 x9.heap.size ⟨some ⟨qx5, 0, none⟩, s5.n, s5.n⟩ l5) := Ox5_10.out.later b11
  have Og0r_11 : Hid (SOwn x11 x9.heap.size x10.heap.size Sg0 R0) := Og0r_10.out.later b11
  clear b11 B10 Ow0r_10 Ox0_10 Ox2_10 Ox3_10 Ox5_10 Og0r_10
  go_wp2_with fail
  refine (toB s0 l0 x11 (HR0.out.later B11.out) (by have := HL0.out; omega)).mono ?_
  rintro e x12 ⟨rfl, o, b12⟩
  obtain ⟨qy0, hq⟩ : ∃ q, x11.heap.size = q := ⟨_, rfl⟩
  rw [hq] at o ⊢
  have L12 : Hid (x11.heap.size ≤ x12.heap.size) := b12.size
  have B12 : Hid (Below w.heap.size w x12) := B11.out.trans (b12.mono B11.out.size)
  have Ow0r_12 : Hid (SOwn x12 x4.heap.size x5.heap.size Sw0 R0) := Ow0r_11.out.later b12
  have Ox0_12 : Hid (SOwn x12 qx0 x6.heap.size ⟨some ⟨qx0, 0, none⟩, s0.n, s0.n⟩ l0) := Ox0_11.out.later b12
  have Ox2_12 : Hid (SOwn x12 qx2 x7.heap.size ⟨some ⟨qx2, 0, none⟩, s2.n, s2.n⟩ l2) := Ox2_11.out.later b12
  have Ox3_12 : Hid (SOwn x12 qx3 x8.heap.size ⟨some ⟨qx3, 0, none⟩, s3.n, s3.n⟩ l3) := Ox3_11.out.later b12
  have Ox5_12 : Hid (SOwn x12 qx5 x9.heap.size ⟨some ⟨qx5, 0, none⟩, s5.n, s5.n⟩ l5) := Ox5_11.out.later b12
  have Og0r_12 : Hid (SOwn x12 x9.heap.size x10.heap.size Sg0 R0) := Og0r_11.out.later b12
  clear b12 B11 Ow0r_11 Ox0_11 Ox2_11 Ox3_11 Ox5_11 Og0r_11
  have Gqy0 : Hid (x11.heap.size = qy0) := hq
  have Oy0_12 : Hid (SOwn x12 qy0 x12.heap.size ⟨some ⟨qy0, 0, none⟩, s0.n, s0.n⟩ l0) := o
  clear o hq
  go_wp2_with fail
  refine (eqB ⟨some ⟨qx0, 0, none⟩, s0.n, s0.n⟩ ⟨some ⟨qy0, 0, none⟩, s0.n, s0.n⟩ l0 l0 x12 Ox0_12.out.rd Oy0_12.out.rd (by have := HL0.out; omega) (by have := HL0.out; omega)).mono ?_
  rw [decide_eq_true (show l0 = l0 from rfl)]
  rintro e x13 ⟨rfl, b13⟩
  have L13 : Hid (x12.heap.size ≤ x13.heap.size) := b13.size
  have B13 : Hid (Below w.heap.size w x13) := B12.out.trans (b13.mono B12.out.size)
  have Ow0r_13 : Hid (SOwn x13 x4.heap.size x5.heap.size Sw0 R0) := Ow0r_12.out.later b13
  have Ox0_13 : Hid (SOwn x13 qx0 x6.heap.size ⟨some ⟨qx0, 0, none⟩, s0.n, s0.n⟩ l0) := Ox0_12.out.later b13
  have Ox2_13 : Hid (SOwn x13 qx2 x7.heap.size ⟨some ⟨qx2, 0, none⟩, s2.n, s2.n⟩ l2) := Ox2_12.out.later b13
  have Ox3_13 : Hid (SOwn x13 qx3 x8.heap.size ⟨some ⟨qx3, 0, none⟩, s3.n, s3.n⟩ l3) := Ox3_12.out.later b13
  have Ox5_13 : Hid (SOwn x13 qx5 x9.heap.size ⟨some ⟨qx5, 0, none⟩, s5.n, s5.n⟩ l5) := Ox5_12.out.later b13
  have Og0r_13 : Hid (SOwn x13 x9.heap.size x10.heap.size Sg0 R0) := Og0r_12.out.later b13
  have Oy0_13 : Hid (SOwn x13 qy0 x12.heap.size ⟨some ⟨qy0, 0, none⟩, s0.n, s0.n⟩ l0) := Oy0_12.out.later b13
  clear b13 B12 Ow0r_12 Ox0_12 Ox2_12 Ox3_12 Ox5_12 Og0r_12 Oy0_12
  clear Oy0_13
  go_wp2_with fail
  refine (toB s2 l2 x13 (HR2.out.later B13.out) (by have := HL2.out; omega)).mono ?_
  rintro e x14 ⟨rfl, o, b14⟩
  obtain ⟨qy2, hq⟩ : ∃ q, x13.heap.size = q := ⟨_, rfl⟩
  rw [hq] at o ⊢
  have L14 : Hid (x13.heap.size ≤ x14.heap.size) := b14.size
  have B14 : Hid (Below w.heap.size w x14) := B13.out.trans (b14.mono B13.out.size)
  have Ow0r_14 : Hid (SOwn x14 x4.heap.size x5.heap.size Sw0 R0) := Ow0r_13.out.later b14
  have Ox0_14 : Hid (SOwn x14 qx0 x6.heap.size ⟨some ⟨qx0, 0, none⟩, s0.n, s0.n⟩ l0) := Ox0_13.out.later b14
  have Ox2_14 : Hid (SOwn x14 qx2 x7.heap.size ⟨some ⟨qx2, 0, none⟩, s2.n, s2.n⟩ l2) := Ox2_13.out.later b14
  have Ox3_14 : Hid (SOwn x14 qx3 x8.heap.size ⟨some ⟨qx3, 0, none⟩, s3.n, s3.n⟩ l3) := Ox3_13.out.later b14
  have Ox5_14 : Hid (SOwn x14 qx5 x9.heap.size ⟨some ⟨qx5, 0, none⟩, s5.n, s5.n⟩ l5) := Ox5_13.out.later b14
  have Og0r_14 : Hid (SOwn x14 x9.heap.size x10.heap.size Sg0 R0) := Og0r_13.out.later b14
  clear b14 B13 Ow0r_13 Ox0_13 Ox2_13 Ox3_13 Ox5_13 Og0r_13
  have Gqy2 : Hid (x13.heap.size = qy2) := hq
  have Oy2_14 : Hid (SOwn x14 qy2 x14.heap.size ⟨some ⟨qy2, 0, none⟩, s2.n, s2.n⟩ l2) := o
  clear o hq
  go_wp2_with fail
  refine (eqB ⟨some ⟨qx2, 0, none⟩, s2.n, s2.n⟩ ⟨some ⟨qy2, 0, none⟩, s2.n, s2.n⟩ l2 l2 x14 Ox2_14.out.rd Oy2_14.out.rd (by have := HL2.out; omega) (by have := HL2.out; omega)).mono ?_
  rw [decide_eq_true (show l2 = l2 from rfl)]
  rintro e x15 ⟨rfl, b15⟩
  have L15 : Hid (x14.heap.size ≤ x15.heap.size) := b15.size
  have B15 : Hid (Below w.heap.size w x15) := B14.out.trans (b15.mono B14.out.size)
  have Ow0r_15 : Hid (SOwn x15 x4.heap.size x5.heap.size Sw0 R0) := Ow0r_14.out.later b15
  have Ox0_15 : Hid (SOwn x15 qx0 x6.heap.size ⟨some ⟨qx0, 0, none⟩, s0.n, s0.n⟩ l0) := Ox0_14.out.later b15
  have Ox2_15 : Hid (SOwn x15 qx2 x7.heap.size ⟨some ⟨qx2, 0, none⟩, s2.n, s2.n⟩ l2) := Ox2_14.out.later b15
  have Ox3_15 : Hid (SOwn x15 qx3 x8.heap.size ⟨some ⟨qx3, 0, none⟩, s3.n, s3.n⟩ l3) := Ox3_14.out.later b15
  have Ox5_15 : Hid (SOwn x15 qx5 x9.heap.size ⟨some ⟨qx5, 0, none⟩, s5.n, s5.n⟩ l5) := Ox5_14.out.later b15
  have Og0r_15 : Hid (SOwn x15 x9.heap.size x10.heap.size Sg0 R0) := Og0r_14.out.later b15
  have Oy2_15 : Hid (SOwn x15 qy2 x14.heap.size ⟨some ⟨qy2, 0, none⟩, s2.n, s2.n⟩ l2) := Oy2_14.out.later b15
  clear b15 B14 Ow0r_14 Ox0_14 Ox2_14 Ox3_14 Ox5_14 Og0r_14 Oy2_14
  clear Oy2_15
  go_wp2_with fail
  refine (toB s3 l3 x15 (HR3.out.later B15.out) (by have := HL3.out; omega)).mono ?_
  rintro e x16 ⟨rfl, o, b16⟩
  obtain ⟨qy3, hq⟩ : ∃ q, x15.heap.size = q := ⟨_, rfl⟩
  rw [hq] at o ⊢
  have L16 : Hid (x15.heap.size ≤ x16.heap.size) := b16.size
  have B16 : Hid (Below w.heap.size w x16) := B15.out.trans (b16.mono B15.out.size)
  have Ow0r_16 : Hid (SOwn x16 x4.heap.size x5.heap.size Sw0 R0) := Ow0r_15.out.later b16
  have Ox0_16 : Hid (SOwn x16 qx0 x6.heap.size ⟨some ⟨qx0, 0, none⟩, s0.n, s0.n⟩ l0) := Ox0_15.out.later b16
  have Ox2_16 : Hid (SOwn x16 qx2 x7.heap.size ⟨some ⟨qx2, 0, none⟩, s2.n, s2.n⟩ l2) := Ox2_15.out.later b16
  have Ox3_16 : Hid (SOwn x16 qx3 x8.heap.size ⟨some ⟨qx3, 0, none⟩, s3.n, s3.n⟩ l3) := Ox3_15.out.later b16
  have Ox5_16 : Hid (SOwn x16 qx5 x9.heap.size ⟨some ⟨qx5, 0, none⟩, s5.n, s5.n⟩ l5) := Ox5_15.out.later b16
  have Og0r_16 : Hid (SOwn x16 x9.heap.size x10.heap.size Sg0 R0) := Og0r_15.out.later b16
  clear b16 B15 Ow0r_15 Ox0_15 Ox2_15 Ox3_15 Ox5_15 Og0r_15
  have Gqy3 : Hid (x15.heap.size = qy3) := hq
  have Oy3_16 : Hid (SOwn x16 qy3 x16.heap.size ⟨some ⟨qy3, 0, none⟩, s3.n, s3.n⟩ l3) := o
  clear o hq
  go_wp2_with fail
  refine (eqB ⟨some ⟨qx3, 0, none⟩, s3.n, s3.n⟩ ⟨some ⟨qy3, 0, none⟩, s3.n, s3.n⟩ l3 l3 x16 Ox3_16.out.rd Oy3_16.out.rd (by have := HL3.out; omega) (by have := HL3.out; omega)).mono ?_
  rw [decide_eq_true (show l3 = l3 from rfl)]
  rintro e x17 ⟨rfl, b17⟩
  have L17 : Hid (x16.heap.size ≤ x17.heap.size) := b17.size
  have B17 : Hid (Below w.heap.size w x17) := B16.out.trans (b17.mono B16.out.size)
  have Ow0r_17 : Hid (SOwn x17 x4.heap.size x5.heap.size Sw0 R0) := Ow0r_16.out.later b17
  have Ox0_17 : Hid (SOwn x17 qx0 x6.heap.size ⟨some ⟨qx0, 0, none⟩, s0.n, s0.n⟩ l0) := Ox0_16.out.later b17
  have Ox2_17 : Hid (SOwn x17 qx2 x7.heap.size ⟨some ⟨qx2, 0, none⟩, s2.n, s2.n⟩ l2) := Ox2_16.out.later b17
  have Ox3_17 : Hid (SOwn x17 qx3 x8.heap.size ⟨some ⟨qx3, 0, none⟩, s3.n, s3.n⟩ l3) := Ox3_16.out.later b17
  have Ox5_17 : Hid (SOwn x17 qx5 x9.heap.size ⟨some ⟨qx5, 0, none⟩, s5.n, s5.n⟩ l5) := Ox5_16.out.later b17
  have Og0r_17 : Hid (SOwn x17 x9.heap.size x10.heap.size Sg0 R0) := Og0r_16.out.later b17
  have Oy3_17 : Hid (SOwn x17 qy3 x16.heap.size ⟨some ⟨qy3, 0, none⟩, s3.n, s3.n⟩ l3) := Oy3_16.out.later b17
  clear b17 B16 Ow0r_16 Ox0_16 Ox2_16 Ox3_16 Ox5_16 Og0r_16 Oy3_16
  clear Oy3_17
  go_wp2_with fail
  refine (toB s5 l5 x17 (HR5.out.later B17.out) (by have := HL5.out; omega)).mono ?_
  rintro e x18 ⟨rfl, o, b18⟩
  obtain ⟨qy5, hq⟩ : ∃ q, x17.heap.size = q := ⟨_, rfl⟩
  rw [hq] at o ⊢
  have L18 : Hid (x17.heap.size ≤ x18.heap.size) := b18.size
  have B18 : Hid (Below w.heap.size w x18) := B17.out.trans (b18.mono B17.out.size)
  have Ow0r_18 : Hid (SOwn x18 x4.heap.size x5.heap.size Sw0 R0) := Ow0r_17.out.later b18
  have Ox0_18 : Hid (SOwn x18 qx0 x6.heap.size ⟨some ⟨qx0, 0, none⟩, s0.n, s0.n⟩ l0) := Ox0_17.out.later b18
  have Ox2_18 : Hid (SOwn x18 qx2 x7.heap.size ⟨some ⟨qx2, 0, none⟩, s2.n, s2.n⟩ l2) := Ox2_17.out.later b18
  have Ox3_18 : Hid (SOwn x18 qx3 x8.heap.size ⟨some ⟨qx3, 0, none⟩, s3.n, s3.n⟩ l3) := Ox3_17.out.later b18
  have Ox5_18 : Hid (SOwn x18 qx5 x9.heap.size ⟨some ⟨qx5, 0, none⟩, s5.n, s5.n⟩ l5) := Ox5_17.out.later b18
  have Og0r_18 : Hid (SOwn x18 x9.heap.size x10.heap.size Sg0 R0) := Og0r_17.out.later b18
  clear b18 B17 Ow0r_17 Ox0_17 Ox2_17 Ox3_17 Ox5_17 Og0r_17
  have Gqy5 : Hid (x17.heap.size = qy5) := hq
  have Oy5_18 : Hid (SOwn x18 qy5 x18.heap.size ⟨some ⟨qy5, 0, none⟩, s5.n, s5.n⟩ l5) := o
  clear o hq
  go_wp2_with fail
  refine (eqB ⟨some ⟨qx5, 0, none⟩, s5.n, s5.n⟩ ⟨some ⟨qy5, 0, none⟩, s5.n, s5.n⟩ l5 l5 x18 Ox5_18.out.rd Oy5_18.out.rd (by have := HL5.out; omega) (by have := HL5.out; omega)).mono ?_
  rw [decide_eq_true (show l5 = l5 from rfl)]
  rintro e x19 ⟨rfl, b19⟩
  have L19 : Hid (x18.heap.size ≤ x19.heap.size) := b19.size
  have B19 : Hid (Below w.heap.size w x19) := B18.out.trans (b19.mono B18.out.size)
  have Ow0r_19 : Hid (SOwn x19 x4.heap.size x5.heap.size Sw0 R0) := Ow0r_18.out.later b19
  have Ox0_19 : Hid (SOwn x19 qx0 x6.heap.size ⟨some ⟨qx0, 0, none⟩, s0.n, s0.n⟩ l0) := Ox0_18.out.later b19
  have Ox2_19 : Hid (SOwn x19 qx2 x7.heap.size ⟨some ⟨qx2, 0, none⟩, s2.n, s2.n⟩ l2) := Ox2_18.out.later b19
  have Ox3_19 : Hid (SOwn x19 qx3 x8.heap.size ⟨some ⟨qx3, 0, none⟩, s3.n, s3.n⟩ l3) := Ox3_18.out.later b19
  have Ox5_19 : Hid (SOwn x19 qx5 x9.heap.size ⟨some ⟨qx5, 0, none⟩, s5.n, s5.n⟩ l5) := Ox5_18.out.later b19
  have Og0r_19 : Hid (SOwn x19 x9.heap.size x10.heap.size Sg0 R0) := Og0r_18.out.later b19
  have Oy5_19 : Hid (SOwn x19 qy5 x18.heap.size ⟨some ⟨qy5, 0, none⟩, s5.n, s5.n⟩ l5) := Oy5_18.out.later b19
  clear b19 B18 Ow0r_18 Ox0_18 Ox2_18 Ox3_18 Ox5_18 Og0r_18 Oy5_18
  clear Oy5_19
  go_wp2_with fail
  refine (markB ⟨some ⟨qx0, 0, none⟩, s0.n, s0.n⟩ l0 (1 : Int) x19 qx0 x6.heap.size Ox0_19.out (by have := HL0.out; omega) (by omega) (by omega)).mono ?_
  rintro e x20 ⟨rfl, _, k20, _⟩
  have L20 : Hid (x19.heap.size ≤ x20.heap.size) := k20.size
  have B20 : Hid (Below w.heap.size w x20) := B19.out.trans (k20.below (by have := L1.out; have := Gqp0.out; have := L2.out; have := Gqp2.out; have := L3.out; have := Gqp3.out; have := L4.out; have := Gqp5.out; have := L5.out; have := L6.out; have := Gqx0.out; have := L7.out; have := Gqx2.out; have := L8.out; have := Gqx3.out; have := L9.out; have := Gqx5.out; have := L10.out; have := L11.out; have := L12.out; have := Gqy0.out; have := L13.out; have := L14.out; have := Gqy2.out; have := L15.out; have := L16.out; have := Gqy3.out; have := L17.out; have := L18.out; have := Gqy5.out; have := L19.out; have := L20.out; omega) B19.out.size)
  have Ow0r_20 : Hid (SOwn x20 x4.heap.size x5.heap.size Sw0 R0) := Ow0r_19.out.carry k20 (by have := L1.out; have := Gqp0.out; have := L2.out; have := Gqp2.out; have := L3.out; have := Gqp3.out; have := L4.out; have := Gqp5.out; have := L5.out; have := L6.out; have := Gqx0.out; have := L7.out; have := Gqx2.out; have := L8.out; have := Gqx3.out; have := L9.out; have := Gqx5.out; have := L10.out; have := L11.out; have := L12.out; have := Gqy0.out; have := L13.out; have := L14.out; have := Gqy2.out; have := L15.out; have := L16.out; have := Gqy3.out; have := L17.out; have := L18.out; have := Gqy5.out; have := L19.out; have := L20.out; omega)
  have Ox2_20 : Hid (SOwn x20 qx2 x7.heap.size ⟨some ⟨qx2, 0, none⟩, s2.n, s2.n⟩ l2) := Ox2_19.out.carry k20 (by have := L1.out; have := Gqp0.out; have := L2.out; have := Gqp2.out; have := L3.out; have := Gqp3.out; have := L4.out; have := Gqp5.out; have := L5.out; have := L6.out; have := Gqx0.out; have := L7.out; have := Gqx2.out; have := L8.out; have := Gqx3.out; have := L9.out; have := Gqx5.out; have := L10.out; have := L11.out; have := L12.out; have := Gqy0.out; have := L13.out; have := L14.out; have := Gqy2.out; have := L15.out; have := L16.out; have := Gqy3.out; have := L17.out; have := L18.out; have := Gqy5.out; have := L19.out; have := L20.out; omega)
  have Ox3_20 : Hid (SOwn x20 qx3 x8.heap.size ⟨some ⟨qx3, 0, none⟩, s3.n, s3.n⟩ l3) := Ox3_19.out.carry k20 (by have := L1.out; have := Gqp0.out; have := L2.out; have := Gqp2.out; have := L3.out; have := Gqp3.out; have := L4.out; have := Gqp5.out; have := L5.out; have := L6.out; have := Gqx0.out; have := L7.out; have := Gqx2.out; have := L8.out; have := Gqx3.out; have := L9.out; have := Gqx5.out; have := L10.out; have := L11.out; have := L12.out; have := Gqy0.out; have := L13.out; have := L14.out; have := Gqy2.out; have := L15.out; have := L16.out; have := Gqy3.out; have := L17.out; have := L18.out; have := Gqy5.out; have := L19.out; have := L20.out; omega)
  have Ox5_20 : Hid (SOwn x20 qx5 x9.heap.size ⟨some ⟨qx5, 0, none⟩, s5.n, s5.n⟩ l5) := Ox5_19.out.carry k20 (by have := L1.out; have := Gqp0.out; have := L2.out; have := Gqp2.out; have := L3.out; have := Gqp3.out; have := L4.out; have := Gqp5.out; have := L5.out; have := L6.out; have := Gqx0.out; have := L7.out; have := Gqx2.out; have := L8.out; have := Gqx3.out; have := L9.out; have := Gqx5.out; have := L10.out; have := L11.out; have := L12.out; have := Gqy0.out; have := L13.out; have := L14.out; have := Gqy2.out; have := L15.out; have := L16.out; have := Gqy3.out; have := L17.out; have := L18.out; have := Gqy5.out; have := L19.out; have := L20.out; omega)
  have Og0r_20 : Hid (SOwn x20 x9.heap.size x10.heap.size Sg0 R0) := Og0r_19.out.carry k20 (by have := L1.out; have := Gqp0.out; have := L2.out; have := Gqp2.out; have := L3.out; have := Gqp3.out; have := L4.out; have := Gqp5.out; have := L5.out; have := L6.out; have := Gqx0.out; have := L7.out; have := Gqx2.out; have := L8.out; have := Gqx3.out; have := L9.out; have := Gqx5.out; have := L10.out; have := L11.out; have := L12.out; have := Gqy0.out; have := L13.out; have := L14.out; have := Gqy2.out; have := L15.out; have := L16.out; have := Gqy3.out; have := L17.out; have := L18.out; have := Gqy5.out; have := L19.out; have := L20.out; omega)
  clear k20 B19 Ow0r_19 Ox0_19 Ox2_19 Ox3_19 Ox5_19 Og0r_19
  go_wp2_with fail
  refine (markB ⟨some ⟨qx2, 0, none⟩, s2.n, s2.n⟩ l2 ((1 : Int) + (s0.n : Int)) x20 qx2 x7.heap.size Ox2_20.out (by have := HL2.out; omega) (by omega) (by omega)).mono ?_
  rintro e x21 ⟨rfl, _, k21, _⟩
  have L21 : Hid (x20.heap.size ≤ x21.heap.size) := k21.size
  have B21 : Hid (Below w.heap.size w x21) := B20.out.trans (k21.below (by have := L1.out; have := Gqp0.out; have := L2.out; have := Gqp2.out; have := L3.out; have := Gqp3.out; have := L4.out; have := Gqp5.out; have := L5.out; have := L6.out; have := Gqx0.out; have := L7.out; have := Gqx2.out; have := L8.out; have := Gqx3.out; have := L9.out; have := Gqx5.out; have := L10.out; have := L11.out; have := L12.out; have := Gqy0.out; have := L13.out; have := L14.out; have := Gqy2.out; have := L15.out; have := L16.out; have := Gqy3.out; have := L17.out; have := L18.out; have := Gqy5.out; have := L19.out; have := L20.out; have := L21.out; omega) B20.out.size)
  have Ow0r_21 : Hid (SOwn x21 x4.heap.size x5.heap.size Sw0 R0) := Ow0r_20.out.carry k21 (by have := L1.out; have := Gqp0.out; have := L2.out; have := Gqp2.out; have := L3.out; have := Gqp3.out; have := L4.out; have := Gqp5.out; have := L5.out; have := L6.out; have := Gqx0.out; have := L7.out; have := Gqx2.out; have := L8.out; have := Gqx3.out; have := L9.out; have := Gqx5.out; have := L10.out; have := L11.out; have := L12.out; have := Gqy0.out; have := L13.out; have := L14.out; have := Gqy2.out; have := L15.out; have := L16.out; have := Gqy3.out; have := L17.out; have := L18.out; have := Gqy5.out; have := L19.out; have := L20.out; have := L21.out; omega)
  have Ox3_21 : Hid (SOwn x21 qx3 x8.heap.size ⟨some ⟨qx3, 0, none⟩, s3.n, s3.n⟩ l3) := Ox3_20.out.carry k21 (by have := L1.out; have := Gqp0.out; have := L2.out; have := Gqp2.out; have := L3.out; have := Gqp3.out; have := L4.out; have := Gqp5.out; have := L5.out; have := L6.out; have := Gqx0.out; have := L7.out; have := Gqx2.out; have := L8.out; have := Gqx3.out; have := L9.out; have := Gqx5.out; have := L10.out; have := L11.out; have := L12.out; have := Gqy0.out; have := L13.out; have := L14.out; have := Gqy2.out; have := L15.out; have := L16.out; have := Gqy3.out; have := L17.out; have := L18.out; have := Gqy5.out; have := L19.out; have := L20.out; have := L21.out; omega)
  have Ox5_21 : Hid (SOwn x21 qx5 x9.heap.size ⟨some ⟨qx5, 0, none⟩, s5.n, s5.n⟩ l5) := Ox5_20.out.carry k21 (by have := L1.out; have := Gqp0.out; have := L2.out; have := Gqp2.out; have := L3.out; have := Gqp3.out; have := L4.out; have := Gqp5.out; have := L5.out; have := L6.out; have := Gqx0.out; have := L7.out; have := Gqx2.out; have := L8.out; have := Gqx3.out; have := L9.out; have := Gqx5.out; have := L10.out; have := L11.out; have := L12.out; have := Gqy0.out; have := L13.out; have := L14.out; have := Gqy2.out; have := L15.out; have := L16.out; have := Gqy3.out; have := L17.out; have := L18.out; have := Gqy5.out; have := L19.out; have := L20.out; have := L21.out; omega)
  have Og0r_21 : Hid (SOwn x21 x9.heap.size x10.heap.size Sg0 R0) := Og0r_20.out.carry k21 (by have := L1.out; have := Gqp0.out; have := L2.out; have := Gqp2.out; have := L3.out; have := Gqp3.out; have := L4.out; have := Gqp5.out; have := L5.out; have := L6.out; have := Gqx0.out; have := L7.out; have := Gqx2.out; have := L8.out; have := Gqx3.out; have := L9.out; have := Gqx5.out; have := L10.out; have := L11.out; have := L12.out; have := Gqy0.out; have := L13.out; have := L14.out; have := Gqy2.out; have := L15.out; have := L16.out; have := Gqy3.out; have := L17.out; have := L18.out; have := Gqy5.out; have := L19.out; have := L20.out; have := L21.out; omega)
  clear k21 B20 Ow0r_20 Ox2_20 Ox3_20 Ox5_20 Og0r_20
  go_wp2_with fail
  refine (markB ⟨some ⟨qx3, 0, none⟩, s3.n, s3.n⟩ l3 (((1 : Int) + (s0.n : Int)) + (s2.n : Int)) x21 qx3 x8.heap.size Ox3_21.out (by have := HL3.out; omega) (by omega) (by omega)).mono ?_
  rintro e x22 ⟨rfl, _, k22, _⟩
  have L22 : Hid (x21.heap.size ≤ x22.heap.size) := k22.size
  have B22 : Hid (Below w.heap.size w x22) := B21.out.trans (k22.below (by have := L1.out; have := Gqp0.out; have := L2.out; have := Gqp2.out; have := L3.out; have := Gqp3.out; have := L4.out; have := Gqp5.out; have := L5.out; have := L6.out; have := Gqx0.out; have := L7.out; have := Gqx2.out; have := L8.out; have := Gqx3.out; have := L9.out; have := Gqx5.out; have := L10.out; have := L11.out; have := L12.out; have := Gqy0.out; have := L13.out; have := L14.out; have := Gqy2.out; have := L15.out; have := L16.out; have := Gqy3.out; have := L17.out; have := L18.out; have := Gqy5.out; have := L19.out; have := L20.out; have := L21.out; have := L22.out; omega) B21.out.size)
  have Ow0r_22 : Hid (SOwn x22 x4.heap.size x5.heap.size Sw0 R0) := Ow0r_21.out.carry k22 (by have := L1.out; have := Gqp0.out; have := L2.out; have := Gqp2.out; have := L3.out; have := Gqp3.out; have := L4.out; have := Gqp5.out; have := L5.out; have := L6.out; have := Gqx0.out; have := L7.out; have := Gqx2.out; have := L8.out; have := Gqx3.out; have := L9.out; have := Gqx5.out; have := L10.out; have := L11.out; have := L12.out; have := Gqy0.out; have := L13.out; have := L14.out; have := Gqy2.out; have := L15.out; have := L16.out; have := Gqy3.out; have := L17.out; have := L18.out; have := Gqy5.out; have := L19.out; have := L20.out; have := L21.out; have := L22.out; omega)
  have Ox5_22 : Hid (SOwn x22 qx5 x9.heap.size ⟨some ⟨qx5, 0, none⟩, s5.n, s5.n⟩ l5) := Ox5_21.out.carry k22 (by have := L1.out; have := Gqp0.out; have := L2.out; have := Gqp2.out; have := L3.out; have := Gqp3.out; have := L4.out; have := Gqp5.out; have := L5.out; have := L6.out; have := Gqx0.out; have := L7.out; have := Gqx2.out; have := L8.out; have := Gqx3.out; have := L9.out; have := Gqx5.out; have := L10.out; have := L11.out; have := L12.out; have := Gqy0.out; have := L13.out; have := L14.out; have := Gqy2.out; have := L15.out; have := L16.out; have := Gqy3.out; have := L17.out; have := L18.out; have := Gqy5.out; have := L19.out; have := L20.out; have := L21.out; have := L22.out; omega)
  have Og0r_22 : Hid (SOwn x22 x9.heap.size x10.heap.size Sg0 R0) := Og0r_21.out.carry k22 (by have := L1.out; have := Gqp0.out; have := L2.out; have := Gqp2.out; have := L3.out; have := Gqp3.out; have := L4.out; have := Gqp5.out; have := L5.out; have := L6.out; have := Gqx0.out; have := L7.out; have := Gqx2.out; have := L8.out; have := Gqx3.out; have := L9.out; have := Gqx5.out; have := L10.out; have := L11.out; have := L12.out; have := Gqy0.out; have := L13.out; have := L14.out; have := Gqy2.out; have := L15.out; have := L16.out; have := Gqy3.out; have := L17.out; have := L18.out; have := Gqy5.out; have := L19.out; have := L20.out; have := L21.out; have := L22.out; omega)
  clear k22 B21 Ow0r_21 Ox3_21 Ox5_21 Og0r_21
  go_wp2_with fail
  refine (markB ⟨some ⟨qx5, 0, none⟩, s5.n, s5.n⟩ l5 ((((1 : Int) + (s0.n : Int)) + (s2.n : Int)) + (s3.n : Int)) x22 qx5 x9.heap.size Ox5_22.out (by have := HL5.out; omega) (by omega) (by omega)).mono ?_
  rintro e x23 ⟨rfl, _, k23, _⟩
  have L23 : Hid (x22.heap.size ≤ x23.heap.size) := k23.size
  have B23 : Hid (Below w.heap.size w x23) := B22.out.trans (k23.below (by have := L1.out; have := Gqp0.out; have := L2.out; have := Gqp2.out; have := L3.out; have := Gqp3.out; have := L4.out; have := Gqp5.out; have := L5.out; have := L6.out; have := Gqx0.out; have := L7.out; have := Gqx2.out; have := L8.out; have := Gqx3.out; have := L9.out; have := Gqx5.out; have := L10.out; have := L11.out; have := L12.out; have := Gqy0.out; have := L13.out; have := L14.out; have := Gqy2.out; have := L15.out; have := L16.out; have := Gqy3.out; have := L17.out; have := L18.out; have := Gqy5.out; have := L19.out; have := L20.out; have := L21.out; have := L22.out; have := L23.out; omega) B22.out.size)
  have Ow0r_23 : Hid (SOwn x23 x4.heap.size x5.heap.size Sw0 R0) := Ow0r_22.out.carry k23 (by have := L1.out; have := Gqp0.out; have := L2.out; have := Gqp2.out; have := L3.out; have := Gqp3.out; have := L4.out; have := Gqp5.out; have := L5.out; have := L6.out; have := Gqx0.out; have := L7.out; have := Gqx2.out; have := L8.out; have := Gqx3.out; have := L9.out; have := Gqx5.out; have := L10.out; have := L11.out; have := L12.out; have := Gqy0.out; have := L13.out; have := L14.out; have := Gqy2.out; have := L15.out; have := L16.out; have := Gqy3.out; have := L17.out; have := L18.out; have := Gqy5.out; have := L19.out; have := L20.out; have := L21.out; have := L22.out; have := L23.out; omega)
  have Og0r_23 : Hid (SOwn x23 x9.heap.size x10.heap.size Sg0 R0) := Og0r_22.out.carry k23 (by have := L1.out; have := Gqp0.out; have := L2.out; have := Gqp2.out; have := L3.out; have := Gqp3.out; have := L4.out; have := Gqp5.out; have := L5.out; have := L6.out; have := Gqx0.out; have := L7.out; have := Gqx2.out; have := L8.out; have := Gqx3.out; have := L9.out; have := Gqx5.out; have := L10.out; have := L11.out; have := L12.out; have := Gqy0.out; have := L13.out; have := L14.out; have := Gqy2.out; have := L15.out; have := L16.out; have := Gqy3.out; have := L17.out; have := L18.out; have := Gqy5.out; have := L19.out; have := L20.out; have := L21.out; have := L22.out; have := L23.out; omega)
  clear k23 B22 Ow0r_22 Ox5_22 Og0r_22
  have hk0 : ¬ ((((((1 : Int) + (s0.n : Int)) + (s2.n : Int)) + (s3.n : Int)) + (s5.n : Int)) < 0) := by omega
  go_wp2_with fail
  refine (eqB Sg0 Sw0 R0 R0 x23 Og0r_23.out.rd Ow0r_23.out.rd (by have := HRS0.out; omega) (by have := HRS0.out; omega)).mono ?_
  rw [decide_eq_true (show R0 = R0 from rfl)]
  rintro e x24 ⟨rfl, b24⟩
  have L24 : Hid (x23.heap.size ≤ x24.heap.size) := b24.size
  have B24 : Hid (Below w.heap.size w x24) := B23.out.trans (b24.mono B23.out.size)
  have Ow0r_24 : Hid (SOwn x24 x4.heap.size x5.heap.size Sw0 R0) := Ow0r_23.out.later b24
  have Og0r_24 : Hid (SOwn x24 x9.heap.size x10.heap.size Sg0 R0) := Og0r_23.out.later b24
  clear b24 B23 Ow0r_23 Og0r_23
  have hms0 : (Sg0.n : Int) ≤ 1048576 := by have := Og0r_24.out.len; have := HRS0.out; omega
  go_wp2_with fail
  refine (markB Sg0 R0 (1 : Int) x24 x9.heap.size x10.heap.size Og0r_24.out (by have := HRS0.out; omega) (by omega) (by omega)).mono ?_
  rintro e x25 ⟨rfl, og, k25, _⟩
  have L25 : Hid (x24.heap.size ≤ x25.heap.size) := k25.size
  have B25 : Hid (Below w.heap.size w x25) := B24.out.trans (k25.below (by have := L1.out; have := Gqp0.out; have := L2.out; have := Gqp2.out; have := L3.out; have := Gqp3.out; have := L4.out; have := Gqp5.out; have := L5.out; have := L6.out; have := Gqx0.out; have := L7.out; have := Gqx2.out; have := L8.out; have := Gqx3.out; have := L9.out; have := Gqx5.out; have := L10.out; have := L11.out; have := L12.out; have := Gqy0.out; have := L13.out; have := L14.out; have := Gqy2.out; have := L15.out; have := L16.out; have := Gqy3.out; have := L17.out; have := L18.out; have := Gqy5.out; have := L19.out; have := L20.out; have := L21.out; have := L22.out; have := L23.out; have := L24.out; have := L25.out; omega) B24.out.size)
  have Ow0r_25 : Hid (SOwn x25 x4.heap.size x5.heap.size Sw0 R0) := Ow0r_24.out.carry k25 (by have := L1.out; have := Gqp0.out; have := L2.out; have := Gqp2.out; have := L3.out; have := Gqp3.out; have := L4.out; have := Gqp5.out; have := L5.out; have := L6.out; have := Gqx0.out; have := L7.out; have := Gqx2.out; have := L8.out; have := Gqx3.out; have := L9.out; have := Gqx5.out; have := L10.out; have := L11.out; have := L12.out; have := Gqy0.out; have := L13.out; have := L14.out; have := Gqy2.out; have := L15.out; have := L16.out; have := Gqy3.out; have := L17.out; have := L18.out; have := Gqy5.out; have := L19.out; have := L20.out; have := L21.out; have := L22.out; have := L23.out; have := L24.out; have := L25.out; omega)
  clear k25 B24 Ow0r_24 Og0r_24
  have Og0r_25 : Hid (SOwn x25 x9.heap.size x10.heap.size Sg0 (marks (1 : Int) Sg0.n)) := og
  clear og
  have hmm : (((1 : Int) + (Sg0.n : Int)) != ((1 : Int) + (Sg0.n : Int))) = false := by simp
  go_wp2_with fail
  refine (heldB Sg0 (1 : Int) x25 Og0r_25.out.rd (by omega) (by omega) (by omega)).mono ?_
  rintro e xz ⟨rfl, rfl⟩
  have hq25_0 : ¬ ((1 : Int) + (Sg0.n : Int) < 0) := by omega
  go_wp2_with fail
  refine (toB s0 l0 x25 (HR0.out.later B25.out) (by have := HL0.out; omega)).mono ?_
  rintro e x26 ⟨rfl, o, b26⟩
  obtain ⟨qy0, hq⟩ : ∃ q, x25.heap.size = q := ⟨_, rfl⟩
  rw [hq] at o ⊢
  have L26 : Hid (x25.heap.size ≤ x26.heap.size) := b26.size
  have B26 : Hid (Below w.heap.size w x26) := B25.out.trans (b26.mono B25.out.size)
  have Ow0r_26 : Hid (SOwn x26 x4.heap.size x5.heap.size Sw0 R0) := Ow0r_25.out.later b26
  have Og0r_26 : Hid (SOwn x26 x9.heap.size x10.heap.size Sg0 (marks (1 : Int) Sg0.n)) := Og0r_25.out.later b26
  clear b26 B25 Ow0r_25 Og0r_25
  have Gqy0 : Hid (x25.heap.size = qy0) := hq
  have Oy0_26 : Hid (SOwn x26 qy0 x26.heap.size ⟨some ⟨qy0, 0, none⟩, s0.n, s0.n⟩ l0) := o
  clear o hq
  go_wp2_with fail
  refine (toB s2 l2 x26 (HR2.out.later B26.out) (by have := HL2.out; omega)).mono ?_
  rintro e x27 ⟨rfl, o, b27⟩
  obtain ⟨qy2, hq⟩ : ∃ q, x26.heap.size = q := ⟨_, rfl⟩
  rw [hq] at o ⊢
  have L27 : Hid (x26.heap.size ≤ x27.heap.size) := b27.size
  have B27 : Hid (Below w.heap.size w x27) := B26.out.trans (b27.mono B26.out.size)
  have Ow0r_27 : Hid (SOwn x27 x4.heap.size x5.heap.size Sw0 R0) := Ow0r_26.out.later b27
  have Og0r_27 : Hid (SOwn x27 x9.heap.size x10.heap.size Sg0 (marks (1 : Int) Sg0.n)) := Og0r_26.out.later b27
  have Oy0_27 : Hid (SOwn x27 qy0 x26.heap.size ⟨some ⟨qy0, 0, none⟩, s0.n, s0.n⟩ l0) := Oy0_26.out.later b27
  clear b27 B26 Ow0r_26 Og0r_26 Oy0_26
  have Gqy2 : Hid (x26.heap.size = qy2) := hq
  have Oy2_27 : Hid (SOwn x27 qy2 x27.heap.size ⟨some ⟨qy2, 0, none⟩, s2.n, s2.n⟩ l2) := o
  clear o hq
  go_wp2_with fail
  refine (toB s3 l3 x27 (HR3.out.later B27.out) (by have := HL3.out; omega)).mono ?_
  rintro e x28 ⟨rfl, o, b28⟩
  obtain ⟨qy3, hq⟩ : ∃ q, x27.heap.size = q := ⟨_, rfl⟩
  rw [hq] at o ⊢
  have L28 : Hid (x27.heap.size ≤ x28.heap.size) := b28.size
  have B28 : Hid (Below w.heap.size w x28) := B27.out.trans (b28.mono B27.out.size)
  have Ow0r_28 : Hid (SOwn x28 x4.heap.size x5.heap.size Sw0 R0) := Ow0r_27.out.later b28
  have Og0r_28 : Hid (SOwn x28 x9.heap.size x10.heap.size Sg0 (marks (1 : Int) Sg0.n)) := Og0r_27.out.later b28
  have Oy0_28 : Hid (SOwn x28 qy0 x26.heap.size ⟨some ⟨qy0, 0, none⟩, s0.n, s0.n⟩ l0) := Oy0_27.out.later b28
  have Oy2_28 : Hid (SOwn x28 qy2 x27.heap.size ⟨some ⟨qy2, 0, none⟩, s2.n, s2.n⟩ l2) := Oy2_27.out.later b28
  clear b28 B27 Ow0r_27 Og0r_27 Oy0_27 Oy2_27
  have Gqy3 : Hid (x27.heap.size = qy3) := hq
  have Oy3_28 : Hid (SOwn x28 qy3 x28.heap.size ⟨some ⟨qy3, 0, none⟩, s3.n, s3.n⟩ l3) := o
  clear o hq
  go_wp2_with fail
  refine (toB s5 l5 x28 (HR5.out.later B28.out) (by have := HL5.out; omega)).mono ?_
  rintro e x29 ⟨rfl, o, b29⟩
  obtain ⟨qy5, hq⟩ : ∃ q, x28.heap.size = q := ⟨_, rfl⟩
  rw [hq] at o ⊢
  have L29 : Hid (x28.heap.size ≤ x29.heap.size) := b29.size
  have B29 : Hid (Below w.heap.size w x29) := B28.out.trans (b29.mono B28.out.size)
  have Ow0r_29 : Hid (SOwn x29 x4.heap.size x5.heap.size Sw0 R0) := Ow0r_28.out.later b29
  have Og0r_29 : Hid (SOwn x29 x9.heap.size x10.heap.size Sg0 (marks (1 : Int) Sg0.n)) := Og0r_28.out.later b29
  have Oy0_29 : Hid (SOwn x29 qy0 x26.heap.size ⟨some ⟨qy0, 0, none⟩, s0.n, s0.n⟩ l0) := Oy0_28.out.later b29
  have Oy2_29 : Hid (SOwn x29 qy2 x27.heap.size ⟨some ⟨qy2, 0, none⟩, s2.n, s2.n⟩ l2) := Oy2_28.out.later b29
  have Oy3_29 : Hid (SOwn x29 qy3 x28.heap.size ⟨some ⟨qy3, 0, none⟩, s3.n, s3.n⟩ l3) := Oy3_28.out.later b29
  clear b29 B28 Ow0r_28 Og0r_28 Oy0_28 Oy2_28 Oy3_28
  have Gqy5 : Hid (x28.heap.size = qy5) := hq
  have Oy5_29 : Hid (SOwn x29 qy5 x29.heap.size ⟨some ⟨qy5, 0, none⟩, s5.n, s5.n⟩ l5) := o
  clear o hq
  go_wp2_with fail
  refine (KeJ.implProof ⟨some ⟨qy0, 0, none⟩, s0.n, s0.n⟩ l0 a1 ⟨some ⟨qy2, 0, none⟩, s2.n, s2.n⟩ ⟨some ⟨qy3, 0, none⟩, s3.n, s3.n⟩ l2 l3 a4 ⟨some ⟨qy5, 0, none⟩, s5.n, s5.n⟩ l5 x29 (HT.out.later B29.out) Oy0_29.out.rd Oy2_29.out.rd Oy3_29.out.rd Oy5_29.out.rd).mono ?_
  rw [HRD0.out]
  rintro e x30 ⟨Sh0, rfl, o0, b⟩
  have L30 : Hid (x29.heap.size ≤ x30.heap.size) := b.size
  have B30 : Hid (Below w.heap.size w x30) := B29.out.trans (b.mono B29.out.size)
  have Ow0r_30 : Hid (SOwn x30 x4.heap.size x5.heap.size Sw0 R0) := Ow0r_29.out.later b
  have Og0r_30 : Hid (SOwn x30 x9.heap.size x10.heap.size Sg0 (marks (1 : Int) Sg0.n)) := Og0r_29.out.later b
  have Oy0_30 : Hid (SOwn x30 qy0 x26.heap.size ⟨some ⟨qy0, 0, none⟩, s0.n, s0.n⟩ l0) := Oy0_29.out.later b
  have Oy2_30 : Hid (SOwn x30 qy2 x27.heap.size ⟨some ⟨qy2, 0, none⟩, s2.n, s2.n⟩ l2) := Oy2_29.out.later b
  have Oy3_30 : Hid (SOwn x30 qy3 x28.heap.size ⟨some ⟨qy3, 0, none⟩, s3.n, s3.n⟩ l3) := Oy3_29.out.later b
  have Oy5_30 : Hid (SOwn x30 qy5 x29.heap.size ⟨some ⟨qy5, 0, none⟩, s5.n, s5.n⟩ l5) := Oy5_29.out.later b
  clear b B29 Ow0r_29 Og0r_29 Oy0_29 Oy2_29 Oy3_29 Oy5_29
  have Oh0r_30 : Hid (SOwn x30 x29.heap.size x30.heap.size Sh0 R0) := o0
  clear o0
  go_upto_region 41 with fail
  clear Oy0_30
  clear Oy2_30
  clear Oy3_30
  clear Oy5_30
  go_wp2_with fail
  refine (eqB Sh0 Sw0 R0 R0 x30 Oh0r_30.out.rd Ow0r_30.out.rd (by have := HRS0.out; omega) (by have := HRS0.out; omega)).mono ?_
  rw [decide_eq_true (show R0 = R0 from rfl)]
  rintro e x31 ⟨rfl, b31⟩
  have L31 : Hid (x30.heap.size ≤ x31.heap.size) := b31.size
  have B31 : Hid (Below w.heap.size w x31) := B30.out.trans (b31.mono B30.out.size)
  have Ow0r_31 : Hid (SOwn x31 x4.heap.size x5.heap.size Sw0 R0) := Ow0r_30.out.later b31
  have Og0r_31 : Hid (SOwn x31 x9.heap.size x10.heap.size Sg0 (marks (1 : Int) Sg0.n)) := Og0r_30.out.later b31
  have Oh0r_31 : Hid (SOwn x31 x29.heap.size x30.heap.size Sh0 R0) := Oh0r_30.out.later b31
  clear b31 B30 Ow0r_30 Og0r_30 Oh0r_30
  go_wp2_with fail
  refine (heldB Sg0 (1 : Int) x31 Og0r_31.out.rd (by omega) (by omega) (by omega)).mono ?_
  rintro e xz ⟨rfl, rfl⟩
  have hq31_0 : ¬ ((1 : Int) + (Sg0.n : Int) < 0) := by omega
  go_wp2
  go_ret
  exact ⟨rfl, B31.out⟩
set_option maxRecDepth 100000 in
theorem walk1 (a0 : Option Addr) (n0 c0 : Nat) (z0 : List Int) (a1 : Int) (a2 : Option Addr) (n2 c2 : Nat) (z2 : List Int) (a3 : Option Addr) (n3 c3 : Nat) (z3 : List Int) (a4 : Int) (a5 : Option Addr) (n5 c5 : Nat) (z5 : List Int) (w : World) (hT : Tab w) (h0 : IsRow .u8 w a0 n0 c0 z0) (h2 : IsRow .u8 w a2 n2 c2 z2) (h3 : IsRow .u8 w a3 n3 c3 z3) (h5 : IsRow .u8 w a5 n5 c5 z5) :
    Calls Tryd.prog 8 #[.slice a0 n0 c0, .int .i64 a1, .slice a2 n2 c2, .slice a3 n3 c3, .int .i64 a4, .slice a5 n5 c5] w fun e w' => e = .returned (.bool true) ∧ Below w.heap.size w w' := by
  obtain ⟨l0, r0⟩ := row_sl h0
  obtain ⟨l2, r2⟩ := row_sl h2
  obtain ⟨l3, r3⟩ := row_sl h3
  obtain ⟨l5, r5⟩ := row_sl h5
  exact walk ⟨a0, n0, c0⟩ l0 a1 ⟨a2, n2, c2⟩ l2 ⟨a3, n3, c3⟩ l3 a4 ⟨a5, n5, c5⟩ l5 w hT r0 r2 r3 r5
end Go.Proofs.YtpenhliaelhnoaaDoor.LawProof

/-
  The walk of the law FnExactEpochKey: at every argument it answers true, and nothing that was there is written.
-/
import Derived.Test.YtpenhliaelhnoaaDoorKeJ
import Derived.Test.YtpenhliaelhnoaaDoorKeT
import Derived.Test.YtpenhliaelhnoaaDoorZoneB
import Derived.Test.YtpenhliaelhnoaaDoorZoneI
import Derived.Test.YtpenhliaelhnoaaDoorShp
import Derived.Test.YtpenhliaelhnoaaDoorOps
namespace Go.Proofs.YtpenhliaelhnoaaDoor.LawEpochKey
open Go.RowKit Go.Proofs.YtpenhliaelhnoaaDoor.Mem Go.Proofs.YtpenhliaelhnoaaDoor.Blk Go.Proofs.YtpenhliaelhnoaaDoor.Zone Go.Proofs.YtpenhliaelhnoaaDoor.ZoneB Go.Proofs.YtpenhliaelhnoaaDoor.ZoneI Go.Proofs.YtpenhliaelhnoaaDoor.MemI Go.Proofs.YtpenhliaelhnoaaDoor.Each Go.Proofs.YtpenhliaelhnoaaDoor.Copy Go.Proofs.YtpenhliaelhnoaaDoor.Ops Go.Proofs.YtpenhliaelhnoaaDoor.Shp Go.Proofs.YtpenhliaelhnoaaDoor.App Go.Proofs.YtpenhliaelhnoaaDoor.KeP Go.Proofs.YtpenhliaelhnoaaDoor.KeQ Go.Proofs.YtpenhliaelhnoaaDoor.Comp

set_option maxRecDepth 100000 in
set_option maxHeartbeats 8000000 in
theorem walk (s0 : Sl) (l0 : List Int) (s1 : Sl) (l1 : List Int) (s2 : Sl) (l2 : List Int) (a3 : Int) (w : World) (hT : Tab w) (h0 : SRd w s0 l0) (h1 : SRd w s1 l1) (h2 : SRd w s2 l2) :
    Calls Tryd.prog 7 #[.slice s0.a s0.n s0.c, .slice s1.a s1.n s1.c, .slice s2.a s2.n s2.c, .int .i64 a3] w fun e w' => e = .returned (.bool true) ∧ Below w.heap.size w w' := by
  obtain ⟨R0, hR0⟩ : ∃ R : List Int, epochK l0 l1 l2 a3 = R := ⟨_, rfl⟩
  have HRD0 : Hid (epochK l0 l1 l2 a3 = R0) := hR0
  clear hR0
  have HT : Hid (Tab w) := hT
  clear hT
  have HR0 : Hid (SRd w s0 l0) := h0
  have HN0 : Hid (s0.n = l0.length) := h0.len
  have HR1 : Hid (SRd w s1 l1) := h1
  have HN1 : Hid (s1.n = l1.length) := h1.len
  have HR2 : Hid (SRd w s2 l2) := h2
  have HN2 : Hid (s2.n = l2.length) := h2.len
  clear h0 h1 h2
  go_enter Tryd.func7, Tryd.ntmps7
  by_cases hbig0 : (s0.n : Int) > 1048576
  · go_wp2
    go_ret
    exact ⟨rfl, Below.refl _ _⟩
  have HL0 : Hid (l0.length ≤ 1048576) := by have := HN0.out; show _ ≤ _; omega
  by_cases hbig1 : (s1.n : Int) > 1048576
  · go_wp2
    go_ret
    exact ⟨rfl, Below.refl _ _⟩
  have HL1 : Hid (l1.length ≤ 1048576) := by have := HN1.out; show _ ≤ _; omega
  by_cases hbig2 : (s2.n : Int) > 1048576
  · go_wp2
    go_ret
    exact ⟨rfl, Below.refl _ _⟩
  have HL2 : Hid (l2.length ≤ 1048576) := by have := HN2.out; show _ ≤ _; omega
  have HRS0 : Hid (R0.length ≤ 1048576) := by rw [← HRD0.out]; exact Nat.le_trans (epochK_le _ _ _ _) (by omega)
  go_wp2_with fail
  refine (toB s0 l0 w HR0.out (by have := HL0.out; omega)).mono ?_
  rintro e x1 ⟨rfl, o, b1⟩
  obtain ⟨qp0, hq⟩ : ∃ q, w.heap.size = q := ⟨_, rfl⟩
  rw [hq] at o ⊢
  have L1 : Hid (w.heap.size ≤ x1.heap.size) := b1.size
  have B1 : Hid (Below w.heap.size w x1) := b1
  clear b1
  have Gqp0 : Hid (w.heap.size = qp0) := hq
  have Op0_1 : Hid (SOwn x1 qp0 x1.heap.size ⟨some ⟨qp0, 0, none⟩, s0.n, s0.n⟩ l0) := o
  clear o hq
  go_wp2_with fail
  refine (toB s1 l1 x1 (HR1.out.later B1.out) (by have := HL1.out; omega)).mono ?_
  rintro e x2 ⟨rfl, o, b2⟩
  obtain ⟨qp1, hq⟩ : ∃ q, x1.heap.size = q := ⟨_, rfl⟩
  rw [hq] at o ⊢
  have L2 : Hid (x1.heap.size ≤ x2.heap.size) := b2.size
  have B2 : Hid (Below w.heap.size w x2) := B1.out.trans (b2.mono B1.out.size)
  have Op0_2 : Hid (SOwn x2 qp0 x1.heap.size ⟨some ⟨qp0, 0, none⟩, s0.n, s0.n⟩ l0) := Op0_1.out.later b2
  clear b2 B1 Op0_1
  have Gqp1 : Hid (x1.heap.size = qp1) := hq
  have Op1_2 : Hid (SOwn x2 qp1 x2.heap.size ⟨some ⟨qp1, 0, none⟩, s1.n, s1.n⟩ l1) := o
  clear o hq
  go_wp2_with fail
  refine (toB s2 l2 x2 (HR2.out.later B2.out) (by have := HL2.out; omega)).mono ?_
  rintro e x3 ⟨rfl, o, b3⟩
  obtain ⟨qp2, hq⟩ : ∃ q, x2.heap.size = q := ⟨_, rfl⟩
  rw [hq] at o ⊢
  have L3 : Hid (x2.heap.size ≤ x3.heap.size) := b3.size
  have B3 : Hid (Below w.heap.size w x3) := B2.out.trans (b3.mono B2.out.size)
  have Op0_3 : Hid (SOwn x3 qp0 x1.heap.size ⟨some ⟨qp0, 0, none⟩, s0.n, s0.n⟩ l0) := Op0_2.out.later b3
  have Op1_3 : Hid (SOwn x3 qp1 x2.heap.size ⟨some ⟨qp1, 0, none⟩, s1.n, s1.n⟩ l1) := Op1_2.out.later b3
  clear b3 B2 Op0_2 Op1_2
  have Gqp2 : Hid (x2.heap.size = qp2) := hq
  have Op2_3 : Hid (SOwn x3 qp2 x3.heap.size ⟨some ⟨qp2, 0, none⟩, s2.n, s2.n⟩ l2) := o
  clear o hq
  go_wp2_with fail
  refine (KeT.specEpochKey ⟨some ⟨qp0, 0, none⟩, s0.n, s0.n⟩ ⟨some ⟨qp1, 0, none⟩, s1.n, s1.n⟩ ⟨some ⟨qp2, 0, none⟩, s2.n, s2.n⟩ l0 l1 l2 a3 x3 Op0_3.out.rd Op1_3.out.rd Op2_3.out.rd).mono ?_
  rw [HRD0.out]
  rintro e x4 ⟨Sw0, rfl, o0, b⟩
  have L4 : Hid (x3.heap.size ≤ x4.heap.size) := b.size
  have B4 : Hid (Below w.heap.size w x4) := B3.out.trans (b.mono B3.out.size)
  have Op0_4 : Hid (SOwn x4 qp0 x1.heap.size ⟨some ⟨qp0, 0, none⟩, s0.n, s0.n⟩ l0) := Op0_3.out.later b
  have Op1_4 : Hid (SOwn x4 qp1 x2.heap.size ⟨some ⟨qp1, 0, none⟩, s1.n, s1.n⟩ l1) := Op1_3.out.later b
  have Op2_4 : Hid (SOwn x4 qp2 x3.heap.size ⟨some ⟨qp2, 0, none⟩, s2.n, s2.n⟩ l2) := Op2_3.out.later b
  clear b B3 Op0_3 Op1_3 Op2_3
  have Ow0r_4 : Hid (SOwn x4 x3.heap.size x4.heap.size Sw0 R0) := o0
  clear o0
  go_upto_region 8 with fail
  clear Op0_4
  clear Op1_4
  clear Op2_4
  go_wp2_with fail
  refine (toB s0 l0 x4 (HR0.out.later B4.out) (by have := HL0.out; omega)).mono ?_
  rintro e x5 ⟨rfl, o, b5⟩
  obtain ⟨qx0, hq⟩ : ∃ q, x4.heap.size = q := ⟨_, rfl⟩
  rw [hq] at o ⊢
  have L5 : Hid (x4.heap.size ≤ x5.heap.size) := b5.size
  have B5 : Hid (Below w.heap.size w x5) := B4.out.trans (b5.mono B4.out.size)
  have Ow0r_5 : Hid (SOwn x5 x3.heap.size x4.heap.size Sw0 R0) := Ow0r_4.out.later b5
  clear b5 B4 Ow0r_4
  have Gqx0 : Hid (x4.heap.size = qx0) := hq
  have Ox0_5 : Hid (SOwn x5 qx0 x5.heap.size ⟨some ⟨qx0, 0, none⟩, s0.n, s0.n⟩ l0) := o
  clear o hq
  go_wp2_with fail
  refine (toB s1 l1 x5 (HR1.out.later B5.out) (by have := HL1.out; omega)).mono ?_
  rintro e x6 ⟨rfl, o, b6⟩
  obtain ⟨qx1, hq⟩ : ∃ q, x5.heap.size = q := ⟨_, rfl⟩
  rw [hq] at o ⊢
  have L6 : Hid (x5.heap.size ≤ x6.heap.size) := b6.size
  have B6 : Hid (Below w.heap.size w x6) := B5.out.trans (b6.mono B5.out.size)
  have Ow0r_6 : Hid (SOwn x6 x3.heap.size x4.heap.size Sw0 R0) := Ow0r_5.out.later b6
  have Ox0_6 : Hid (SOwn x6 qx0 x5.heap.size ⟨some ⟨qx0, 0, none⟩, s0.n, s0.n⟩ l0) := Ox0_5.out.later b6
  clear b6 B5 Ow0r_5 Ox0_5
  have Gqx1 : Hid (x5.heap.size = qx1) := hq
  have Ox1_6 : Hid (SOwn x6 qx1 x6.heap.size ⟨some ⟨qx1, 0, none⟩, s1.n, s1.n⟩ l1) := o
  clear o hq
  go_wp2_with fail
  refine (toB s2 l2 x6 (HR2.out.later B6.out) (by have := HL2.out; omega)).mono ?_
  rintro e x7 ⟨rfl, o, b7⟩
  obtain ⟨qx2, hq⟩ : ∃ q, x6.heap.size = q := ⟨_, rfl⟩
  rw [hq] at o ⊢
  have L7 : Hid (x6.heap.size ≤ x7.heap.size) := b7.size
  have B7 : Hid (Below w.heap.size w x7) := B6.out.trans (b7.mono B6.out.size)
  have Ow0r_7 : Hid (SOwn x7 x3.heap.size x4.heap.size Sw0 R0) := Ow0r_6.out.later b7
  have Ox0_7 : Hid (SOwn x7 qx0 x5.heap.size ⟨some ⟨qx0, 0, none⟩, s0.n, s0.n⟩ l0) := Ox0_6.out.later b7
  have Ox1_7 : Hid (SOwn x7 qx1 x6.heap.size ⟨some ⟨qx1, 0, none⟩, s1.n, s1.n⟩ l1) := Ox1_6.out.later b7
  clear b7 B6 Ow0r_6 Ox0_6 Ox1_6
  have Gqx2 : Hid (x6.heap.size = qx2) := hq
  have Ox2_7 : Hid (SOwn x7 qx2 x7.heap.size ⟨some ⟨qx2, 0, none⟩, s2.n, s2.n⟩ l2) := o
  clear o hq
  go_wp2_with fail
  refine (KeJ.implEpochKey ⟨some ⟨qx0, 0, none⟩, s0.n, s0.n⟩ ⟨some ⟨qx1, 0, none⟩, s1.n, s1.n⟩ ⟨some ⟨qx2, 0, none⟩, s2.n, s2.n⟩ l0 l1 l2 a3 x7 (HT.out.later B7.out) Ox0_7.out.rd Ox1_7.out.rd Ox2_7.out.rd).mono ?_
  rw [HRD0.out]
  rintro e x8 ⟨Sg0, rfl, o0, b⟩
  have L8 : Hid (x7.heap.size ≤ x8.heap.size) := b.size
  have B8 : Hid (Below w.heap.size w x8) := B7.out.trans (b.mono B7.out.size)
  have Ow0r_8 : Hid (SOwn x8 x3.heap.size x4.heap.size Sw0 R0) := Ow0r_7.out.later b
  have Ox0_8 : Hid (SOwn x8 qx0 x5.heap.size ⟨some ⟨qx0, 0, none⟩, s0.n, s0.n⟩ l0) := Ox0_7.out.later b
  have Ox1_8 : Hid (SOwn x8 qx1 x6.heap.size ⟨some ⟨qx1, 0, none⟩, s1.n, s1.n⟩ l1) := Ox1_7.out.later b
  have Ox2_8 : Hid (SOwn x8 qx2 x7.heap.size ⟨some ⟨qx2, 0, none⟩, s2.n, s2.n⟩ l2) := Ox2_7.out.later b
  clear b B7 Ow0r_7 Ox0_7 Ox1_7 Ox2_7
  have Og0r_8 : Hid (SOwn x8 x7.heap.size x8.heap.size Sg0 R0) := o0
  clear o0
  go_upto_region 12 with fail
  go_wp2_with fail
  refine (eqB Sg0 Sw0 R0 R0 x8 Og0r_8.out.rd Ow0r_8.out.rd (by have := HRS0.out; omega) (by have := HRS0.out; omega)).mono ?_
  rw [decide_eq_true (show R0 = R0 from rfl)]
  rintro e x9 ⟨rfl, b9⟩
  have L9 : Hid (x8.heap.size ≤ x9.heap.size) := b9.size
  have B9 : Hid (Below w.heap.size w x9) := B8.out.trans (b9.mono B8.out.size)
  have Ow0r_9 : Hid (SOwn x9 x3.heap.size x4.heap.size Sw0 R0) := Ow0r_8.out.later b9
  have Ox0_9 : Hid (SOwn x9 qx0 x5.heap.size ⟨some ⟨qx0, 0, none⟩, s0.n, s0.n⟩ l0) := Ox0_8.out.later b9
  have Ox1_9 : Hid (SOwn x9 qx1 x6.heap.size ⟨some ⟨qx1, 0, none⟩, s1.n, s1.n⟩ l1) := Ox1_8.out.later b9
  have Ox2_9 : Hid (SOwn x9 qx2 x7.heap.size ⟨some ⟨qx2, 0, none⟩, s2.n, s2.n⟩ l2) := Ox2_8.out.later b9
  have Og0r_9 : Hid (SOwn x9 x7.heap.size x8.heap.size Sg0 R0) := Og0r_8.out.later b9
  clear b9 B8 Ow0r_8 Ox0_8 Ox1_8 Ox2_8 Og0r_8
  go_wp2_with fail
  refine (toB s0 l0 x9 (HR0.out.later B9.out) (by have := HL0.out; omega)).mono ?_
  rintro e x10 ⟨rfl, o, b10⟩
  obtain ⟨qy0, hq⟩ : ∃ q, x9.heap.size = q := ⟨_, rfl⟩
  rw [hq] at o ⊢
  have L10 : Hid (x9.heap.size ≤ x10.heap.size) := b10.size
  have B10 : Hid (Below w.heap.size w x10) := B9.out.trans (b10.mono B9.out.size)
  have Ow0r_10 : Hid (SOwn x10 x3.heap.size x4.heap.size Sw0 R0) := Ow0r_9.out.later b10
  have Ox0_10 : Hid (SOwn x10 qx0 x5.heap.size ⟨some ⟨qx0, 0, none⟩, s0.n, s0.n⟩ l0) := Ox0_9.out.later b10
  have Ox1_10 : Hid (SOwn x10 qx1 x6.heap.size ⟨some ⟨qx1, 0, none⟩, s1.n, s1.n⟩ l1) := Ox1_9.out.later b10
  have Ox2_10 : Hid (SOwn x10 qx2 x7.heap.size ⟨some ⟨qx2, 0, none⟩, s2.n, s2.n⟩ l2) := Ox2_9.out.later b10
  have Og0r_10 : Hid (SOwn x10 x7.heap.size x8.heap.size Sg0 R0) := Og0r_9.out.later b10
  clear b10 B9 Ow0r_9 Ox0_9 Ox1_9 Ox2_9 Og0r_9
  have Gqy0 : Hid (x9.heap.size = qy0) := hq
  have Oy0_10 : Hid (SOwn x10 qy0 x10.heap.size ⟨some ⟨qy0, 0, none⟩, s0.n, s0.n⟩ l0) := o
  clear o hq
  go_wp2_with fail
  refine (eqB ⟨some ⟨qx0, 0, none⟩, s0.n, s0.n⟩ ⟨some ⟨qy0, 0, none⟩, s0.n, s0.n⟩ l0 l0 x10 Ox0_10.out.rd Oy0_10.out.rd (by have := HL0.out; omega) (by have := HL0.out; omega)).mono ?_
  rw [decide_eq_true (show l0 = l0 from rfl)]
  rintro e x11 ⟨rfl, b11⟩
  have L11 : Hid (x10.heap.size ≤ x11.heap.size) := b11.size
  have B11 : Hid (Below w.heap.size w x11) := B10.out.trans (b11.mono B10.out.size)
  have Ow0r_11 : Hid (SOwn x11 x3.heap.size x4.heap.size Sw0 R0) := Ow0r_10.out.later b11
  have Ox0_11 : Hid (SOwn x11 qx0 x5.heap.size ⟨some ⟨qx0, 0, none⟩, s0.n, s0.n⟩ l0) := Ox0_10.out.later b11
  have Ox1_11 : Hid (SOwn x11 qx1 x6.heap.size ⟨some ⟨qx1, 0, none⟩, s1.n, s1.n⟩ l1) := Ox1_10.out.later b11
  have Ox2_11 : Hid (SOwn x11 qx2 x7.heap.size ⟨some ⟨qx2, 0, none⟩, s2.n, s2.n⟩ l2) := Ox2_10.out.later b11
  have Og0r_11 : Hid (SOwn x11 x7.heap.size x8.heap.size Sg0 R0) := Og0r_10.out.later b11
  have Oy0_11 : Hid (SOwn x11 qy0 x10.heap.size ⟨some ⟨qy0, 0, none⟩, s0.n, s0.n⟩ l0) := Oy0_10.out.later b11
  clear b11 B10 Ow0r_10 Ox0_10 Ox1_10 Ox2_10 Og0r_10 Oy0_10
  clear Oy0_11
  go_wp2_with fail
  refine (toB s1 l1 x11 (HR1.out.later B11.out) (by have := HL1.out; omega)).mono ?_
  rintro e x12 ⟨rfl, o, b12⟩
  obtain ⟨qy1, hq⟩ : ∃ q, x11.heap.size = q := ⟨_, rfl⟩
  rw [hq] at o ⊢
  have L12 : Hid (x11.heap.size ≤ x12.heap.size) := b12.size
  have B12 : Hid (Below w.heap.size w x12) := B11.out.trans (b12.mono B11.out.size)
  have Ow0r_12 : Hid (SOwn x12 x3.heap.size x4.heap.size Sw0 R0) := Ow0r_11.out.later b12
  have Ox0_12 : Hid (SOwn x12 qx0 x5.heap.size ⟨some ⟨qx0, 0, none⟩, s0.n, s0.n⟩ l0) := Ox0_11.out.later b12
  have Ox1_12 : Hid (SOwn x12 qx1 x6.heap.size ⟨some ⟨qx1, 0, none⟩, s1.n, s1.n⟩ l1) := Ox1_11.out.later b12
  have Ox2_12 : Hid (SOwn x12 qx2 x7.heap.size ⟨some ⟨qx2, 0, none⟩, s2.n, s2.n⟩ l2) := Ox2_11.out.later b12
  have Og0r_12 : Hid (SOwn x12 x7.heap.size x8.heap.size Sg0 R0) := Og0r_11.out.later b12
  clear b12 B11 Ow0r_11 Ox0_11 Ox1_11 Ox2_11 Og0r_11
  have Gqy1 : Hid (x11.heap.size = qy1) := hq
  have Oy1_12 : Hid (SOwn x12 qy1 x12.heap.size ⟨some ⟨qy1, 0, none⟩, s1.n, s1.n⟩ l1) := o
  clear o hq
  go_wp2_with fail
  refine (eqB ⟨some ⟨qx1, 0, none⟩, s1.n, s1.n⟩ ⟨some ⟨qy1, 0, none⟩, s1.n, s1.n⟩ l1 l1 x12 Ox1_12.out.rd Oy1_12.out.rd (by have := HL1.out; omega) (by have := HL1.out; omega)).mono ?_
  rw [decide_eq_true (show l1 = l1 from rfl)]
  rintro e x13 ⟨rfl, b13⟩
  have L13 : Hid (x12.heap.size ≤ x13.heap.size) := b13.size
  have B13 : Hid (Below w.heap.size w x13) := B12.out.trans (b13.mono B12.out.size)
  have Ow0r_13 : Hid (SOwn x13 x3.heap.size x4.heap.size Sw0 R0) := Ow0r_12.out.later b13
  have Ox0_13 : Hid (SOwn x13 qx0 x5.heap.size ⟨some ⟨qx0, 0, none⟩, s0.n, s0.n⟩ l0) := Ox0_12.out.later b13
  have Ox1_13 : Hid (SOwn x13 qx1 x6.heap.size ⟨some ⟨qx1, 0, none⟩, s1.n, s1.n⟩ l1) := Ox1_12.out.later b13
  have Ox2_13 : Hid (SOwn x13 qx2 x7.heap.size ⟨some ⟨qx2, 0, none⟩, s2.n, s2.n⟩ l2) := Ox2_12.out.later b13
  have Og0r_13 : Hid (SOwn x13 x7.heap.size x8.heap.size Sg0 R0) := Og0r_12.out.later b13
  have Oy1_13 : Hid (SOwn x13 qy1 x12.heap.size ⟨some ⟨qy1, 0, none⟩, s1.n, s1.n⟩ l1) := Oy1_12.out.later b13
  clear b13 B12 Ow0r_12 Ox0_12 Ox1_12 Ox2_12 Og0r_12 Oy1_12
  clear Oy1_13
  go_wp2_with fail
  refine (toB s2 l2 x13 (HR2.out.later B13.out) (by have := HL2.out; omega)).mono ?_
  rintro e x14 ⟨rfl, o, b14⟩
  obtain ⟨qy2, hq⟩ : ∃ q, x13.heap.size = q := ⟨_, rfl⟩
  rw [hq] at o ⊢
  have L14 : Hid (x13.heap.size ≤ x14.heap.size) := b14.size
  have B14 : Hid (Below w.heap.size w x14) := B13.out.trans (b14.mono B13.out.size)
  have Ow0r_14 : Hid (SOwn x14 x3.heap.size x4.heap.size Sw0 R0) := Ow0r_13.out.later b14
  have Ox0_14 : Hid (SOwn x14 qx0 x5.heap.size ⟨some ⟨qx0, 0, none⟩, s0.n, s0.n⟩ l0) := Ox0_13.out.later b14
  have Ox1_14 : Hid (SOwn x14 qx1 x6.heap.size ⟨some ⟨qx1, 0, none⟩, s1.n, s1.n⟩ l1) := Ox1_13.out.later b14
  have Ox2_14 : Hid (SOwn x14 qx2 x7.heap.size ⟨some ⟨qx2, 0, none⟩, s2.n, s2.n⟩ l2) := Ox2_13.out.later b14
  have Og0r_14 : Hid (SOwn x14 x7.heap.size x8.heap.size Sg0 R0) := Og0r_13.out.later b14
  clear b14 B13 Ow0r_13 Ox0_13 Ox1_13 Ox2_13 Og0r_13
  have Gqy2 : Hid (x13.heap.size = qy2) := hq
  have Oy2_14 : Hid (SOwn x14 qy2 x14.heap.size ⟨some ⟨qy2, 0, none⟩, s2.n, s2.n⟩ l2) := o
  clear o hq
  go_wp2_with fail
  refine (eqB ⟨some ⟨qx2, 0, none⟩, s2.n, s2.n⟩ ⟨some ⟨qy2, 0, none⟩, s2.n, s2.n⟩ l2 l2 x14 Ox2_14.out.rd Oy2_14.out.rd (by have := HL2.out; omega) (by have := HL2.out; omega)).mono ?_
  rw [decide_eq_true (show l2 = l2 from rfl)]
  rintro e x15 ⟨rfl, b15⟩
  have L15 : Hid (x14.heap.size ≤ x15.heap.size) := b15.size
  have B15 : Hid (Below w.heap.size w x15) := B14.out.trans (b15.mono B14.out.size)
  have Ow0r_15 : Hid (SOwn x15 x3.heap.size x4.heap.size Sw0 R0) := Ow0r_14.out.later b15
  have Ox0_15 : Hid (SOwn x15 qx0 x5.heap.size ⟨some ⟨qx0, 0, none⟩, s0.n, s0.n⟩ l0) := Ox0_14.out.later b15
  have Ox1_15 : Hid (SOwn x15 qx1 x6.heap.size ⟨some ⟨qx1, 0, none⟩, s1.n, s1.n⟩ l1) := Ox1_14.out.later b15
  have Ox2_15 : Hid (SOwn x15 qx2 x7.heap.size ⟨some ⟨qx2, 0, none⟩, s2.n, s2.n⟩ l2) := Ox2_14.out.later b15
  have Og0r_15 : Hid (SOwn x15 x7.heap.size x8.heap.size Sg0 R0) := Og0r_14.out.later b15
  have Oy2_15 : Hid (SOwn x15 qy2 x14.heap.size ⟨some ⟨qy2, 0, none⟩, s2.n, s2.n⟩ l2) := Oy2_14.out.later b15
  clear b15 B14 Ow0r_14 Ox0_14 Ox1_14 Ox2_14 Og0r_14 Oy2_14
  clear Oy2_15
  go_wp2_with fail
  refine (markB ⟨some ⟨qx0, 0, none⟩, s0.n, s0.n⟩ l0 (1 : Int) x15 qx0 x5.heap.size Ox0_15.out (by have := HL0.out; omega) (by omega) (by omega)).mono ?_
  rintro e x16 ⟨rfl, _, k16, _⟩
  have L16 : Hid (x15.heap.size ≤ x16.heap.size) := k16.size
  have B16 : Hid (Below w.heap.size w x16) := B15.out.trans (k16.below (by have := L1.out; have := Gqp0.out; have := L2.out; have := Gqp1.out; have := L3.out; have := Gqp2.out; have := L4.out; have := L5.out; have := Gqx0.out; have := L6.out; have := Gqx1.out; have := L7.out; have := Gqx2.out; have := L8.out; have := L9.out; have := L10.out; have := Gqy0.out; have := L11.out; have := L12.out; have := Gqy1.out; have := L13.out; have := L14.out; have := Gqy2.out; have := L15.out; have := L16.out; omega) B15.out.size)
  have Ow0r_16 : Hid (SOwn x16 x3.heap.size x4.heap.size Sw0 R0) := Ow0r_15.out.carry k16 (by have := L1.out; have := Gqp0.out; have := L2.out; have := Gqp1.out; have := L3.out; have := Gqp2.out; have := L4.out; have := L5.out; have := Gqx0.out; have := L6.out; have := Gqx1.out; have := L7.out; have := Gqx2.out; have := L8.out; have := L9.out; have := L10.out; have := Gqy0.out; have := L11.out; have := L12.out; have := Gqy1.out; have := L13.out; have := L14.out; have := Gqy2.out; have := L15.out; have := L16.out; omega)
  have Ox1_16 : Hid (SOwn x16 qx1 x6.heap.size ⟨some ⟨qx1, 0, none⟩, s1.n, s1.n⟩ l1) := Ox1_15.out.carry k16 (by have := L1.out; have := Gqp0.out; have := L2.out; have := Gqp1.out; have := L3.out; have := Gqp2.out; have := L4.out; have := L5.out; have := Gqx0.out; have := L6.out; have := Gqx1.out; have := L7.out; have := Gqx2.out; have := L8.out; have := L9.out; have := L10.out; have := Gqy0.out; have := L11.out; have := L12.out; have := Gqy1.out; have := L13.out; have := L14.out; have := Gqy2.out; have := L15.out; have := L16.out; omega)
  have Ox2_16 : Hid (SOwn x16 qx2 x7.heap.size ⟨some ⟨qx2, 0, none⟩, s2.n, s2.n⟩ l2) := Ox2_15.out.carry k16 (by have := L1.out; have := Gqp0.out; have := L2.out; have := Gqp1.out; have := L3.out; have := Gqp2.out; have := L4.out; have := L5.out; have := Gqx0.out; have := L6.out; have := Gqx1.out; have := L7.out; have := Gqx2.out; have := L8.out; have := L9.out; have := L10.out; have := Gqy0.out; have := L11.out; have := L12.out; have := Gqy1.out; have := L13.out; have := L14.out; have := Gqy2.out; have := L15.out; have := L16.out; omega)
  have Og0r_16 : Hid (SOwn x16 x7.heap.size x8.heap.size Sg0 R0) := Og0r_15.out.carry k16 (by have := L1.out; have := Gqp0.out; have := L2.out; have := Gqp1.out; have := L3.out; have := Gqp2.out; have := L4.out; have := L5.out; have := Gqx0.out; have := L6.out; have := Gqx1.out; have := L7.out; have := Gqx2.out; have := L8.out; have := L9.out; have := L10.out; have := Gqy0.out; have := L11.out; have := L12.out; have := Gqy1.out; have := L13.out; have := L14.out; have := Gqy2.out; have := L15.out; have := L16.out; omega)
  clear k16 B15 Ow0r_15 Ox0_15 Ox1_15 Ox2_15 Og0r_15
  go_wp2_with fail
  refine (markB ⟨some ⟨qx1, 0, none⟩, s1.n, s1.n⟩ l1 ((1 : Int) + (s0.n : Int)) x16 qx1 x6.heap.size Ox1_16.out (by have := HL1.out; omega) (by omega) (by omega)).mono ?_
  rintro e x17 ⟨rfl, _, k17, _⟩
  have L17 : Hid (x16.heap.size ≤ x17.heap.size) := k17.size
  have B17 : Hid (Below w.heap.size w x17) := B16.out.trans (k17.below (by have := L1.out; have := Gqp0.out; have := L2.out; have := Gqp1.out; have := L3.out; have := Gqp2.out; have := L4.out; have := L5.out; have := Gqx0.out; have := L6.out; have := Gqx1.out; have := L7.out; have := Gqx2.out; have := L8.out; have := L9.out; have := L10.out; have := Gqy0.out; have := L11.out; have := L12.out; have := Gqy1.out; have := L13.out; have := L14.out; have := Gqy2.out; have := L15.out; have := L16.out; have := L17.out; omega) B16.out.size)
  have Ow0r_17 : Hid (SOwn x17 x3.heap.size x4.heap.size Sw0 R0) := Ow0r_16.out.carry k17 (by have := L1.out; have := Gqp0.out; have := L2.out; have := Gqp1.out; have := L3.out; have := Gqp2.out; have := L4.out; have := L5.out; have := Gqx0.out; have := L6.out; have := Gqx1.out; have := L7.out; have := Gqx2.out; have := L8.out; have := L9.out; have := L10.out; have := Gqy0.out; have := L11.out; have := L12.out; have := Gqy1.out; have := L13.out; have := L14.out; have := Gqy2.out; have := L15.out; have := L16.out; have := L17.out; omega)
  have Ox2_17 : Hid (SOwn x17 qx2 x7.heap.size ⟨some ⟨qx2, 0, none⟩, s2.n, s2.n⟩ l2) := Ox2_16.out.carry k17 (by have := L1.out; have := Gqp0.out; have := L2.out; have := Gqp1.out; have := L3.out; have := Gqp2.out; have := L4.out; have := L5.out; have := Gqx0.out; have := L6.out; have := Gqx1.out; have := L7.out; have := Gqx2.out; have := L8.out; have := L9.out; have := L10.out; have := Gqy0.out; have := L11.out; have := L12.out; have := Gqy1.out; have := L13.out; have := L14.out; have := Gqy2.out; have := L15.out; have := L16.out; have := L17.out; omega)
  have Og0r_17 : Hid (SOwn x17 x7.heap.size x8.heap.size Sg0 R0) := Og0r_16.out.carry k17 (by have := L1.out; have := Gqp0.out; have := L2.out; have := Gqp1.out; have := L3.out; have := Gqp2.out; have := L4.out; have := L5.out; have := Gqx0.out; have := L6.out; have := Gqx1.out; have := L7.out; have := Gqx2.out; have := L8.out; have := L9.out; have := L10.out; have := Gqy0.out; have := L11.out; have := L12.out; have := Gqy1.out; have := L13.out; have := L14.out; have := Gqy2.out; have := L15.out; have := L16.out; have := L17.out; omega)
  clear k17 B16 Ow0r_16 Ox1_16 Ox2_16 Og0r_16
  go_wp2_with fail
  refine (markB ⟨some ⟨qx2, 0, none⟩, s2.n, s2.n⟩ l2 (((1 : Int) + (s0.n : Int)) + (s1.n : Int)) x17 qx2 x7.heap.size Ox2_17.out (by have := HL2.out; omega) (by omega) (by omega)).mono ?_
  rintro e x18 ⟨rfl, _, k18, _⟩
  have L18 : Hid (x17.heap.size ≤ x18.heap.size) := k18.size
  have B18 : Hid (Below w.heap.size w x18) := B17.out.trans (k18.below (by have := L1.out; have := Gqp0.out; have := L2.out; have := Gqp1.out; have := L3.out; have := Gqp2.out; have := L4.out; have := L5.out; have := Gqx0.out; have := L6.out; have := Gqx1.out; have := L7.out; have := Gqx2.out; have := L8.out; have := L9.out; have := L10.out; have := Gqy0.out; have := L11.out; have := L12.out; have := Gqy1.out; have := L13.out; have := L14.out; have := Gqy2.out; have := L15.out; have := L16.out; have := L17.out; have := L18.out; omega) B17.out.size)
  have Ow0r_18 : Hid (SOwn x18 x3.heap.size x4.heap.size Sw0 R0) := Ow0r_17.out.carry k18 (by have := L1.out; have := Gqp0.out; have := L2.out; have := Gqp1.out; have := L3.out; have := Gqp2.out; have := L4.out; have := L5.out; have := Gqx0.out; have := L6.out; have := Gqx1.out; have := L7.out; have := Gqx2.out; have := L8.out; have := L9.out; have := L10.out; have := Gqy0.out; have := L11.out; have := L12.out; have := Gqy1.out; have := L13.out; have := L14.out; have := Gqy2.out; have := L15.out; have := L16.out; have := L17.out; have := L18.out; omega)
  have Og0r_18 : Hid (SOwn x18 x7.heap.size x8.heap.size Sg0 R0) := Og0r_17.out.carry k18 (by have := L1.out; have := Gqp0.out; have := L2.out; have := Gqp1.out; have := L3.out; have := Gqp2.out; have := L4.out; have := L5.out; have := Gqx0.out; have := L6.out; have := Gqx1.out; have := L7.out; have := Gqx2.out; have := L8.out; have := L9.out; have := L10.out; have := Gqy0.out; have := L11.out; have := L12.out; have := Gqy1.out; have := L13.out; have := L14.out; have := Gqy2.out; have := L15.out; have := L16.out; have := L17.out; have := L18.out; omega)
  clear k18 B17 Ow0r_17 Ox2_17 Og0r_17
  have hk0 : ¬ (((((1 : Int) + (s0.n : Int)) + (s1.n : Int)) + (s2.n : Int)) < 0) := by omega
  go_wp2_with fail
  refine (eqB Sg0 Sw0 R0 R0 x18 Og0r_18.out.rd Ow0r_18.out.rd (by have := HRS0.out; omega) (by have := HRS0.out; omega)).mono ?_
  rw [decide_eq_true (show R0 = R0 from rfl)]
  rintro e x19 ⟨rfl, b19⟩
  have L19 : Hid (x18.heap.size ≤ x19.heap.size) := b19.size
  have B19 : Hid (Below w.heap.size w x19) := B18.out.trans (b19.mono B18.out.size)
  have Ow0r_19 : Hid (SOwn x19 x3.heap.size x4.heap.size Sw0 R0) := Ow0r_18.out.later b19
  have Og0r_19 : Hid (SOwn x19 x7.heap.size x8.heap.size Sg0 R0) := Og0r_18.out.later b19
  clear b19 B18 Ow0r_18 Og0r_18
  have hms0 : (Sg0.n : Int) ≤ 1048576 := by have := Og0r_19.out.len; have := HRS0.out; omega
  go_wp2_with fail
  refine (markB Sg0 R0 (1 : Int) x19 x7.heap.size x8.heap.size Og0r_19.out (by have := HRS0.out; omega) (by omega) (by omega)).mono ?_
  rintro e x20 ⟨rfl, og, k20, _⟩
  have L20 : Hid (x19.heap.size ≤ x20.heap.size) := k20.size
  have B20 : Hid (Below w.heap.size w x20) := B19.out.trans (k20.below (by have := L1.out; have := Gqp0.out; have := L2.out; have := Gqp1.out; have := L3.out; have := Gqp2.out; have := L4.out; have := L5.out; have := Gqx0.out; have := L6.out; have := Gqx1.out; have := L7.out; have := Gqx2.out; have := L8.out; have := L9.out; have := L10.out; have := Gqy0.out; have := L11.out; have := L12.out; have := Gqy1.out; have := L13.out; have := L14.out; have := Gqy2.out; have := L15.out; have := L16.out; have := L17.out; have := L18.out; have := L19.out; have := L20.out; omega) B19.out.size)
  have Ow0r_20 : Hid (SOwn x20 x3.heap.size x4.heap.size Sw0 R0) := Ow0r_19.out.carry k20 (by have := L1.out; have := Gqp0.out; have := L2.out; have := Gqp1.out; have := L3.out; have := Gqp2.out; have := L4.out; have := L5.out; have := Gqx0.out; have := L6.out; have := Gqx1.out; have := L7.out; have := Gqx2.out; have := L8.out; have := L9.out; have := L10.out; have := Gqy0.out; have := L11.out; have := L12.out; have := Gqy1.out; have := L13.out; have := L14.out; have := Gqy2.out; have := L15.out; have := L16.out; have := L17.out; have := L18.out; have := L19.out; have := L20.out; omega)
  clear k20 B19 Ow0r_19 Og0r_19
  have Og0r_20 : Hid (SOwn x20 x7.heap.size x8.heap.size Sg0 (marks (1 : Int) Sg0.n)) := og
  clear og
  have hmm : (((1 : Int) + (Sg0.n : Int)) != ((1 : Int) + (Sg0.n : Int))) = false := by simp
  go_wp2_with fail
  refine (heldB Sg0 (1 : Int) x20 Og0r_20.out.rd (by omega) (by omega) (by omega)).mono ?_
  rintro e xz ⟨rfl, rfl⟩
  have hq20_0 : ¬ ((1 : Int) + (Sg0.n : Int) < 0) := by omega
  go_wp2_with fail
  refine (toB s0 l0 x20 (HR0.out.later B20.out) (by have := HL0.out; omega)).mono ?_
  rintro e x21 ⟨rfl, o, b21⟩
  obtain ⟨qy0, hq⟩ : ∃ q, x20.heap.size = q := ⟨_, rfl⟩
  rw [hq] at o ⊢
  have L21 : Hid (x20.heap.size ≤ x21.heap.size) := b21.size
  have B21 : Hid (Below w.heap.size w x21) := B20.out.trans (b21.mono B20.out.size)
  have Ow0r_21 : Hid (SOwn x21 x3.heap.size x4.heap.size Sw0 R0) := Ow0r_20.out.later b21
  have Og0r_21 : Hid (SOwn x21 x7.heap.size x8.heap.size Sg0 (marks (1 : Int) Sg0.n)) := Og0r_20.out.later b21
  clear b21 B20 Ow0r_20 Og0r_20
  have Gqy0 : Hid (x20.heap.size = qy0) := hq
  have Oy0_21 : Hid (SOwn x21 qy0 x21.heap.size ⟨some ⟨qy0, 0, none⟩, s0.n, s0.n⟩ l0) := o
  clear o hq
  go_wp2_with fail
  refine (toB s1 l1 x21 (HR1.out.later B21.out) (by have := HL1.out; omega)).mono ?_
  rintro e x22 ⟨rfl, o, b22⟩
  obtain ⟨qy1, hq⟩ : ∃ q, x21.heap.size = q := ⟨_, rfl⟩
  rw [hq] at o ⊢
  have L22 : Hid (x21.heap.size ≤ x22.heap.size) := b22.size
  have B22 : Hid (Below w.heap.size w x22) := B21.out.trans (b22.mono B21.out.size)
  have Ow0r_22 : Hid (SOwn x22 x3.heap.size x4.heap.size Sw0 R0) := Ow0r_21.out.later b22
  have Og0r_22 : Hid (SOwn x22 x7.heap.size x8.heap.size Sg0 (marks (1 : Int) Sg0.n)) := Og0r_21.out.later b22
  have Oy0_22 : Hid (SOwn x22 qy0 x21.heap.size ⟨some ⟨qy0, 0, none⟩, s0.n, s0.n⟩ l0) := Oy0_21.out.later b22
  clear b22 B21 Ow0r_21 Og0r_21 Oy0_21
  have Gqy1 : Hid (x21.heap.size = qy1) := hq
  have Oy1_22 : Hid (SOwn x22 qy1 x22.heap.size ⟨some ⟨qy1, 0, none⟩, s1.n, s1.n⟩ l1) := o
  clear o hq
  go_wp2_with fail
  refine (toB s2 l2 x22 (HR2.out.later B22.out) (by have := HL2.out; omega)).mono ?_
  rintro e x23 ⟨rfl, o, b23⟩
  obtain ⟨qy2, hq⟩ : ∃ q, x22.heap.size = q := ⟨_, rfl⟩
  rw [hq] at o ⊢
  have L23 : Hid (x22.heap.size ≤ x23.heap.size) := b23.size
  have B23 : Hid (Below w.heap.size w x23) := B22.out.trans (b23.mono B22.out.size)
  have Ow0r_23 : Hid (SOwn x23 x3.heap.size x4.heap.size Sw0 R0) := Ow0r_22.out.later b23
  have Og0r_23 : Hid (SOwn x23 x7.heap.size x8.heap.size Sg0 (marks (1 : Int) Sg0.n)) := Og0r_22.out.later b23
  have Oy0_23 : Hid (SOwn x23 qy0 x21.heap.size ⟨some ⟨qy0, 0, none⟩, s0.n, s0.n⟩ l0) := Oy0_22.out.later b23
  have Oy1_23 : Hid (SOwn x23 qy1 x22.heap.size ⟨some ⟨qy1, 0, none⟩, s1.n, s1.n⟩ l1) := Oy1_22.out.later b23
  clear b23 B22 Ow0r_22 Og0r_22 Oy0_22 Oy1_22
  have Gqy2 : Hid (x22.heap.size = qy2) := hq
  have Oy2_23 : Hid (SOwn x23 qy2 x23.heap.size ⟨some ⟨qy2, 0, none⟩, s2.n, s2.n⟩ l2) := o
  clear o hq
  go_wp2_with fail
  refine (KeJ.implEpochKey ⟨some ⟨qy0, 0, none⟩, s0.n, s0.n⟩ ⟨some ⟨qy1, 0, none⟩, s1.n, s1.n⟩ ⟨some ⟨qy2, 0, none⟩, s2.n, s2.n⟩ l0 l1 l2 a3 x23 (HT.out.later B23.out) Oy0_23.out.rd Oy1_23.out.rd Oy2_23.out.rd).mono ?_
  rw [HRD0.out]
  rintro e x24 ⟨Sh0, rfl, o0, b⟩
  have L24 : Hid (x23.heap.size ≤ x24.heap.size) := b.size
  have B24 : Hid (Below w.heap.size w x24) := B23.out.trans (b.mono B23.out.size)
  have Ow0r_24 : Hid (SOwn x24 x3.heap.size x4.heap.size Sw0 R0) := Ow0r_23.out.later b
  have Og0r_24 : Hid (SOwn x24 x7.heap.size x8.heap.size Sg0 (marks (1 : Int) Sg0.n)) := Og0r_23.out.later b
  have Oy0_24 : Hid (SOwn x24 qy0 x21.heap.size ⟨some ⟨qy0, 0, none⟩, s0.n, s0.n⟩ l0) := Oy0_23.out.later b
  have Oy1_24 : Hid (SOwn x24 qy1 x22.heap.size ⟨some ⟨qy1, 0, none⟩, s1.n, s1.n⟩ l1) := Oy1_23.out.later b
  have Oy2_24 : Hid (SOwn x24 qy2 x23.heap.size ⟨some ⟨qy2, 0, none⟩, s2.n, s2.n⟩ l2) := Oy2_23.out.later b
  clear b B23 Ow0r_23 Og0r_23 Oy0_23 Oy1_23 Oy2_23
  have Oh0r_24 : Hid (SOwn x24 x23.heap.size x24.heap.size Sh0 R0) := o0
  clear o0
  go_upto_region 35 with fail
  clear Oy0_24
  clear Oy1_24
  clear Oy2_24
  go_wp2_with fail
  refine (eqB Sh0 Sw0 R0 R0 x24 Oh0r_24.out.rd Ow0r_24.out.rd (by have := HRS0.out; omega) (by have := HRS0.out; omega)).mono ?_
  rw [decide_eq_true (show R0 = R0 from rfl)]
  rintro e x25 ⟨rfl, b25⟩
  have L25 : Hid (x24.heap.size ≤ x25.heap.size) := b25.size
  have B25 : Hid (Below w.heap.size w x25) := B24.out.trans (b25.mono B24.out.size)
  have Ow0r_25 : Hid (SOwn x25 x3.heap.size x4.heap.size Sw0 R0) := Ow0r_24.out.later b25
  have Og0r_25 : Hid (SOwn x25 x7.heap.size x8.heap.size Sg0 (marks (1 : Int) Sg0.n)) := Og0r_24.out.later b25
  have Oh0r_25 : Hid (SOwn x25 x23.heap.size x24.heap.size Sh0 R0) := Oh0r_24.out.later b25
  clear b25 B24 Ow0r_24 Og0r_24 Oh0r_24
  go_wp2_with fail
  refine (heldB Sg0 (1 : Int) x25 Og0r_25.out.rd (by omega) (by omega) (by omega)).mono ?_
  rintro e xz ⟨rfl, rfl⟩
  have hq25_0 : ¬ ((1 : Int) + (Sg0.n : Int) < 0) := by omega
  go_wp2
  go_ret
  exact ⟨rfl, B25.out⟩
set_option maxRecDepth 100000 in
theorem walk1 (a0 : Option Addr) (n0 c0 : Nat) (z0 : List Int) (a1 : Option Addr) (n1 c1 : Nat) (z1 : List Int) (a2 : Option Addr) (n2 c2 : Nat) (z2 : List Int) (a3 : Int) (w : World) (hT : Tab w) (h0 : IsRow .u8 w a0 n0 c0 z0) (h1 : IsRow .u8 w a1 n1 c1 z1) (h2 : IsRow .u8 w a2 n2 c2 z2) :
    Calls Tryd.prog 7 #[.slice a0 n0 c0, .slice a1 n1 c1, .slice a2 n2 c2, .int .i64 a3] w fun e w' => e = .returned (.bool true) ∧ Below w.heap.size w w' := by
  obtain ⟨l0, r0⟩ := row_sl h0
  obtain ⟨l1, r1⟩ := row_sl h1
  obtain ⟨l2, r2⟩ := row_sl h2
  exact walk ⟨a0, n0, c0⟩ l0 ⟨a1, n1, c1⟩ l1 ⟨a2, n2, c2⟩ l2 a3 w hT r0 r1 r2
end Go.Proofs.YtpenhliaelhnoaaDoor.LawEpochKey

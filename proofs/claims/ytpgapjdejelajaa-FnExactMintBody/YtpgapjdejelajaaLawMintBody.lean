/-
  The walk of the law FnExactMintBody: at every argument it answers true, and nothing that was there is written.
-/
import Derived.Test.YtpgapjdejelajaaCkI
import Derived.Test.YtpgapjdejelajaaCkS
import Derived.Test.YtpgapjdejelajaaShp
import Derived.Test.YtpgapjdejelajaaOps
import Derived.Test.YtpgapjdejelajaaAddrL
import Derived.Test.YtpgapjdejelajaaCkL
namespace Go.Proofs.Ytpgapjdejelajaa.LawMintBody
open Go.RowKit Go.Proofs.Ytpgapjdejelajaa.Mem Go.Proofs.Ytpgapjdejelajaa.Blk Go.Proofs.Ytpgapjdejelajaa.Zone Go.Proofs.Ytpgapjdejelajaa.ZoneB Go.Proofs.Ytpgapjdejelajaa.ZoneI Go.Proofs.Ytpgapjdejelajaa.MemI Go.Proofs.Ytpgapjdejelajaa.Each Go.Proofs.Ytpgapjdejelajaa.Copy Go.Proofs.Ytpgapjdejelajaa.Ops Go.Proofs.Ytpgapjdejelajaa.Shp Go.Proofs.Ytpgapjdejelajaa.App Go.Proofs.Ytpgapjdejelajaa.JaZ Go.Proofs.Ytpgapjdejelajaa.JaL Go.Proofs.Ytpgapjdejelajaa.CkP

set_option maxRecDepth 100000 in
set_option maxHeartbeats 8000000 in
theorem walk (ah0 ap0 : Int) (a1 : Int) (s2 : Sl) (l2 : List Int) (s3 : Sl) (l3 : List Int) (a4 : Int) (w : World)  (h2 : SRd w s2 l2) (h3 : SRd w s3 l3) :
    Calls Try.prog 4 #[AddrS.addrV ah0 ap0, .int .i64 a1, .slice s2.a s2.n s2.c, .slice s3.a s3.n s3.c, .int .i64 a4] w fun e w' => e = .returned (.bool true) ∧ Below w.heap.size w w' := by
  obtain ⟨R0, hR0⟩ : ∃ R : List Int, mintL ah0 ap0 a1 l2 l3 a4 = R := ⟨_, rfl⟩
  have HRD0 : Hid (mintL ah0 ap0 a1 l2 l3 a4 = R0) := hR0
  clear hR0
  have HR2 : Hid (SRd w s2 l2) := h2
  have HN2 : Hid (s2.n = l2.length) := h2.len
  have HR3 : Hid (SRd w s3 l3) := h3
  have HN3 : Hid (s3.n = l3.length) := h3.len
  clear h2 h3
  obtain ⟨x1, hx1⟩ : ∃ x1, w.alloc (.cells #[.int .i64 ah0, .int .i64 ap0] 32) = x1 := ⟨_, rfl⟩
  have HW0 : Hid (w.alloc (.cells #[.int .i64 ah0, .int .i64 ap0] 32) = x1) := hx1
  have b1 : Below w.heap.size w x1 := by rw [← hx1]; exact (Below.refl _ _).alloc (Nat.le_refl _) _
  have KN0 : Blk x1 (w.heap.size) 32 [.int .i64 ah0, .int .i64 ap0] := by
    have q := Blk.new (w) 32 [.int .i64 ah0, .int .i64 ap0]
    rw [← hx1]; exact q
  have SZ1 : x1.heap.size = w.heap.size + 1 := by rw [← hx1]; simp
  clear hx1
  have L1 : Hid (w.heap.size ≤ x1.heap.size) := b1.size
  have B1 : Hid (Below w.heap.size w x1) := b1
  clear b1
  unfold AddrS.addrV
  go_enter Try.func4, Try.ntmps4
  go_upto_region 1 with fail
  rw [HW0.out]
  obtain ⟨ga0, hga0⟩ : ∃ g, w.heap.size = g := ⟨_, rfl⟩
  have Gga : Hid (w.heap.size + 0 = ga0 ∧ x1.heap.size = w.heap.size + 1) := ⟨by omega, SZ1⟩
  rw [hga0] at KN0
  rw [hga0]
  clear HW0 SZ1 hga0
  have KA0_1 : Hid (Blk x1 ga0 32 [.int .i64 ah0, .int .i64 ap0]) := KN0
  clear KN0
  by_cases hbig2 : (s2.n : Int) > 1048576
  · go_wp2
    go_ret
    exact ⟨rfl, B1.out⟩
  have HL2 : Hid (l2.length ≤ 1048576) := by have := HN2.out; show _ ≤ _; omega
  by_cases hbig3 : (s3.n : Int) > 1048576
  · go_wp2
    go_ret
    exact ⟨rfl, B1.out⟩
  have HL3 : Hid (l3.length ≤ 1048576) := by have := HN3.out; show _ ≤ _; omega
  have HRS0 : Hid (R0.length ≤ 1048576) := by rw [← HRD0.out]; exact Nat.le_trans (mintL_le _ _ _ _ _ _) (by omega)
  have cv0_0 := KA0_1.out.cell 0 rfl
  have cv0_1 := KA0_1.out.cell 1 rfl
  go_wp2_with fail
  refine (AddrL.toAddr ah0 ap0 x1).mono ?_
  rintro e x2 ⟨rfl, b⟩
  clear cv0_0 cv0_1
  have L2 : Hid (x1.heap.size ≤ x2.heap.size) := b.size
  have B2 : Hid (Below w.heap.size w x2) := B1.out.trans (b.mono B1.out.size)
  have KA0_2 : Hid (Blk x2 ga0 32 [.int .i64 ah0, .int .i64 ap0]) := KA0_1.out.later b
  clear b B1 KA0_1
  go_wp2_with fail
  refine (toB s2 l2 x2 (HR2.out.later B2.out) (by have := HL2.out; omega)).mono ?_
  rintro e x3 ⟨rfl, o, b3⟩
  obtain ⟨qp2, hq⟩ : ∃ q, x2.heap.size = q := ⟨_, rfl⟩
  rw [hq] at o ⊢
  have L3 : Hid (x2.heap.size ≤ x3.heap.size) := b3.size
  have B3 : Hid (Below w.heap.size w x3) := B2.out.trans (b3.mono B2.out.size)
  have KA0_3 : Hid (Blk x3 ga0 32 [.int .i64 ah0, .int .i64 ap0]) := KA0_2.out.later b3
  clear b3 B2 KA0_2
  have Gqp2 : Hid (x2.heap.size = qp2) := hq
  have Op2_3 : Hid (SOwn x3 qp2 x3.heap.size ⟨some ⟨qp2, 0, none⟩, s2.n, s2.n⟩ l2) := o
  clear o hq
  go_wp2_with fail
  refine (toB s3 l3 x3 (HR3.out.later B3.out) (by have := HL3.out; omega)).mono ?_
  rintro e x4 ⟨rfl, o, b4⟩
  obtain ⟨qp3, hq⟩ : ∃ q, x3.heap.size = q := ⟨_, rfl⟩
  rw [hq] at o ⊢
  have L4 : Hid (x3.heap.size ≤ x4.heap.size) := b4.size
  have B4 : Hid (Below w.heap.size w x4) := B3.out.trans (b4.mono B3.out.size)
  have KA0_4 : Hid (Blk x4 ga0 32 [.int .i64 ah0, .int .i64 ap0]) := KA0_3.out.later b4
  have Op2_4 : Hid (SOwn x4 qp2 x3.heap.size ⟨some ⟨qp2, 0, none⟩, s2.n, s2.n⟩ l2) := Op2_3.out.later b4
  clear b4 B3 KA0_3 Op2_3
  have Gqp3 : Hid (x3.heap.size = qp3) := hq
  have Op3_4 : Hid (SOwn x4 qp3 x4.heap.size ⟨some ⟨qp3, 0, none⟩, s3.n, s3.n⟩ l3) := o
  clear o hq
  have cv0_0 := KA0_4.out.cell 0 rfl
  have cv0_1 := KA0_4.out.cell 1 rfl
  go_wp2_with fail
  refine (CkS.specMintBody ah0 ap0 a1 ⟨some ⟨qp2, 0, none⟩, s2.n, s2.n⟩ ⟨some ⟨qp3, 0, none⟩, s3.n, s3.n⟩ l2 l3 a4 x4 Op2_4.out.rd Op3_4.out.rd).mono ?_
  rw [HRD0.out]
  rintro e x5 ⟨Sw0, rfl, o0, b⟩
  clear cv0_0 cv0_1
  have L5 : Hid (x4.heap.size ≤ x5.heap.size) := b.size
  have B5 : Hid (Below w.heap.size w x5) := B4.out.trans (b.mono B4.out.size)
  have KA0_5 : Hid (Blk x5 ga0 32 [.int .i64 ah0, .int .i64 ap0]) := KA0_4.out.later b
  have Op2_5 : Hid (SOwn x5 qp2 x3.heap.size ⟨some ⟨qp2, 0, none⟩, s2.n, s2.n⟩ l2) := Op2_4.out.later b
  have Op3_5 : Hid (SOwn x5 qp3 x4.heap.size ⟨some ⟨qp3, 0, none⟩, s3.n, s3.n⟩ l3) := Op3_4.out.later b
  clear b B4 KA0_4 Op2_4 Op3_4
  have Ow0r_5 : Hid (SOwn x5 x4.heap.size x5.heap.size Sw0 R0) := o0
  clear o0
  go_upto_region 6 with fail
  clear Op2_5
  clear Op3_5
  go_wp2_with fail
  refine (toB s2 l2 x5 (HR2.out.later B5.out) (by have := HL2.out; omega)).mono ?_
  rintro e x6 ⟨rfl, o, b6⟩
  obtain ⟨qx2, hq⟩ : ∃ q, x5.heap.size = q := ⟨_, rfl⟩
  rw [hq] at o ⊢
  have L6 : Hid (x5.heap.size ≤ x6.heap.size) := b6.size
  have B6 : Hid (Below w.heap.size w x6) := B5.out.trans (b6.mono B5.out.size)
  have KA0_6 : Hid (Blk x6 ga0 32 [.int .i64 ah0, .int .i64 ap0]) := KA0_5.out.later b6
  have Ow0r_6 : Hid (SOwn x6 x4.heap.size x5.heap.size Sw0 R0) := Ow0r_5.out.later b6
  clear b6 B5 KA0_5 Ow0r_5
  have Gqx2 : Hid (x5.heap.size = qx2) := hq
  have Ox2_6 : Hid (SOwn x6 qx2 x6.heap.size ⟨some ⟨qx2, 0, none⟩, s2.n, s2.n⟩ l2) := o
  clear o hq
  go_wp2_with fail
  refine (toB s3 l3 x6 (HR3.out.later B6.out) (by have := HL3.out; omega)).mono ?_
  rintro e x7 ⟨rfl, o, b7⟩
  obtain ⟨qx3, hq⟩ : ∃ q, x6.heap.size = q := ⟨_, rfl⟩
  rw [hq] at o ⊢
  have L7 : Hid (x6.heap.size ≤ x7.heap.size) := b7.size
  have B7 : Hid (Below w.heap.size w x7) := B6.out.trans (b7.mono B6.out.size)
  have KA0_7 : Hid (Blk x7 ga0 32 [.int .i64 ah0, .int .i64 ap0]) := KA0_6.out.later b7
  have Ow0r_7 : Hid (SOwn x7 x4.heap.size x5.heap.size Sw0 R0) := Ow0r_6.out.later b7
  have Ox2_7 : Hid (SOwn x7 qx2 x6.heap.size ⟨some ⟨qx2, 0, none⟩, s2.n, s2.n⟩ l2) := Ox2_6.out.later b7
  clear b7 B6 KA0_6 Ow0r_6 Ox2_6
  have Gqx3 : Hid (x6.heap.size = qx3) := hq
  have Ox3_7 : Hid (SOwn x7 qx3 x7.heap.size ⟨some ⟨qx3, 0, none⟩, s3.n, s3.n⟩ l3) := o
  clear o hq
  have cv0_0 := KA0_7.out.cell 0 rfl
  have cv0_1 := KA0_7.out.cell 1 rfl
  go_wp2_with fail
  refine (AddrL.toAddr ah0 ap0 x7).mono ?_
  rintro e x8 ⟨rfl, b⟩
  clear cv0_0 cv0_1
  have L8 : Hid (x7.heap.size ≤ x8.heap.size) := b.size
  have B8 : Hid (Below w.heap.size w x8) := B7.out.trans (b.mono B7.out.size)
  have KA0_8 : Hid (Blk x8 ga0 32 [.int .i64 ah0, .int .i64 ap0]) := KA0_7.out.later b
  have Ow0r_8 : Hid (SOwn x8 x4.heap.size x5.heap.size Sw0 R0) := Ow0r_7.out.later b
  have Ox2_8 : Hid (SOwn x8 qx2 x6.heap.size ⟨some ⟨qx2, 0, none⟩, s2.n, s2.n⟩ l2) := Ox2_7.out.later b
  have Ox3_8 : Hid (SOwn x8 qx3 x7.heap.size ⟨some ⟨qx3, 0, none⟩, s3.n, s3.n⟩ l3) := Ox3_7.out.later b
  clear b B7 KA0_7 Ow0r_7 Ox2_7 Ox3_7
  have cv0_0 := KA0_8.out.cell 0 rfl
  have cv0_1 := KA0_8.out.cell 1 rfl
  go_wp2_with fail
  refine (CkI.implMintBody ah0 ap0 a1 ⟨some ⟨qx2, 0, none⟩, s2.n, s2.n⟩ ⟨some ⟨qx3, 0, none⟩, s3.n, s3.n⟩ l2 l3 a4 x8 Ox2_8.out.rd Ox3_8.out.rd).mono ?_
  rw [HRD0.out]
  rintro e x9 ⟨Sg0, rfl, o0, b⟩
  clear cv0_0 cv0_1
  have L9 : Hid (x8.heap.size ≤ x9.heap.size) := b.size
  have B9 : Hid (Below w.heap.size w x9) := B8.out.trans (b.mono B8.out.size)
  have KA0_9 : Hid (Blk x9 ga0 32 [.int .i64 ah0, .int .i64 ap0]) := KA0_8.out.later b
  have Ow0r_9 : Hid (SOwn x9 x4.heap.size x5.heap.size Sw0 R0) := Ow0r_8.out.later b
  have Ox2_9 : Hid (SOwn x9 qx2 x6.heap.size ⟨some ⟨qx2, 0, none⟩, s2.n, s2.n⟩ l2) := Ox2_8.out.later b
  have Ox3_9 : Hid (SOwn x9 qx3 x7.heap.size ⟨some ⟨qx3, 0, none⟩, s3.n, s3.n⟩ l3) := Ox3_8.out.later b
  clear b B8 KA0_8 Ow0r_8 Ox2_8 Ox3_8
  have Og0r_9 : Hid (CkL.LOwn x9 x8.heap.size x9.heap.size Sg0 R0) := o0
  clear o0
  go_upto_region 9 with fail
  go_wp2_with fail
  refine (eqB Sg0 Sw0 R0 R0 x9 Og0r_9.out.rd Ow0r_9.out.rd (by have := HRS0.out; omega) (by have := HRS0.out; omega)).mono ?_
  rw [decide_eq_true (show R0 = R0 from rfl)]
  rintro e x10 ⟨rfl, b10⟩
  have L10 : Hid (x9.heap.size ≤ x10.heap.size) := b10.size
  have B10 : Hid (Below w.heap.size w x10) := B9.out.trans (b10.mono B9.out.size)
  have KA0_10 : Hid (Blk x10 ga0 32 [.int .i64 ah0, .int .i64 ap0]) := KA0_9.out.later b10
  have Ow0r_10 : Hid (SOwn x10 x4.heap.size x5.heap.size Sw0 R0) := Ow0r_9.out.later b10
  have Ox2_10 : Hid (SOwn x10 qx2 x6.heap.size ⟨some ⟨qx2, 0, none⟩, s2.n, s2.n⟩ l2) := Ox2_9.out.later b10
  have Ox3_10 : Hid (SOwn x10 qx3 x7.heap.size ⟨some ⟨qx3, 0, none⟩, s3.n, s3.n⟩ l3) := Ox3_9.out.later b10
  have Og0r_10 : Hid (CkL.LOwn x10 x8.heap.size x9.heap.size Sg0 R0) := Og0r_9.out.later b10
  clear b10 B9 KA0_9 Ow0r_9 Ox2_9 Ox3_9 Og0r_9
  go_wp2_with fail
  refine (toB s2 l2 x10 (HR2.out.later B10.out) (by have := HL2.out; omega)).mono ?_
  rintro e x11 ⟨rfl, o, b11⟩
  obtain ⟨qy2, hq⟩ : ∃ q, x10.heap.size = q := ⟨_, rfl⟩
  rw [hq] at o ⊢
  have L11 : Hid (x10.heap.size ≤ x11.heap.size) := b11.size
  have B11 : Hid (Below w.heap.size w x11) := B10.out.trans (b11.mono B10.out.size)
  have KA0_11 : Hid (Blk x11 ga0 32 [.int .i64 ah0, .int .i64 ap0]) := KA0_10.out.later b11
  have Ow0r_11 : Hid (SOwn x11 x4.heap.size x5.heap.size Sw0 R0) := Ow0r_10.out.later b11
  have Ox2_11 : Hid (SOwn x11 qx2 x6.heap.size ⟨some ⟨qx2, 0, none⟩, s2.n, s2.n⟩ l2) := Ox2_10.out.later b11
  have Ox3_11 : Hid (SOwn x11 qx3 x7.heap.size ⟨some ⟨qx3, 0, none⟩, s3.n, s3.n⟩ l3) := Ox3_10.out.later b11
  have Og0r_11 : Hid (CkL.LOwn x11 x8.heap.size x9.heap.size Sg0 R0) := Og0r_10.out.later b11
  clear b11 B10 KA0_10 Ow0r_10 Ox2_10 Ox3_10 Og0r_10
  have Gqy2 : Hid (x10.heap.size = qy2) := hq
  have Oy2_11 : Hid (SOwn x11 qy2 x11.heap.size ⟨some ⟨qy2, 0, none⟩, s2.n, s2.n⟩ l2) := o
  clear o hq
  go_wp2_with fail
  refine (eqB ⟨some ⟨qx2, 0, none⟩, s2.n, s2.n⟩ ⟨some ⟨qy2, 0, none⟩, s2.n, s2.n⟩ l2 l2 x11 Ox2_11.out.rd Oy2_11.out.rd (by have := HL2.out; omega) (by have := HL2.out; omega)).mono ?_
  rw [decide_eq_true (show l2 = l2 from rfl)]
  rintro e x12 ⟨rfl, b12⟩
  have L12 : Hid (x11.heap.size ≤ x12.heap.size) := b12.size
  have B12 : Hid (Below w.heap.size w x12) := B11.out.trans (b12.mono B11.out.size)
  have KA0_12 : Hid (Blk x12 ga0 32 [.int .i64 ah0, .int .i64 ap0]) := KA0_11.out.later b12
  have Ow0r_12 : Hid (SOwn x12 x4.heap.size x5.heap.size Sw0 R0) := Ow0r_11.out.later b12
  have Ox2_12 : Hid (SOwn x12 qx2 x6.heap.size ⟨some ⟨qx2, 0, none⟩, s2.n, s2.n⟩ l2) := Ox2_11.out.later b12
  have Ox3_12 : Hid (SOwn x12 qx3 x7.heap.size ⟨some ⟨qx3, 0, none⟩, s3.n, s3.n⟩ l3) := Ox3_11.out.later b12
  have Og0r_12 : Hid (CkL.LOwn x12 x8.heap.size x9.heap.size Sg0 R0) := Og0r_11.out.later b12
  have Oy2_12 : Hid (SOwn x12 qy2 x11.heap.size ⟨some ⟨qy2, 0, none⟩, s2.n, s2.n⟩ l2) := Oy2_11.out.later b12
  clear b12 B11 KA0_11 Ow0r_11 Ox2_11 Ox3_11 Og0r_11 Oy2_11
  clear Oy2_12
  go_wp2_with fail
  refine (toB s3 l3 x12 (HR3.out.later B12.out) (by have := HL3.out; omega)).mono ?_
  rintro e x13 ⟨rfl, o, b13⟩
  obtain ⟨qy3, hq⟩ : ∃ q, x12.heap.size = q := ⟨_, rfl⟩
  rw [hq] at o ⊢
  have L13 : Hid (x12.heap.size ≤ x13.heap.size) := b13.size
  have B13 : Hid (Below w.heap.size w x13) := B12.out.trans (b13.mono B12.out.size)
  have KA0_13 : Hid (Blk x13 ga0 32 [.int .i64 ah0, .int .i64 ap0]) := KA0_12.out.later b13
  have Ow0r_13 : Hid (SOwn x13 x4.heap.size x5.heap.size Sw0 R0) := Ow0r_12.out.later b13
  have Ox2_13 : Hid (SOwn x13 qx2 x6.heap.size ⟨some ⟨qx2, 0, none⟩, s2.n, s2.n⟩ l2) := Ox2_12.out.later b13
  have Ox3_13 : Hid (SOwn x13 qx3 x7.heap.size ⟨some ⟨qx3, 0, none⟩, s3.n, s3.n⟩ l3) := Ox3_12.out.later b13
  have Og0r_13 : Hid (CkL.LOwn x13 x8.heap.size x9.heap.size Sg0 R0) := Og0r_12.out.later b13
  clear b13 B12 KA0_12 Ow0r_12 Ox2_12 Ox3_12 Og0r_12
  have Gqy3 : Hid (x12.heap.size = qy3) := hq
  have Oy3_13 : Hid (SOwn x13 qy3 x13.heap.size ⟨some ⟨qy3, 0, none⟩, s3.n, s3.n⟩ l3) := o
  clear o hq
  go_wp2_with fail
  refine (eqB ⟨some ⟨qx3, 0, none⟩, s3.n, s3.n⟩ ⟨some ⟨qy3, 0, none⟩, s3.n, s3.n⟩ l3 l3 x13 Ox3_13.out.rd Oy3_13.out.rd (by have := HL3.out; omega) (by have := HL3.out; omega)).mono ?_
  rw [decide_eq_true (show l3 = l3 from rfl)]
  rintro e x14 ⟨rfl, b14⟩
  have L14 : Hid (x13.heap.size ≤ x14.heap.size) := b14.size
  have B14 : Hid (Below w.heap.size w x14) := B13.out.trans (b14.mono B13.out.size)
  have KA0_14 : Hid (Blk x14 ga0 32 [.int .i64 ah0, .int .i64 ap0]) := KA0_13.out.later b14
  have Ow0r_14 : Hid (SOwn x14 x4.heap.size x5.heap.size Sw0 R0) := Ow0r_13.out.later b14
  have Ox2_14 : Hid (SOwn x14 qx2 x6.heap.size ⟨some ⟨qx2, 0, none⟩, s2.n, s2.n⟩ l2) := Ox2_13.out.later b14
  have Ox3_14 : Hid (SOwn x14 qx3 x7.heap.size ⟨some ⟨qx3, 0, none⟩, s3.n, s3.n⟩ l3) := Ox3_13.out.later b14
  have Og0r_14 : Hid (CkL.LOwn x14 x8.heap.size x9.heap.size Sg0 R0) := Og0r_13.out.later b14
  have Oy3_14 : Hid (SOwn x14 qy3 x13.heap.size ⟨some ⟨qy3, 0, none⟩, s3.n, s3.n⟩ l3) := Oy3_13.out.later b14
  clear b14 B13 KA0_13 Ow0r_13 Ox2_13 Ox3_13 Og0r_13 Oy3_13
  clear Oy3_14
  go_wp2_with fail
  refine (markB ⟨some ⟨qx2, 0, none⟩, s2.n, s2.n⟩ l2 (1 : Int) x14 qx2 x6.heap.size Ox2_14.out (by have := HL2.out; omega) (by omega) (by omega)).mono ?_
  rintro e x15 ⟨rfl, _, k15, _⟩
  have L15 : Hid (x14.heap.size ≤ x15.heap.size) := k15.size
  have B15 : Hid (Below w.heap.size w x15) := B14.out.trans (k15.below (by have := L1.out; have := Gga.out; have := L2.out; have := L3.out; have := Gqp2.out; have := L4.out; have := Gqp3.out; have := L5.out; have := L6.out; have := Gqx2.out; have := L7.out; have := Gqx3.out; have := L8.out; have := L9.out; have := L10.out; have := L11.out; have := Gqy2.out; have := L12.out; have := L13.out; have := Gqy3.out; have := L14.out; have := L15.out; omega) B14.out.size)
  have KA0_15 : Hid (Blk x15 ga0 32 [.int .i64 ah0, .int .i64 ap0]) := KA0_14.out.keep (k15.block _ KA0_14.out.lt (by have := L1.out; have := Gga.out; have := L2.out; have := L3.out; have := Gqp2.out; have := L4.out; have := Gqp3.out; have := L5.out; have := L6.out; have := Gqx2.out; have := L7.out; have := Gqx3.out; have := L8.out; have := L9.out; have := L10.out; have := L11.out; have := Gqy2.out; have := L12.out; have := L13.out; have := Gqy3.out; have := L14.out; have := L15.out; omega))
  have Ow0r_15 : Hid (SOwn x15 x4.heap.size x5.heap.size Sw0 R0) := Ow0r_14.out.carry k15 (by have := L1.out; have := Gga.out; have := L2.out; have := L3.out; have := Gqp2.out; have := L4.out; have := Gqp3.out; have := L5.out; have := L6.out; have := Gqx2.out; have := L7.out; have := Gqx3.out; have := L8.out; have := L9.out; have := L10.out; have := L11.out; have := Gqy2.out; have := L12.out; have := L13.out; have := Gqy3.out; have := L14.out; have := L15.out; omega)
  have Ox3_15 : Hid (SOwn x15 qx3 x7.heap.size ⟨some ⟨qx3, 0, none⟩, s3.n, s3.n⟩ l3) := Ox3_14.out.carry k15 (by have := L1.out; have := Gga.out; have := L2.out; have := L3.out; have := Gqp2.out; have := L4.out; have := Gqp3.out; have := L5.out; have := L6.out; have := Gqx2.out; have := L7.out; have := Gqx3.out; have := L8.out; have := L9.out; have := L10.out; have := L11.out; have := Gqy2.out; have := L12.out; have := L13.out; have := Gqy3.out; have := L14.out; have := L15.out; omega)
  have Og0r_15 : Hid (CkL.LOwn x15 x8.heap.size x9.heap.size Sg0 R0) := Og0r_14.out.carry k15 (by have := L1.out; have := Gga.out; have := L2.out; have := L3.out; have := Gqp2.out; have := L4.out; have := Gqp3.out; have := L5.out; have := L6.out; have := Gqx2.out; have := L7.out; have := Gqx3.out; have := L8.out; have := L9.out; have := L10.out; have := L11.out; have := Gqy2.out; have := L12.out; have := L13.out; have := Gqy3.out; have := L14.out; have := L15.out; omega)
  clear k15 B14 KA0_14 Ow0r_14 Ox2_14 Ox3_14 Og0r_14
  go_wp2_with fail
  refine (markB ⟨some ⟨qx3, 0, none⟩, s3.n, s3.n⟩ l3 ((1 : Int) + (s2.n : Int)) x15 qx3 x7.heap.size Ox3_15.out (by have := HL3.out; omega) (by omega) (by omega)).mono ?_
  rintro e x16 ⟨rfl, _, k16, _⟩
  have L16 : Hid (x15.heap.size ≤ x16.heap.size) := k16.size
  have B16 : Hid (Below w.heap.size w x16) := B15.out.trans (k16.below (by have := L1.out; have := Gga.out; have := L2.out; have := L3.out; have := Gqp2.out; have := L4.out; have := Gqp3.out; have := L5.out; have := L6.out; have := Gqx2.out; have := L7.out; have := Gqx3.out; have := L8.out; have := L9.out; have := L10.out; have := L11.out; have := Gqy2.out; have := L12.out; have := L13.out; have := Gqy3.out; have := L14.out; have := L15.out; have := L16.out; omega) B15.out.size)
  have KA0_16 : Hid (Blk x16 ga0 32 [.int .i64 ah0, .int .i64 ap0]) := KA0_15.out.keep (k16.block _ KA0_15.out.lt (by have := L1.out; have := Gga.out; have := L2.out; have := L3.out; have := Gqp2.out; have := L4.out; have := Gqp3.out; have := L5.out; have := L6.out; have := Gqx2.out; have := L7.out; have := Gqx3.out; have := L8.out; have := L9.out; have := L10.out; have := L11.out; have := Gqy2.out; have := L12.out; have := L13.out; have := Gqy3.out; have := L14.out; have := L15.out; have := L16.out; omega))
  have Ow0r_16 : Hid (SOwn x16 x4.heap.size x5.heap.size Sw0 R0) := Ow0r_15.out.carry k16 (by have := L1.out; have := Gga.out; have := L2.out; have := L3.out; have := Gqp2.out; have := L4.out; have := Gqp3.out; have := L5.out; have := L6.out; have := Gqx2.out; have := L7.out; have := Gqx3.out; have := L8.out; have := L9.out; have := L10.out; have := L11.out; have := Gqy2.out; have := L12.out; have := L13.out; have := Gqy3.out; have := L14.out; have := L15.out; have := L16.out; omega)
  have Og0r_16 : Hid (CkL.LOwn x16 x8.heap.size x9.heap.size Sg0 R0) := Og0r_15.out.carry k16 (by have := L1.out; have := Gga.out; have := L2.out; have := L3.out; have := Gqp2.out; have := L4.out; have := Gqp3.out; have := L5.out; have := L6.out; have := Gqx2.out; have := L7.out; have := Gqx3.out; have := L8.out; have := L9.out; have := L10.out; have := L11.out; have := Gqy2.out; have := L12.out; have := L13.out; have := Gqy3.out; have := L14.out; have := L15.out; have := L16.out; omega)
  clear k16 B15 KA0_15 Ow0r_15 Ox3_15 Og0r_15
  have hk0 : ¬ ((((1 : Int) + (s2.n : Int)) + (s3.n : Int)) < 0) := by omega
  go_wp2_with fail
  refine (eqB Sg0 Sw0 R0 R0 x16 Og0r_16.out.rd Ow0r_16.out.rd (by have := HRS0.out; omega) (by have := HRS0.out; omega)).mono ?_
  rw [decide_eq_true (show R0 = R0 from rfl)]
  rintro e x17 ⟨rfl, b17⟩
  have L17 : Hid (x16.heap.size ≤ x17.heap.size) := b17.size
  have B17 : Hid (Below w.heap.size w x17) := B16.out.trans (b17.mono B16.out.size)
  have KA0_17 : Hid (Blk x17 ga0 32 [.int .i64 ah0, .int .i64 ap0]) := KA0_16.out.later b17
  have Ow0r_17 : Hid (SOwn x17 x4.heap.size x5.heap.size Sw0 R0) := Ow0r_16.out.later b17
  have Og0r_17 : Hid (CkL.LOwn x17 x8.heap.size x9.heap.size Sg0 R0) := Og0r_16.out.later b17
  clear b17 B16 KA0_16 Ow0r_16 Og0r_16
  have hms0 : (Sg0.n : Int) ≤ 1048576 := by have := Og0r_17.out.len; have := HRS0.out; omega
  go_wp2_with fail
  refine (CkL.markL Sg0 R0 (1 : Int) x17 x8.heap.size x9.heap.size Og0r_17.out (by have := HRS0.out; omega) (by omega) (by omega)).mono ?_
  rintro e x18 ⟨rfl, og, k18, _⟩
  have L18 : Hid (x17.heap.size ≤ x18.heap.size) := k18.size
  have B18 : Hid (Below w.heap.size w x18) := B17.out.trans (k18.below (by have := L1.out; have := Gga.out; have := L2.out; have := L3.out; have := Gqp2.out; have := L4.out; have := Gqp3.out; have := L5.out; have := L6.out; have := Gqx2.out; have := L7.out; have := Gqx3.out; have := L8.out; have := L9.out; have := L10.out; have := L11.out; have := Gqy2.out; have := L12.out; have := L13.out; have := Gqy3.out; have := L14.out; have := L15.out; have := L16.out; have := L17.out; have := L18.out; omega) B17.out.size)
  have KA0_18 : Hid (Blk x18 ga0 32 [.int .i64 ah0, .int .i64 ap0]) := KA0_17.out.keep (k18.block _ KA0_17.out.lt (by have := L1.out; have := Gga.out; have := L2.out; have := L3.out; have := Gqp2.out; have := L4.out; have := Gqp3.out; have := L5.out; have := L6.out; have := Gqx2.out; have := L7.out; have := Gqx3.out; have := L8.out; have := L9.out; have := L10.out; have := L11.out; have := Gqy2.out; have := L12.out; have := L13.out; have := Gqy3.out; have := L14.out; have := L15.out; have := L16.out; have := L17.out; have := L18.out; omega))
  have Ow0r_18 : Hid (SOwn x18 x4.heap.size x5.heap.size Sw0 R0) := Ow0r_17.out.carry k18 (by have := L1.out; have := Gga.out; have := L2.out; have := L3.out; have := Gqp2.out; have := L4.out; have := Gqp3.out; have := L5.out; have := L6.out; have := Gqx2.out; have := L7.out; have := Gqx3.out; have := L8.out; have := L9.out; have := L10.out; have := L11.out; have := Gqy2.out; have := L12.out; have := L13.out; have := Gqy3.out; have := L14.out; have := L15.out; have := L16.out; have := L17.out; have := L18.out; omega)
  clear k18 B17 KA0_17 Ow0r_17 Og0r_17
  have Og0r_18 : Hid (CkL.LOwn x18 x8.heap.size x9.heap.size Sg0 (marks (1 : Int) Sg0.n)) := og
  clear og
  have hmm : (((1 : Int) + (Sg0.n : Int)) != ((1 : Int) + (Sg0.n : Int))) = false := by simp
  go_wp2_with fail
  refine (heldB Sg0 (1 : Int) x18 Og0r_18.out.rd (by omega) (by omega) (by omega)).mono ?_
  rintro e xz ⟨rfl, rfl⟩
  have hq18_0 : ¬ ((1 : Int) + (Sg0.n : Int) < 0) := by omega
  have cv0_0 := KA0_18.out.cell 0 rfl
  have cv0_1 := KA0_18.out.cell 1 rfl
  go_wp2_with fail
  refine (AddrL.toAddr ah0 ap0 x18).mono ?_
  rintro e x19 ⟨rfl, b⟩
  clear cv0_0 cv0_1
  have L19 : Hid (x18.heap.size ≤ x19.heap.size) := b.size
  have B19 : Hid (Below w.heap.size w x19) := B18.out.trans (b.mono B18.out.size)
  have KA0_19 : Hid (Blk x19 ga0 32 [.int .i64 ah0, .int .i64 ap0]) := KA0_18.out.later b
  have Ow0r_19 : Hid (SOwn x19 x4.heap.size x5.heap.size Sw0 R0) := Ow0r_18.out.later b
  have Og0r_19 : Hid (CkL.LOwn x19 x8.heap.size x9.heap.size Sg0 (marks (1 : Int) Sg0.n)) := Og0r_18.out.later b
  clear b B18 KA0_18 Ow0r_18 Og0r_18
  go_wp2_with fail
  refine (toB s2 l2 x19 (HR2.out.later B19.out) (by have := HL2.out; omega)).mono ?_
  rintro e x20 ⟨rfl, o, b20⟩
  obtain ⟨qy2, hq⟩ : ∃ q, x19.heap.size = q := ⟨_, rfl⟩
  rw [hq] at o ⊢
  have L20 : Hid (x19.heap.size ≤ x20.heap.size) := b20.size
  have B20 : Hid (Below w.heap.size w x20) := B19.out.trans (b20.mono B19.out.size)
  have KA0_20 : Hid (Blk x20 ga0 32 [.int .i64 ah0, .int .i64 ap0]) := KA0_19.out.later b20
  have Ow0r_20 : Hid (SOwn x20 x4.heap.size x5.heap.size Sw0 R0) := Ow0r_19.out.later b20
  have Og0r_20 : Hid (CkL.LOwn x20 x8.heap.size x9.heap.size Sg0 (marks (1 : Int) Sg0.n)) := Og0r_19.out.later b20
  clear b20 B19 KA0_19 Ow0r_19 Og0r_19
  have Gqy2 : Hid (x19.heap.size = qy2) := hq
  have Oy2_20 : Hid (SOwn x20 qy2 x20.heap.size ⟨some ⟨qy2, 0, none⟩, s2.n, s2.n⟩ l2) := o
  clear o hq
  go_wp2_with fail
  refine (toB s3 l3 x20 (HR3.out.later B20.out) (by have := HL3.out; omega)).mono ?_
  rintro e x21 ⟨rfl, o, b21⟩
  obtain ⟨qy3, hq⟩ : ∃ q, x20.heap.size = q := ⟨_, rfl⟩
  rw [hq] at o ⊢
  have L21 : Hid (x20.heap.size ≤ x21.heap.size) := b21.size
  have B21 : Hid (Below w.heap.size w x21) := B20.out.trans (b21.mono B20.out.size)
  have KA0_21 : Hid (Blk x21 ga0 32 [.int .i64 ah0, .int .i64 ap0]) := KA0_20.out.later b21
  have Ow0r_21 : Hid (SOwn x21 x4.heap.size x5.heap.size Sw0 R0) := Ow0r_20.out.later b21
  have Og0r_21 : Hid (CkL.LOwn x21 x8.heap.size x9.heap.size Sg0 (marks (1 : Int) Sg0.n)) := Og0r_20.out.later b21
  have Oy2_21 : Hid (SOwn x21 qy2 x20.heap.size ⟨some ⟨qy2, 0, none⟩, s2.n, s2.n⟩ l2) := Oy2_20.out.later b21
  clear b21 B20 KA0_20 Ow0r_20 Og0r_20 Oy2_20
  have Gqy3 : Hid (x20.heap.size = qy3) := hq
  have Oy3_21 : Hid (SOwn x21 qy3 x21.heap.size ⟨some ⟨qy3, 0, none⟩, s3.n, s3.n⟩ l3) := o
  clear o hq
  have cv0_0 := KA0_21.out.cell 0 rfl
  have cv0_1 := KA0_21.out.cell 1 rfl
  go_wp2_with fail
  refine (CkI.implMintBody ah0 ap0 a1 ⟨some ⟨qy2, 0, none⟩, s2.n, s2.n⟩ ⟨some ⟨qy3, 0, none⟩, s3.n, s3.n⟩ l2 l3 a4 x21 Oy2_21.out.rd Oy3_21.out.rd).mono ?_
  rw [HRD0.out]
  rintro e x22 ⟨Sh0, rfl, o0, b⟩
  clear cv0_0 cv0_1
  have L22 : Hid (x21.heap.size ≤ x22.heap.size) := b.size
  have B22 : Hid (Below w.heap.size w x22) := B21.out.trans (b.mono B21.out.size)
  have KA0_22 : Hid (Blk x22 ga0 32 [.int .i64 ah0, .int .i64 ap0]) := KA0_21.out.later b
  have Ow0r_22 : Hid (SOwn x22 x4.heap.size x5.heap.size Sw0 R0) := Ow0r_21.out.later b
  have Og0r_22 : Hid (CkL.LOwn x22 x8.heap.size x9.heap.size Sg0 (marks (1 : Int) Sg0.n)) := Og0r_21.out.later b
  have Oy2_22 : Hid (SOwn x22 qy2 x20.heap.size ⟨some ⟨qy2, 0, none⟩, s2.n, s2.n⟩ l2) := Oy2_21.out.later b
  have Oy3_22 : Hid (SOwn x22 qy3 x21.heap.size ⟨some ⟨qy3, 0, none⟩, s3.n, s3.n⟩ l3) := Oy3_21.out.later b
  clear b B21 KA0_21 Ow0r_21 Og0r_21 Oy2_21 Oy3_21
  have Oh0r_22 : Hid (CkL.LOwn x22 x21.heap.size x22.heap.size Sh0 R0) := o0
  clear o0
  go_upto_region 29 with fail
  clear Oy2_22
  clear Oy3_22
  go_wp2_with fail
  refine (eqB Sh0 Sw0 R0 R0 x22 Oh0r_22.out.rd Ow0r_22.out.rd (by have := HRS0.out; omega) (by have := HRS0.out; omega)).mono ?_
  rw [decide_eq_true (show R0 = R0 from rfl)]
  rintro e x23 ⟨rfl, b23⟩
  have L23 : Hid (x22.heap.size ≤ x23.heap.size) := b23.size
  have B23 : Hid (Below w.heap.size w x23) := B22.out.trans (b23.mono B22.out.size)
  have KA0_23 : Hid (Blk x23 ga0 32 [.int .i64 ah0, .int .i64 ap0]) := KA0_22.out.later b23
  have Ow0r_23 : Hid (SOwn x23 x4.heap.size x5.heap.size Sw0 R0) := Ow0r_22.out.later b23
  have Og0r_23 : Hid (CkL.LOwn x23 x8.heap.size x9.heap.size Sg0 (marks (1 : Int) Sg0.n)) := Og0r_22.out.later b23
  have Oh0r_23 : Hid (CkL.LOwn x23 x21.heap.size x22.heap.size Sh0 R0) := Oh0r_22.out.later b23
  clear b23 B22 KA0_22 Ow0r_22 Og0r_22 Oh0r_22
  go_wp2_with fail
  refine (heldB Sg0 (1 : Int) x23 Og0r_23.out.rd (by omega) (by omega) (by omega)).mono ?_
  rintro e xz ⟨rfl, rfl⟩
  have hq23_0 : ¬ ((1 : Int) + (Sg0.n : Int) < 0) := by omega
  go_wp2
  go_ret
  exact ⟨rfl, B23.out⟩
set_option maxRecDepth 100000 in
theorem walk1 (ah0 ap0 : Int) (a1 : Int) (a2 : Option Addr) (n2 c2 : Nat) (z2 : List Int) (a3 : Option Addr) (n3 c3 : Nat) (z3 : List Int) (a4 : Int) (w : World)  (h2 : IsRow .u8 w a2 n2 c2 z2) (h3 : IsRow .u8 w a3 n3 c3 z3) :
    Calls Try.prog 4 #[AddrS.addrV ah0 ap0, .int .i64 a1, .slice a2 n2 c2, .slice a3 n3 c3, .int .i64 a4] w fun e w' => e = .returned (.bool true) ∧ Below w.heap.size w w' := by
  obtain ⟨l2, r2⟩ := row_sl h2
  obtain ⟨l3, r3⟩ := row_sl h3
  exact walk ah0 ap0 a1 ⟨a2, n2, c2⟩ l2 ⟨a3, n3, c3⟩ l3 a4 w  r2 r3
end Go.Proofs.Ytpgapjdejelajaa.LawMintBody

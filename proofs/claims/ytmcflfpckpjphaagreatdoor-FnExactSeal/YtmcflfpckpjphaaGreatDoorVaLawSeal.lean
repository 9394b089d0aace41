/-
  The walk of the law FnExactSeal: at every argument it answers true, and nothing that was there is written.
-/
import Derived.Test.YtmcflfpckpjphaaGreatDoorVaSealI
import Derived.Test.YtmcflfpckpjphaaGreatDoorVaSealS
import Derived.Test.YtmcflfpckpjphaaGreatDoorVaBas7
import Derived.Test.YtmcflfpckpjphaaGreatDoorVaBas1
set_option maxRecDepth 100000
namespace Go.Proofs.YtmcflfpckpjphaaGreatDoor.LawSeal
open Go.RowKit Mem Blk Zone ZoneB ZoneI MemI Each Copy Ops Shp App FrZ FrL FrP FrG FrQ SlP SlQ Comp

set_option maxHeartbeats 8000000 in
theorem walk (s0 : Sl) (l0 : List Int) (a1 : Int) (s2 : Sl) (l2 : List Int) (a3 : Int) (a4 : Int) (a5 : Int) (s6 : Sl) (l6 : List Int) (w : World) (hT : Tab w) (h0 : SRd w s0 l0) (h2 : SRd w s2 l2) (h6 : SRd w s6 l6) :
  Calls Tryz.prog 7 #[.slice s0.a s0.n s0.c, .int .i64 a1, .slice s2.a s2.n s2.c, .int .i64 a3, .int .i64 a4, .int .i64 a5, .slice s6.a s6.n s6.c] w fun e w' => e = .returned (.bool true) ∧ Below w.heap.size w w' := by
 obtain ⟨R0, hR0⟩ : ∃ R : FrD, sealF l0 a1 l2 a3 a4 a5 l6 = R := ⟨_, rfl⟩
 have HRD0 : Hid (sealF l0 a1 l2 a3 a4 a5 l6 = R0) := hR0
 clear hR0
 obtain ⟨R1, hR1⟩ : ∃ R : Bool, sealB l0 a1 l2 a3 a4 a5 l6 = R := ⟨_, rfl⟩
 have HRD1 : Hid (sealB l0 a1 l2 a3 a4 a5 l6 = R1) := hR1
 clear hR1
 have hvv1 : (R1 != R1) = false := by simp
 have HT := hid (hT)
 clear hT
 have HR0 := hid (h0)
 have HN0 : Hid (s0.n = l0.length) := h0.len
 have HR2 := hid (h2)
 have HN2 : Hid (s2.n = l2.length) := h2.len
 have HR6 := hid (h6)
 have HN6 : Hid (s6.n = l6.length) := h6.len
 clear h0 h2 h6
 go_enter Tryz.func7, Tryz.ntmps7
 by_cases hbig0 : (s0.n : Int) > 1048576
 ·
  go_wp2
  go_ret
  exact ⟨rfl, Below.refl _ _⟩
 have HL0 : Hid (l0.length ≤ 1048576) := by have := HN0.out; show _ ≤ _; omega
 by_cases hbig2 : (s2.n : Int) > 1048576
 ·
  go_wp2
  go_ret
  exact ⟨rfl, Below.refl _ _⟩
 have HL2 : Hid (l2.length ≤ 1048576) := by have := HN2.out; show _ ≤ _; omega
 by_cases hbig6 : (s6.n : Int) > 1048576
 ·
  go_wp2
  go_ret
  exact ⟨rfl, Below.refl _ _⟩
 have HL6 : Hid (l6.length ≤ 1048576) := by have := HN6.out; show _ ≤ _; omega
 have HRS0 : Hid (FrShort R0 100) := by rw [← HRD0.out]; exact sealF_short _ _ _ _ _ _ _
 have HRL0 : Hid (FrShort R0 4194304) := fr_short_le HRS0.out (by omega)
 go_wp2_with fail
 refine (toB s0 l0 w HR0.out (by have := HL0.out; omega)).mono ?_
 rintro e x1 ⟨rfl, o, b1⟩
 obtain ⟨qp0, hq⟩ : ∃ q, w.heap.size = q := ⟨_, rfl⟩
 rw [hq] at o ⊢
 have L1 := hid (b1.size)
 have B1 := hid (b1)
 clear b1
 have Gqp0 : Hid (w.heap.size = qp0) := hq
 have Op0_1 := hid (o)
 clear o hq
 go_wp2_with fail
 refine (toB s2 l2 x1 (HR2.out.later B1.out) (by have := HL2.out; omega)).mono ?_
 rintro e x2 ⟨rfl, o, b2⟩
 obtain ⟨qp2, hq⟩ : ∃ q, x1.heap.size = q := ⟨_, rfl⟩
 rw [hq] at o ⊢
 have L2 := hid (b2.size)
 have B2 := hid (B1.out.trans (b2.mono B1.out.size))
 have Op0_2 := hid (Op0_1.out.later b2)
 clear b2 B1 Op0_1
 have Gqp2 : Hid (x1.heap.size = qp2) := hq
 have Op2_2 := hid (o)
 clear o hq
 go_wp2_with fail
 refine (toB s6 l6 x2 (HR6.out.later B2.out) (by have := HL6.out; omega)).mono ?_
 rintro e x3 ⟨rfl, o, b3⟩
 obtain ⟨qp6, hq⟩ : ∃ q, x2.heap.size = q := ⟨_, rfl⟩
 rw [hq] at o ⊢
 have L3 := hid (b3.size)
 have B3 := hid (B2.out.trans (b3.mono B2.out.size))
 have Op0_3 := hid (Op0_2.out.later b3)
 have Op2_3 := hid (Op2_2.out.later b3)
 clear b3 B2 Op0_2 Op2_2
 have Gqp6 : Hid (x2.heap.size = qp6) := hq
 have Op6_3 := hid (o)
 clear o hq
 go_wp2_with fail
 refine (SealS.specSeal ⟨some ⟨qp0, 0, none⟩, s0.n, s0.n⟩ ⟨some ⟨qp2, 0, none⟩, s2.n, s2.n⟩ ⟨some ⟨qp6, 0, none⟩, s6.n, s6.n⟩ l0 l2 l6 a1 a3 a4 a5 x3 Op0_3.out.rd Op2_3.out.rd Op6_3.out.rd).mono ?_
 rw [HRD0.out, HRD1.out]
 rintro e x4 ⟨Sw0, rfl, o0, b⟩
 have L4 := hid (b.size)
 have B4 := hid (B3.out.trans (b.mono B3.out.size))
 have Op0_4 := hid (Op0_3.out.later b)
 have Op2_4 := hid (Op2_3.out.later b)
 have Op6_4 := hid (Op6_3.out.later b)
 clear b B3 Op0_3 Op2_3 Op6_3
 have Ow0r_4 := hid (o0)
 clear o0
 obtain ⟨x5, hx5⟩ : ∃ x5, x4.alloc (.cells #[.int .i64 R0.kind, .int .i64 R0.id, .slice Sw0.cn.a Sw0.cn.n Sw0.cn.c, .slice Sw0.sn.a Sw0.sn.n Sw0.sn.c, .int .i64 R0.tick, .slice Sw0.cookie.a Sw0.cookie.n Sw0.cookie.c, .slice Sw0.proof.a Sw0.proof.n Sw0.proof.c, .int .i64 R0.epoch, .int .i64 R0.seq, .slice Sw0.body.a Sw0.body.n Sw0.body.c, .slice Sw0.tag.a Sw0.tag.n Sw0.tag.c] 27) = x5 := ⟨_, rfl⟩
 have HW5 := hid (hx5)
 have b : Below x4.heap.size x4 x5 := by rw [← hx5]; exact (Below.refl _ _).alloc (Nat.le_refl _) _
 have KN0 : Blk x5 (x4.heap.size) 27 [.int .i64 R0.kind, .int .i64 R0.id, .slice Sw0.cn.a Sw0.cn.n Sw0.cn.c, .slice Sw0.sn.a Sw0.sn.n Sw0.sn.c, .int .i64 R0.tick, .slice Sw0.cookie.a Sw0.cookie.n Sw0.cookie.c, .slice Sw0.proof.a Sw0.proof.n Sw0.proof.c, .int .i64 R0.epoch, .int .i64 R0.seq, .slice Sw0.body.a Sw0.body.n Sw0.body.c, .slice Sw0.tag.a Sw0.tag.n Sw0.tag.c] := by
  have q := Blk.new (x4) 27 [.int .i64 R0.kind, .int .i64 R0.id, .slice Sw0.cn.a Sw0.cn.n Sw0.cn.c, .slice Sw0.sn.a Sw0.sn.n Sw0.sn.c, .int .i64 R0.tick, .slice Sw0.cookie.a Sw0.cookie.n Sw0.cookie.c, .slice Sw0.proof.a Sw0.proof.n Sw0.proof.c, .int .i64 R0.epoch, .int .i64 R0.seq, .slice Sw0.body.a Sw0.body.n Sw0.body.c, .slice Sw0.tag.a Sw0.tag.n Sw0.tag.c]
  rw [← hx5]; exact q
 have HSZ5 : Hid (x5.heap.size = x4.heap.size + 1) := by rw [← hx5]; show _ = _; simp
 clear hx5
 have L5 := hid (b.size)
 have B5 := hid (B4.out.trans (b.mono B4.out.size))
 have Op0_5 := hid (Op0_4.out.later b)
 have Op2_5 := hid (Op2_4.out.later b)
 have Op6_5 := hid (Op6_4.out.later b)
 have Ow0r_5 := hid (Ow0r_4.out.later b)
 clear b B4 Op0_4 Op2_4 Op6_4 Ow0r_4
 unfold frV
 go_upto_region 8 with fail
 rw [HW5.out]
 obtain ⟨gw0, hg0⟩ : ∃ g, x4.heap.size = g := ⟨_, rfl⟩
 have Gw_ : Hid (x4.heap.size + 0 = gw0 ∧ x5.heap.size = x4.heap.size + 1) := ⟨by omega, HSZ5.out⟩
 rw [hg0] at KN0
 rw [hg0]
 clear HW5 HSZ5 hg0
 have Kw0_5 := hid (KN0)
 clear KN0
 clear Op0_5
 clear Op2_5
 clear Op6_5
 go_wp2_with fail
 refine (toB s0 l0 x5 (HR0.out.later B5.out) (by have := HL0.out; omega)).mono ?_
 rintro e x6 ⟨rfl, o, b6⟩
 obtain ⟨qx0, hq⟩ : ∃ q, x5.heap.size = q := ⟨_, rfl⟩
 rw [hq] at o ⊢
 have L6 := hid (b6.size)
 have B6 := hid (B5.out.trans (b6.mono B5.out.size))
 have Ow0r_6 := hid (Ow0r_5.out.later b6)
 have Kw0_6 := hid (Kw0_5.out.later b6)
 clear b6 B5 Ow0r_5 Kw0_5
 have Gqx0 : Hid (x5.heap.size = qx0) := hq
 have Ox0_6 := hid (o)
 clear o hq
 go_wp2_with fail
 refine (toB s2 l2 x6 (HR2.out.later B6.out) (by have := HL2.out; omega)).mono ?_
 rintro e x7 ⟨rfl, o, b7⟩
 obtain ⟨qx2, hq⟩ : ∃ q, x6.heap.size = q := ⟨_, rfl⟩
 rw [hq] at o ⊢
 have L7 := hid (b7.size)
 have B7 := hid (B6.out.trans (b7.mono B6.out.size))
 have Ow0r_7 := hid (Ow0r_6.out.later b7)
 have Kw0_7 := hid (Kw0_6.out.later b7)
 have Ox0_7 := hid (Ox0_6.out.later b7)
 clear b7 B6 Ow0r_6 Kw0_6 Ox0_6
 have Gqx2 : Hid (x6.heap.size = qx2) := hq
 have Ox2_7 := hid (o)
 clear o hq
 go_wp2_with fail
 refine (toB s6 l6 x7 (HR6.out.later B7.out) (by have := HL6.out; omega)).mono ?_
 rintro e x8 ⟨rfl, o, b8⟩
 obtain ⟨qx6, hq⟩ : ∃ q, x7.heap.size = q := ⟨_, rfl⟩
 rw [hq] at o ⊢
 have L8 := hid (b8.size)
 have B8 := hid (B7.out.trans (b8.mono B7.out.size))
 have Ow0r_8 := hid (Ow0r_7.out.later b8)
 have Kw0_8 := hid (Kw0_7.out.later b8)
 have Ox0_8 := hid (Ox0_7.out.later b8)
 have Ox2_8 := hid (Ox2_7.out.later b8)
 clear b8 B7 Ow0r_7 Kw0_7 Ox0_7 Ox2_7
 have Gqx6 : Hid (x7.heap.size = qx6) := hq
 have Ox6_8 := hid (o)
 clear o hq
 go_wp2_with fail
 refine (SealI.implSeal ⟨some ⟨qx0, 0, none⟩, s0.n, s0.n⟩ ⟨some ⟨qx2, 0, none⟩, s2.n, s2.n⟩ ⟨some ⟨qx6, 0, none⟩, s6.n, s6.n⟩ l0 l2 l6 a1 a3 a4 a5 x8 (HT.out.later B8.out) Ox0_8.out.rd Ox2_8.out.rd Ox6_8.out.rd).mono ?_
 rw [HRD0.out, HRD1.out]
 rintro e x9 ⟨Sg0, rfl, o0, b⟩
 have L9 := hid (b.size)
 have B9 := hid (B8.out.trans (b.mono B8.out.size))
 have Ow0r_9 := hid (Ow0r_8.out.later b)
 have Kw0_9 := hid (Kw0_8.out.later b)
 have Ox0_9 := hid (Ox0_8.out.later b)
 have Ox2_9 := hid (Ox2_8.out.later b)
 have Ox6_9 := hid (Ox6_8.out.later b)
 clear b B8 Ow0r_8 Kw0_8 Ox0_8 Ox2_8 Ox6_8
 have Og0r_9 := hid (o0)
 clear o0
 obtain ⟨x10, hx10⟩ : ∃ x10, x9.alloc (.cells #[.int .i64 R0.kind, .int .i64 R0.id, .slice Sg0.cn.a Sg0.cn.n Sg0.cn.c, .slice Sg0.sn.a Sg0.sn.n Sg0.sn.c, .int .i64 R0.tick, .slice Sg0.cookie.a Sg0.cookie.n Sg0.cookie.c, .slice Sg0.proof.a Sg0.proof.n Sg0.proof.c, .int .i64 R0.epoch, .int .i64 R0.seq, .slice Sg0.body.a Sg0.body.n Sg0.body.c, .slice Sg0.tag.a Sg0.tag.n Sg0.tag.c] 27) = x10 := ⟨_, rfl⟩
 have HW10 := hid (hx10)
 have b : Below x9.heap.size x9 x10 := by rw [← hx10]; exact (Below.refl _ _).alloc (Nat.le_refl _) _
 have KN0 : Blk x10 (x9.heap.size) 27 [.int .i64 R0.kind, .int .i64 R0.id, .slice Sg0.cn.a Sg0.cn.n Sg0.cn.c, .slice Sg0.sn.a Sg0.sn.n Sg0.sn.c, .int .i64 R0.tick, .slice Sg0.cookie.a Sg0.cookie.n Sg0.cookie.c, .slice Sg0.proof.a Sg0.proof.n Sg0.proof.c, .int .i64 R0.epoch, .int .i64 R0.seq, .slice Sg0.body.a Sg0.body.n Sg0.body.c, .slice Sg0.tag.a Sg0.tag.n Sg0.tag.c] := by
  have q := Blk.new (x9) 27 [.int .i64 R0.kind, .int .i64 R0.id, .slice Sg0.cn.a Sg0.cn.n Sg0.cn.c, .slice Sg0.sn.a Sg0.sn.n Sg0.sn.c, .int .i64 R0.tick, .slice Sg0.cookie.a Sg0.cookie.n Sg0.cookie.c, .slice Sg0.proof.a Sg0.proof.n Sg0.proof.c, .int .i64 R0.epoch, .int .i64 R0.seq, .slice Sg0.body.a Sg0.body.n Sg0.body.c, .slice Sg0.tag.a Sg0.tag.n Sg0.tag.c]
  rw [← hx10]; exact q
 have HSZ10 : Hid (x10.heap.size = x9.heap.size + 1) := by rw [← hx10]; show _ = _; simp
 clear hx10
 have L10 := hid (b.size)
 have B10 := hid (B9.out.trans (b.mono B9.out.size))
 have Ow0r_10 := hid (Ow0r_9.out.later b)
 have Kw0_10 := hid (Kw0_9.out.later b)
 have Ox0_10 := hid (Ox0_9.out.later b)
 have Ox2_10 := hid (Ox2_9.out.later b)
 have Ox6_10 := hid (Ox6_9.out.later b)
 have Og0r_10 := hid (Og0r_9.out.later b)
 clear b B9 Ow0r_9 Kw0_9 Ox0_9 Ox2_9 Ox6_9 Og0r_9
 unfold frV
 go_upto_region 12 with fail
 rw [HW10.out]
 obtain ⟨gg0, hg0⟩ : ∃ g, x9.heap.size = g := ⟨_, rfl⟩
 have Gg_ : Hid (x9.heap.size + 0 = gg0 ∧ x10.heap.size = x9.heap.size + 1) := ⟨by omega, HSZ10.out⟩
 rw [hg0] at KN0
 rw [hg0]
 clear HW10 HSZ10 hg0
 have Kg0_10 := hid (KN0)
 clear KN0
 obtain ⟨ca0, ca1, ca2, ca3, ca4, ca5, ca6, ca7, ca8, ca9, ca10⟩ := cells11 Kg0_10.out
 obtain ⟨cb0, cb1, cb2, cb3, cb4, cb5, cb6, cb7, cb8, cb9, cb10⟩ := cells11 Kw0_10.out
 go_wp2_with fail
 refine (eqFrame Sg0 Sw0 R0 x10 Og0r_10.out.rd Ow0r_10.out.rd HRL0.out).mono ?_
 rintro e x11 ⟨rfl, b11⟩
 clear ca0 ca1 ca2 ca3 ca4 ca5 ca6 ca7 ca8 ca9 ca10
 clear cb0 cb1 cb2 cb3 cb4 cb5 cb6 cb7 cb8 cb9 cb10
 have L11 := hid (b11.size)
 have B11 := hid (B10.out.trans (b11.mono B10.out.size))
 have Ow0r_11 := hid (Ow0r_10.out.later b11)
 have Kw0_11 := hid (Kw0_10.out.later b11)
 have Ox0_11 := hid (Ox0_10.out.later b11)
 have Ox2_11 := hid (Ox2_10.out.later b11)
 have Ox6_11 := hid (Ox6_10.out.later b11)
 have Og0r_11 := hid (Og0r_10.out.later b11)
 have Kg0_11 := hid (Kg0_10.out.later b11)
 clear b11 B10 Ow0r_10 Kw0_10 Ox0_10 Ox2_10 Ox6_10 Og0r_10 Kg0_10
 go_wp2_with fail
 refine (toB s0 l0 x11 (HR0.out.later B11.out) (by have := HL0.out; omega)).mono ?_
 rintro e x12 ⟨rfl, o, b12⟩
 obtain ⟨qy0, hq⟩ : ∃ q, x11.heap.size = q := ⟨_, rfl⟩
 rw [hq] at o ⊢
 have L12 := hid (b12.size)
 have B12 := hid (B11.out.trans (b12.mono B11.out.size))
 have Ow0r_12 := hid (Ow0r_11.out.later b12)
 have Kw0_12 := hid (Kw0_11.out.later b12)
 have Ox0_12 := hid (Ox0_11.out.later b12)
 have Ox2_12 := hid (Ox2_11.out.later b12)
 have Ox6_12 := hid (Ox6_11.out.later b12)
 have Og0r_12 := hid (Og0r_11.out.later b12)
 have Kg0_12 := hid (Kg0_11.out.later b12)
 clear b12 B11 Ow0r_11 Kw0_11 Ox0_11 Ox2_11 Ox6_11 Og0r_11 Kg0_11
 have Gqy0 : Hid (x11.heap.size = qy0) := hq
 have Oy0_12 := hid (o)
 clear o hq
 go_wp2_with fail
 refine (eqB ⟨some ⟨qx0, 0, none⟩, s0.n, s0.n⟩ ⟨some ⟨qy0, 0, none⟩, s0.n, s0.n⟩ l0 l0 x12 Ox0_12.out.rd Oy0_12.out.rd (by have := HL0.out; omega) (by have := HL0.out; omega)).mono ?_
 rw [decide_eq_true (show l0 = l0 from rfl)]
 rintro e x13 ⟨rfl, b13⟩
 have L13 := hid (b13.size)
 have B13 := hid (B12.out.trans (b13.mono B12.out.size))
 have Ow0r_13 := hid (Ow0r_12.out.later b13)
 have Kw0_13 := hid (Kw0_12.out.later b13)
 have Ox0_13 := hid (Ox0_12.out.later b13)
 have Ox2_13 := hid (Ox2_12.out.later b13)
 have Ox6_13 := hid (Ox6_12.out.later b13)
 have Og0r_13 := hid (Og0r_12.out.later b13)
 have Kg0_13 := hid (Kg0_12.out.later b13)
 have Oy0_13 := hid (Oy0_12.out.later b13)
 clear b13 B12 Ow0r_12 Kw0_12 Ox0_12 Ox2_12 Ox6_12 Og0r_12 Kg0_12 Oy0_12
 clear Oy0_13
 go_wp2_with fail
 refine (toB s2 l2 x13 (HR2.out.later B13.out) (by have := HL2.out; omega)).mono ?_
 rintro e x14 ⟨rfl, o, b14⟩
 obtain ⟨qy2, hq⟩ : ∃ q, x13.heap.size = q := ⟨_, rfl⟩
 rw [hq] at o ⊢
 have L14 := hid (b14.size)
 have B14 := hid (B13.out.trans (b14.mono B13.out.size))
 have Ow0r_14 := hid (Ow0r_13.out.later b14)
 have Kw0_14 := hid (Kw0_13.out.later b14)
 have Ox0_14 := hid (Ox0_13.out.later b14)
 have Ox2_14 := hid (Ox2_13.out.later b14)
 have Ox6_14 := hid (Ox6_13.out.later b14)
 have Og0r_14 := hid (Og0r_13.out.later b14)
 have Kg0_14 := hid (Kg0_13.out.later b14)
 clear b14 B13 Ow0r_13 Kw0_13 Ox0_13 Ox2_13 Ox6_13 Og0r_13 Kg0_13
 have Gqy2 : Hid (x13.heap.size = qy2) := hq
 have Oy2_14 := hid (o)
 clear o hq
 go_wp2_with fail
 refine (eqB ⟨some ⟨qx2, 0, none⟩, s2.n, s2.n⟩ ⟨some ⟨qy2, 0, none⟩, s2.n, s2.n⟩ l2 l2 x14 Ox2_14.out.rd Oy2_14.out.rd (by have := HL2.out; omega) (by have := HL2.out; omega)).mono ?_
 rw [decide_eq_true (show l2 = l2 from rfl)]
 rintro e x15 ⟨rfl, b15⟩
 have L15 := hid (b15.size)
 have B15 := hid (B14.out.trans (b15.mono B14.out.size))
 have Ow0r_15 := hid (Ow0r_14.out.later b15)
 have Kw0_15 := hid (Kw0_14.out.later b15)
 have Ox0_15 := hid (Ox0_14.out.later b15)
 have Ox2_15 := hid (Ox2_14.out.later b15)
 have Ox6_15 := hid (Ox6_14.out.later b15)
 have Og0r_15 := hid (Og0r_14.out.later b15)
 have Kg0_15 := hid (Kg0_14.out.later b15)
 have Oy2_15 := hid (Oy2_14.out.later b15)
 clear b15 B14 Ow0r_14 Kw0_14 Ox0_14 Ox2_14 Ox6_14 Og0r_14 Kg0_14 Oy2_14
 clear Oy2_15
 go_wp2_with fail
 refine (toB s6 l6 x15 (HR6.out.later B15.out) (by have := HL6.out; omega)).mono ?_
 rintro e x16 ⟨rfl, o, b16⟩
 obtain ⟨qy6, hq⟩ : ∃ q, x15.heap.size = q := ⟨_, rfl⟩
 rw [hq] at o ⊢
 have L16 := hid (b16.size)
 have B16 := hid (B15.out.trans (b16.mono B15.out.size))
 have Ow0r_16 := hid (Ow0r_15.out.later b16)
 have Kw0_16 := hid (Kw0_15.out.later b16)
 have Ox0_16 := hid (Ox0_15.out.later b16)
 have Ox2_16 := hid (Ox2_15.out.later b16)
 have Ox6_16 := hid (Ox6_15.out.later b16)
 have Og0r_16 := hid (Og0r_15.out.later b16)
 have Kg0_16 := hid (Kg0_15.out.later b16)
 clear b16 B15 Ow0r_15 Kw0_15 Ox0_15 Ox2_15 Ox6_15 Og0r_15 Kg0_15
 have Gqy6 : Hid (x15.heap.size = qy6) := hq
 have Oy6_16 := hid (o)
 clear o hq
 go_wp2_with fail
 refine (eqB ⟨some ⟨qx6, 0, none⟩, s6.n, s6.n⟩ ⟨some ⟨qy6, 0, none⟩, s6.n, s6.n⟩ l6 l6 x16 Ox6_16.out.rd Oy6_16.out.rd (by have := HL6.out; omega) (by have := HL6.out; omega)).mono ?_
 rw [decide_eq_true (show l6 = l6 from rfl)]
 rintro e x17 ⟨rfl, b17⟩
 have L17 := hid (b17.size)
 have B17 := hid (B16.out.trans (b17.mono B16.out.size))
 have Ow0r_17 := hid (Ow0r_16.out.later b17)
 have Kw0_17 := hid (Kw0_16.out.later b17)
 have Ox0_17 := hid (Ox0_16.out.later b17)
 have Ox2_17 := hid (Ox2_16.out.later b17)
 have Ox6_17 := hid (Ox6_16.out.later b17)
 have Og0r_17 := hid (Og0r_16.out.later b17)
 have Kg0_17 := hid (Kg0_16.out.later b17)
 have Oy6_17 := hid (Oy6_16.out.later b17)
 clear b17 B16 Ow0r_16 Kw0_16 Ox0_16 Ox2_16 Ox6_16 Og0r_16 Kg0_16 Oy6_16
 clear Oy6_17
 go_wp2_with fail
 refine (markB ⟨some ⟨qx0, 0, none⟩, s0.n, s0.n⟩ l0 (1 : Int) x17 qx0 x6.heap.size Ox0_17.out (by have := HL0.out; omega) (by omega) (by omega)).mono ?_
 rintro e x18 ⟨rfl, _, k18, _⟩
 have L18 := hid (k18.size)
 have B18 := hid (B17.out.trans (k18.below (by have := hid8 L1 Gqp0 L2 Gqp2 L3 Gqp6 L4 L5; have := hid8 Gw_ L6 Gqx0 L7 Gqx2 L8 Gqx6 L9; have := hid8 L10 Gg_ L11 L12 Gqy0 L13 L14 Gqy2; have := hid5 L15 L16 Gqy6 L17 L18; omega) B17.out.size))
 have Ow0r_18 := hid (Ow0r_17.out.carry k18 (by have := hid8 L1 Gqp0 L2 Gqp2 L3 Gqp6 L4 L5; have := hid8 Gw_ L6 Gqx0 L7 Gqx2 L8 Gqx6 L9; have := hid8 L10 Gg_ L11 L12 Gqy0 L13 L14 Gqy2; have := hid5 L15 L16 Gqy6 L17 L18; omega))
 have Kw0_18 := hid (Kw0_17.out.keep (k18.block _ Kw0_17.out.lt (by have := hid8 L1 Gqp0 L2 Gqp2 L3 Gqp6 L4 L5; have := hid8 Gw_ L6 Gqx0 L7 Gqx2 L8 Gqx6 L9; have := hid8 L10 Gg_ L11 L12 Gqy0 L13 L14 Gqy2; have := hid5 L15 L16 Gqy6 L17 L18; omega)))
 have Ox2_18 := hid (Ox2_17.out.carry k18 (by have := hid8 L1 Gqp0 L2 Gqp2 L3 Gqp6 L4 L5; have := hid8 Gw_ L6 Gqx0 L7 Gqx2 L8 Gqx6 L9; have := hid8 L10 Gg_ L11 L12 Gqy0 L13 L14 Gqy2; have := hid5 L15 L16 Gqy6 L17 L18; omega))
 have Ox6_18 := hid (Ox6_17.out.carry k18 (by have := hid8 L1 Gqp0 L2 Gqp2 L3 Gqp6 L4 L5; have := hid8 Gw_ L6 Gqx0 L7 Gqx2 L8 Gqx6 L9; have := hid8 L10 Gg_ L11 L12 Gqy0 L13 L14 Gqy2; have := hid5 L15 L16 Gqy6 L17 L18; omega))
 have Og0r_18 := hid (Og0r_17.out.carry k18 (by have := hid8 L1 Gqp0 L2 Gqp2 L3 Gqp6 L4 L5; have := hid8 Gw_ L6 Gqx0 L7 Gqx2 L8 Gqx6 L9; have := hid8 L10 Gg_ L11 L12 Gqy0 L13 L14 Gqy2; have := hid5 L15 L16 Gqy6 L17 L18; omega))
 have Kg0_18 := hid (Kg0_17.out.keep (k18.block _ Kg0_17.out.lt (by have := hid8 L1 Gqp0 L2 Gqp2 L3 Gqp6 L4 L5; have := hid8 Gw_ L6 Gqx0 L7 Gqx2 L8 Gqx6 L9; have := hid8 L10 Gg_ L11 L12 Gqy0 L13 L14 Gqy2; have := hid5 L15 L16 Gqy6 L17 L18; omega)))
 clear k18 B17 Ow0r_17 Kw0_17 Ox0_17 Ox2_17 Ox6_17 Og0r_17 Kg0_17
 go_wp2_with fail
 refine (markB ⟨some ⟨qx2, 0, none⟩, s2.n, s2.n⟩ l2 ((1 : Int) + (s0.n : Int)) x18 qx2 x7.heap.size Ox2_18.out (by have := HL2.out; omega) (by omega) (by omega)).mono ?_
 rintro e x19 ⟨rfl, _, k19, _⟩
 have L19 := hid (k19.size)
 have B19 := hid (B18.out.trans (k19.below (by have := hid8 L1 Gqp0 L2 Gqp2 L3 Gqp6 L4 L5; have := hid8 Gw_ L6 Gqx0 L7 Gqx2 L8 Gqx6 L9; have := hid8 L10 Gg_ L11 L12 Gqy0 L13 L14 Gqy2; have := hid6 L15 L16 Gqy6 L17 L18 L19; omega) B18.out.size))
 have Ow0r_19 := hid (Ow0r_18.out.carry k19 (by have := hid8 L1 Gqp0 L2 Gqp2 L3 Gqp6 L4 L5; have := hid8 Gw_ L6 Gqx0 L7 Gqx2 L8 Gqx6 L9; have := hid8 L10 Gg_ L11 L12 Gqy0 L13 L14 Gqy2; have := hid6 L15 L16 Gqy6 L17 L18 L19; omega))
 have Kw0_19 := hid (Kw0_18.out.keep (k19.block _ Kw0_18.out.lt (by have := hid8 L1 Gqp0 L2 Gqp2 L3 Gqp6 L4 L5; have := hid8 Gw_ L6 Gqx0 L7 Gqx2 L8 Gqx6 L9; have := hid8 L10 Gg_ L11 L12 Gqy0 L13 L14 Gqy2; have := hid6 L15 L16 Gqy6 L17 L18 L19; omega)))
 have Ox6_19 := hid (Ox6_18.out.carry k19 (by have := hid8 L1 Gqp0 L2 Gqp2 L3 Gqp6 L4 L5; have := hid8 Gw_ L6 Gqx0 L7 Gqx2 L8 Gqx6 L9; have := hid8 L10 Gg_ L11 L12 Gqy0 L13 L14 Gqy2; have := hid6 L15 L16 Gqy6 L17 L18 L19; omega))
 have Og0r_19 := hid (Og0r_18.out.carry k19 (by have := hid8 L1 Gqp0 L2 Gqp2 L3 Gqp6 L4 L5; have := hid8 Gw_ L6 Gqx0 L7 Gqx2 L8 Gqx6 L9; have := hid8 L10 Gg_ L11 L12 Gqy0 L13 L14 Gqy2; have := hid6 L15 L16 Gqy6 L17 L18 L19; omega))
 have Kg0_19 := hid (Kg0_18.out.keep (k19.block _ Kg0_18.out.lt (by have := hid8 L1 Gqp0 L2 Gqp2 L3 Gqp6 L4 L5; have := hid8 Gw_ L6 Gqx0 L7 Gqx2 L8 Gqx6 L9; have := hid8 L10 Gg_ L11 L12 Gqy0 L13 L14 Gqy2; have := hid6 L15 L16 Gqy6 L17 L18 L19; omega)))
 clear k19 B18 Ow0r_18 Kw0_18 Ox2_18 Ox6_18 Og0r_18 Kg0_18
 go_wp2_with fail
 refine (markB ⟨some ⟨qx6, 0, none⟩, s6.n, s6.n⟩ l6 (((1 : Int) + (s0.n : Int)) + (s2.n : Int)) x19 qx6 x8.heap.size Ox6_19.out (by have := HL6.out; omega) (by omega) (by omega)).mono ?_
 rintro e x20 ⟨rfl, _, k20, _⟩
 have L20 := hid (k20.size)
 have B20 := hid (B19.out.trans (k20.below (by have := hid8 L1 Gqp0 L2 Gqp2 L3 Gqp6 L4 L5; have := hid8 Gw_ L6 Gqx0 L7 Gqx2 L8 Gqx6 L9; have := hid8 L10 Gg_ L11 L12 Gqy0 L13 L14 Gqy2; have := hid7 L15 L16 Gqy6 L17 L18 L19 L20; omega) B19.out.size))
 have Ow0r_20 := hid (Ow0r_19.out.carry k20 (by have := hid8 L1 Gqp0 L2 Gqp2 L3 Gqp6 L4 L5; have := hid8 Gw_ L6 Gqx0 L7 Gqx2 L8 Gqx6 L9; have := hid8 L10 Gg_ L11 L12 Gqy0 L13 L14 Gqy2; have := hid7 L15 L16 Gqy6 L17 L18 L19 L20; omega))
 have Kw0_20 := hid (Kw0_19.out.keep (k20.block _ Kw0_19.out.lt (by have := hid8 L1 Gqp0 L2 Gqp2 L3 Gqp6 L4 L5; have := hid8 Gw_ L6 Gqx0 L7 Gqx2 L8 Gqx6 L9; have := hid8 L10 Gg_ L11 L12 Gqy0 L13 L14 Gqy2; have := hid7 L15 L16 Gqy6 L17 L18 L19 L20; omega)))
 have Og0r_20 := hid (Og0r_19.out.carry k20 (by have := hid8 L1 Gqp0 L2 Gqp2 L3 Gqp6 L4 L5; have := hid8 Gw_ L6 Gqx0 L7 Gqx2 L8 Gqx6 L9; have := hid8 L10 Gg_ L11 L12 Gqy0 L13 L14 Gqy2; have := hid7 L15 L16 Gqy6 L17 L18 L19 L20; omega))
 have Kg0_20 := hid (Kg0_19.out.keep (k20.block _ Kg0_19.out.lt (by have := hid8 L1 Gqp0 L2 Gqp2 L3 Gqp6 L4 L5; have := hid8 Gw_ L6 Gqx0 L7 Gqx2 L8 Gqx6 L9; have := hid8 L10 Gg_ L11 L12 Gqy0 L13 L14 Gqy2; have := hid7 L15 L16 Gqy6 L17 L18 L19 L20; omega)))
 clear k20 B19 Ow0r_19 Kw0_19 Ox6_19 Og0r_19 Kg0_19
 have hk0 : ¬ (((((1 : Int) + (s0.n : Int)) + (s2.n : Int)) + (s6.n : Int)) < 0) := by omega
 obtain ⟨ca0, ca1, ca2, ca3, ca4, ca5, ca6, ca7, ca8, ca9, ca10⟩ := cells11 Kg0_20.out
 obtain ⟨cb0, cb1, cb2, cb3, cb4, cb5, cb6, cb7, cb8, cb9, cb10⟩ := cells11 Kw0_20.out
 go_wp2_with fail
 refine (eqFrame Sg0 Sw0 R0 x20 Og0r_20.out.rd Ow0r_20.out.rd HRL0.out).mono ?_
 rintro e x21 ⟨rfl, b21⟩
 clear ca0 ca1 ca2 ca3 ca4 ca5 ca6 ca7 ca8 ca9 ca10
 clear cb0 cb1 cb2 cb3 cb4 cb5 cb6 cb7 cb8 cb9 cb10
 have L21 := hid (b21.size)
 have B21 := hid (B20.out.trans (b21.mono B20.out.size))
 have Ow0r_21 := hid (Ow0r_20.out.later b21)
 have Kw0_21 := hid (Kw0_20.out.later b21)
 have Og0r_21 := hid (Og0r_20.out.later b21)
 have Kg0_21 := hid (Kg0_20.out.later b21)
 clear b21 B20 Ow0r_20 Kw0_20 Og0r_20 Kg0_20
 have hms0 : (frSum Sg0 : Int) ≤ 600 := by have := fr_sum_le Og0r_21.out.rd HRS0.out; omega
 obtain ⟨ca0, ca1, ca2, ca3, ca4, ca5, ca6, ca7, ca8, ca9, ca10⟩ := cells11 Kg0_21.out
 go_wp2_with fail
 refine (markFrame Sg0 R0 (1 : Int) x21 x8.heap.size x9.heap.size Og0r_21.out (by have := hid8 L1 Gqp0 L2 Gqp2 L3 Gqp6 L4 L5; have := hid8 Gw_ L6 Gqx0 L7 Gqx2 L8 Gqx6 L9; have := hid8 L10 Gg_ L11 L12 Gqy0 L13 L14 Gqy2; have := hid8 L15 L16 Gqy6 L17 L18 L19 L20 L21; omega) (by omega) (by omega)).mono ?_
 rintro e x22 ⟨rfl, og, k22⟩
 clear ca0 ca1 ca2 ca3 ca4 ca5 ca6 ca7 ca8 ca9 ca10
 have L22 := hid (k22.size)
 have B22 := hid (B21.out.trans (k22.below (by have := hid8 L1 Gqp0 L2 Gqp2 L3 Gqp6 L4 L5; have := hid8 Gw_ L6 Gqx0 L7 Gqx2 L8 Gqx6 L9; have := hid8 L10 Gg_ L11 L12 Gqy0 L13 L14 Gqy2; have := hid8 L15 L16 Gqy6 L17 L18 L19 L20 L21; have := L22.out; omega) B21.out.size))
 have Ow0r_22 := hid (Ow0r_21.out.carry k22 (by have := hid8 L1 Gqp0 L2 Gqp2 L3 Gqp6 L4 L5; have := hid8 Gw_ L6 Gqx0 L7 Gqx2 L8 Gqx6 L9; have := hid8 L10 Gg_ L11 L12 Gqy0 L13 L14 Gqy2; have := hid8 L15 L16 Gqy6 L17 L18 L19 L20 L21; have := L22.out; omega))
 have Kw0_22 := hid (Kw0_21.out.keep (k22.block _ Kw0_21.out.lt (by have := hid8 L1 Gqp0 L2 Gqp2 L3 Gqp6 L4 L5; have := hid8 Gw_ L6 Gqx0 L7 Gqx2 L8 Gqx6 L9; have := hid8 L10 Gg_ L11 L12 Gqy0 L13 L14 Gqy2; have := hid8 L15 L16 Gqy6 L17 L18 L19 L20 L21; have := L22.out; omega)))
 have Kg0_22 := hid (Kg0_21.out.keep (k22.block _ Kg0_21.out.lt (by have := hid8 L1 Gqp0 L2 Gqp2 L3 Gqp6 L4 L5; have := hid8 Gw_ L6 Gqx0 L7 Gqx2 L8 Gqx6 L9; have := hid8 L10 Gg_ L11 L12 Gqy0 L13 L14 Gqy2; have := hid8 L15 L16 Gqy6 L17 L18 L19 L20 L21; have := L22.out; omega)))
 clear k22 B21 Ow0r_21 Kw0_21 Og0r_21 Kg0_21
 have Og0r_22 := hid (og)
 clear og
 have hmm : (((1 : Int) + (frSum Sg0 : Int)) != ((1 : Int) + (frSum Sg0 : Int))) = false := by simp
 obtain ⟨ca0, ca1, ca2, ca3, ca4, ca5, ca6, ca7, ca8, ca9, ca10⟩ := cells11 Kg0_22.out
 go_wp2_with fail
 refine (heldFrame Sg0 R0 (1 : Int) x22 Og0r_22.out.rd (by omega) (by omega)).mono ?_
 rintro e x23 ⟨rfl, b23⟩
 clear ca0 ca1 ca2 ca3 ca4 ca5 ca6 ca7 ca8 ca9 ca10
 have L23 := hid (b23.size)
 have B23 := hid (B22.out.trans (b23.mono B22.out.size))
 have Ow0r_23 := hid (Ow0r_22.out.later b23)
 have Kw0_23 := hid (Kw0_22.out.later b23)
 have Kg0_23 := hid (Kg0_22.out.later b23)
 have Og0r_23 := hid (Og0r_22.out.later b23)
 clear b23 B22 Ow0r_22 Kw0_22 Kg0_22 Og0r_22
 have hq23_0 : ¬ ((1 : Int) + (frSum Sg0 : Int) < 0) := by omega
 go_wp2_with fail
 refine (toB s0 l0 x23 (HR0.out.later B23.out) (by have := HL0.out; omega)).mono ?_
 rintro e x24 ⟨rfl, o, b24⟩
 obtain ⟨qy0, hq⟩ : ∃ q, x23.heap.size = q := ⟨_, rfl⟩
 rw [hq] at o ⊢
 have L24 := hid (b24.size)
 have B24 := hid (B23.out.trans (b24.mono B23.out.size))
 have Ow0r_24 := hid (Ow0r_23.out.later b24)
 have Kw0_24 := hid (Kw0_23.out.later b24)
 have Kg0_24 := hid (Kg0_23.out.later b24)
 have Og0r_24 := hid (Og0r_23.out.later b24)
 clear b24 B23 Ow0r_23 Kw0_23 Kg0_23 Og0r_23
 have Gqy0 : Hid (x23.heap.size = qy0) := hq
 have Oy0_24 := hid (o)
 clear o hq
 go_wp2_with fail
 refine (toB s2 l2 x24 (HR2.out.later B24.out) (by have := HL2.out; omega)).mono ?_
 rintro e x25 ⟨rfl, o, b25⟩
 obtain ⟨qy2, hq⟩ : ∃ q, x24.heap.size = q := ⟨_, rfl⟩
 rw [hq] at o ⊢
 have L25 := hid (b25.size)
 have B25 := hid (B24.out.trans (b25.mono B24.out.size))
 have Ow0r_25 := hid (Ow0r_24.out.later b25)
 have Kw0_25 := hid (Kw0_24.out.later b25)
 have Kg0_25 := hid (Kg0_24.out.later b25)
 have Og0r_25 := hid (Og0r_24.out.later b25)
 have Oy0_25 := hid (Oy0_24.out.later b25)
 clear b25 B24 Ow0r_24 Kw0_24 Kg0_24 Og0r_24 Oy0_24
 have Gqy2 : Hid (x24.heap.size = qy2) := hq
 have Oy2_25 := hid (o)
 clear o hq
 go_wp2_with fail
 refine (toB s6 l6 x25 (HR6.out.later B25.out) (by have := HL6.out; omega)).mono ?_
 rintro e x26 ⟨rfl, o, b26⟩
 obtain ⟨qy6, hq⟩ : ∃ q, x25.heap.size = q := ⟨_, rfl⟩
 rw [hq] at o ⊢
 have L26 := hid (b26.size)
 have B26 := hid (B25.out.trans (b26.mono B25.out.size))
 have Ow0r_26 := hid (Ow0r_25.out.later b26)
 have Kw0_26 := hid (Kw0_25.out.later b26)
 have Kg0_26 := hid (Kg0_25.out.later b26)
 have Og0r_26 := hid (Og0r_25.out.later b26)
 have Oy0_26 := hid (Oy0_25.out.later b26)
 have Oy2_26 := hid (Oy2_25.out.later b26)
 clear b26 B25 Ow0r_25 Kw0_25 Kg0_25 Og0r_25 Oy0_25 Oy2_25
 have Gqy6 : Hid (x25.heap.size = qy6) := hq
 have Oy6_26 := hid (o)
 clear o hq
 go_wp2_with fail
 refine (SealI.implSeal ⟨some ⟨qy0, 0, none⟩, s0.n, s0.n⟩ ⟨some ⟨qy2, 0, none⟩, s2.n, s2.n⟩ ⟨some ⟨qy6, 0, none⟩, s6.n, s6.n⟩ l0 l2 l6 a1 a3 a4 a5 x26 (HT.out.later B26.out) Oy0_26.out.rd Oy2_26.out.rd Oy6_26.out.rd).mono ?_
 rw [HRD0.out, HRD1.out]
 rintro e x27 ⟨Sh0, rfl, o0, b⟩
 have L27 := hid (b.size)
 have B27 := hid (B26.out.trans (b.mono B26.out.size))
 have Ow0r_27 := hid (Ow0r_26.out.later b)
 have Kw0_27 := hid (Kw0_26.out.later b)
 have Kg0_27 := hid (Kg0_26.out.later b)
 have Og0r_27 := hid (Og0r_26.out.later b)
 have Oy0_27 := hid (Oy0_26.out.later b)
 have Oy2_27 := hid (Oy2_26.out.later b)
 have Oy6_27 := hid (Oy6_26.out.later b)
 clear b B26 Ow0r_26 Kw0_26 Kg0_26 Og0r_26 Oy0_26 Oy2_26 Oy6_26
 have Oh0r_27 := hid (o0)
 clear o0
 obtain ⟨x28, hx28⟩ : ∃ x28, x27.alloc (.cells #[.int .i64 R0.kind, .int .i64 R0.id, .slice Sh0.cn.a Sh0.cn.n Sh0.cn.c, .slice Sh0.sn.a Sh0.sn.n Sh0.sn.c, .int .i64 R0.tick, .slice Sh0.cookie.a Sh0.cookie.n Sh0.cookie.c, .slice Sh0.proof.a Sh0.proof.n Sh0.proof.c, .int .i64 R0.epoch, .int .i64 R0.seq, .slice Sh0.body.a Sh0.body.n Sh0.body.c, .slice Sh0.tag.a Sh0.tag.n Sh0.tag.c] 27) = x28 := ⟨_, rfl⟩
 have HW28 := hid (hx28)
 have b : Below x27.heap.size x27 x28 := by rw [← hx28]; exact (Below.refl _ _).alloc (Nat.le_refl _) _
 have KN0 : Blk x28 (x27.heap.size) 27 [.int .i64 R0.kind, .int .i64 R0.id, .slice Sh0.cn.a Sh0.cn.n Sh0.cn.c, .slice Sh0.sn.a Sh0.sn.n Sh0.sn.c, .int .i64 R0.tick, .slice Sh0.cookie.a Sh0.cookie.n Sh0.cookie.c, .slice Sh0.proof.a Sh0.proof.n Sh0.proof.c, .int .i64 R0.epoch, .int .i64 R0.seq, .slice Sh0.body.a Sh0.body.n Sh0.body.c, .slice Sh0.tag.a Sh0.tag.n Sh0.tag.c] := by
  have q := Blk.new (x27) 27 [.int .i64 R0.kind, .int .i64 R0.id, .slice Sh0.cn.a Sh0.cn.n Sh0.cn.c, .slice Sh0.sn.a Sh0.sn.n Sh0.sn.c, .int .i64 R0.tick, .slice Sh0.cookie.a Sh0.cookie.n Sh0.cookie.c, .slice Sh0.proof.a Sh0.proof.n Sh0.proof.c, .int .i64 R0.epoch, .int .i64 R0.seq, .slice Sh0.body.a Sh0.body.n Sh0.body.c, .slice Sh0.tag.a Sh0.tag.n Sh0.tag.c]
  rw [← hx28]; exact q
 have HSZ28 : Hid (x28.heap.size = x27.heap.size + 1) := by rw [← hx28]; show _ = _; simp
 clear hx28
 have L28 := hid (b.size)
 have B28 := hid (B27.out.trans (b.mono B27.out.size))
 have Ow0r_28 := hid (Ow0r_27.out.later b)
 have Kw0_28 := hid (Kw0_27.out.later b)
 have Kg0_28 := hid (Kg0_27.out.later b)
 have Og0r_28 := hid (Og0r_27.out.later b)
 have Oy0_28 := hid (Oy0_27.out.later b)
 have Oy2_28 := hid (Oy2_27.out.later b)
 have Oy6_28 := hid (Oy6_27.out.later b)
 have Oh0r_28 := hid (Oh0r_27.out.later b)
 clear b B27 Ow0r_27 Kw0_27 Kg0_27 Og0r_27 Oy0_27 Oy2_27 Oy6_27 Oh0r_27
 unfold frV
 go_upto_region 35 with fail
 rw [HW28.out]
 obtain ⟨gh0, hg0⟩ : ∃ g, x27.heap.size = g := ⟨_, rfl⟩
 have Gh_ : Hid (x27.heap.size + 0 = gh0 ∧ x28.heap.size = x27.heap.size + 1) := ⟨by omega, HSZ28.out⟩
 rw [hg0] at KN0
 rw [hg0]
 clear HW28 HSZ28 hg0
 have Kh0_28 := hid (KN0)
 clear KN0
 clear Oy0_28
 clear Oy2_28
 clear Oy6_28
 obtain ⟨ca0, ca1, ca2, ca3, ca4, ca5, ca6, ca7, ca8, ca9, ca10⟩ := cells11 Kh0_28.out
 obtain ⟨cb0, cb1, cb2, cb3, cb4, cb5, cb6, cb7, cb8, cb9, cb10⟩ := cells11 Kw0_28.out
 go_wp2_with fail
 refine (eqFrame Sh0 Sw0 R0 x28 Oh0r_28.out.rd Ow0r_28.out.rd HRL0.out).mono ?_
 rintro e x29 ⟨rfl, b29⟩
 clear ca0 ca1 ca2 ca3 ca4 ca5 ca6 ca7 ca8 ca9 ca10
 clear cb0 cb1 cb2 cb3 cb4 cb5 cb6 cb7 cb8 cb9 cb10
 have L29 := hid (b29.size)
 have B29 := hid (B28.out.trans (b29.mono B28.out.size))
 have Ow0r_29 := hid (Ow0r_28.out.later b29)
 have Kw0_29 := hid (Kw0_28.out.later b29)
 have Kg0_29 := hid (Kg0_28.out.later b29)
 have Og0r_29 := hid (Og0r_28.out.later b29)
 have Oh0r_29 := hid (Oh0r_28.out.later b29)
 have Kh0_29 := hid (Kh0_28.out.later b29)
 clear b29 B28 Ow0r_28 Kw0_28 Kg0_28 Og0r_28 Oh0r_28 Kh0_28
 obtain ⟨ca0, ca1, ca2, ca3, ca4, ca5, ca6, ca7, ca8, ca9, ca10⟩ := cells11 Kg0_29.out
 go_wp2_with fail
 refine (heldFrame Sg0 R0 (1 : Int) x29 Og0r_29.out.rd (by omega) (by omega)).mono ?_
 rintro e x30 ⟨rfl, b30⟩
 clear ca0 ca1 ca2 ca3 ca4 ca5 ca6 ca7 ca8 ca9 ca10
 have L30 := hid (b30.size)
 have B30 := hid (B29.out.trans (b30.mono B29.out.size))
 have Ow0r_30 := hid (Ow0r_29.out.later b30)
 have Kw0_30 := hid (Kw0_29.out.later b30)
 have Kg0_30 := hid (Kg0_29.out.later b30)
 have Og0r_30 := hid (Og0r_29.out.later b30)
 have Oh0r_30 := hid (Oh0r_29.out.later b30)
 have Kh0_30 := hid (Kh0_29.out.later b30)
 clear b30 B29 Ow0r_29 Kw0_29 Kg0_29 Og0r_29 Oh0r_29 Kh0_29
 have hq30_0 : ¬ ((1 : Int) + (frSum Sg0 : Int) < 0) := by omega
 go_wp2
 go_ret
 exact ⟨rfl, B30.out⟩
theorem walk1 (a0 : Option Addr) (n0 c0 : Nat) (z0 : List Int) (a1 : Int) (a2 : Option Addr) (n2 c2 : Nat) (z2 : List Int) (a3 : Int) (a4 : Int) (a5 : Int) (a6 : Option Addr) (n6 c6 : Nat) (z6 : List Int) (w : World) (hT : Tab w) (h0 : IsRow .u8 w a0 n0 c0 z0) (h2 : IsRow .u8 w a2 n2 c2 z2) (h6 : IsRow .u8 w a6 n6 c6 z6) :
  Calls Tryz.prog 7 #[.slice a0 n0 c0, .int .i64 a1, .slice a2 n2 c2, .int .i64 a3, .int .i64 a4, .int .i64 a5, .slice a6 n6 c6] w fun e w' => e = .returned (.bool true) ∧ Below w.heap.size w w' := by
 obtain ⟨l0, r0⟩ := row_sl h0
 obtain ⟨l2, r2⟩ := row_sl h2
 obtain ⟨l6, r6⟩ := row_sl h6
 exact walk ⟨a0, n0, c0⟩ l0 a1 ⟨a2, n2, c2⟩ l2 a3 a4 a5 ⟨a6, n6, c6⟩ l6 w hT r0 r2 r6
end Go.Proofs.YtmcflfpckpjphaaGreatDoor.LawSeal

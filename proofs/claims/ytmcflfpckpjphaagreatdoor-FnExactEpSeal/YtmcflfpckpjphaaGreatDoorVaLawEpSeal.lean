/-
  The walk of the law FnExactEpSeal: at every argument it answers true, and nothing that was there is written.
-/
import Derived.Test.YtmcflfpckpjphaaGreatDoorVaEpK
import Derived.Test.YtmcflfpckpjphaaGreatDoorVaEpT
import Derived.Test.YtmcflfpckpjphaaGreatDoorVaBas7
import Derived.Test.YtmcflfpckpjphaaGreatDoorVaBas1
set_option maxRecDepth 100000
namespace Go.Proofs.YtmcflfpckpjphaaGreatDoor.LawEpSeal
open Go.RowKit Mem Blk Zone ZoneB ZoneI MemI Each Copy Ops Shp App WnZ WinP FrZ FrL FrP FrG FrQ SlP SlQ EpZ EpL EpP EpQ Comp EpJ

set_option maxHeartbeats 8000000 in
theorem walk (D0 : EpD) (S0 : EpS) (a1 : Int) (s2 : Sl) (l2 : List Int) (a3 : Int) (s4 : Sl) (l4 : List Int) (w : World) (hT : Tab w) (hE : ErrAt w) (h0 : EpRd w S0 D0) (m0 : EpSmall S0) (h2 : SRd w s2 l2) (h4 : SRd w s4 l4) :
  Calls Tryz.prog 9 #[epV D0 S0, .int .i64 a1, .slice s2.a s2.n s2.c, .int .i64 a3, .slice s4.a s4.n s4.c] w fun e w' => e = .returned (.bool true) ∧ Below w.heap.size w w' := by
 obtain ⟨R0, hR0⟩ : ∃ R : EpD, esE D0 a1 l2 a3 l4 = R := ⟨_, rfl⟩
 have HRD0 : Hid (esE D0 a1 l2 a3 l4 = R0) := hR0
 clear hR0
 obtain ⟨R1, hR1⟩ : ∃ R : FrD, esF D0 a1 l2 a3 l4 = R := ⟨_, rfl⟩
 have HRD1 : Hid (esF D0 a1 l2 a3 l4 = R1) := hR1
 clear hR1
 obtain ⟨R2, hR2⟩ : ∃ R : Int, esCode D0 a1 l2 a3 l4 = R := ⟨_, rfl⟩
 have HRD2 : Hid (esCode D0 a1 l2 a3 l4 = R2) := hR2
 clear hR2
 have hvv2 : (R2 != R2) = false := by simp
 have HT := hid (hT)
 have HER := hid (hE)
 clear hT hE
 have HR0 := hid (h0)
 have HM0 : Hid (EpSmall S0) := m0
 have HR2 := hid (h2)
 have HN2 : Hid (s2.n = l2.length) := h2.len
 have HR4 := hid (h4)
 have HN4 : Hid (s4.n = l4.length) := h4.len
 clear h0 h2 h4 m0
 obtain ⟨x1, hx1⟩ : ∃ x1, w.alloc (.cells #[.int .i64 D0.n, .slice S0.key.a S0.key.n S0.key.c, .int .i64 D0.seq, .int .i64 D0.win.top, .slice S0.win.bits.a S0.win.bits.n S0.win.bits.c] 65) = x1 := ⟨_, rfl⟩
 have HW0 := hid (hx1)
 have b1 : Below w.heap.size w x1 := by rw [← hx1]; exact (Below.refl _ _).alloc (Nat.le_refl _) _
 have KN0 : Blk x1 (w.heap.size) 65 [.int .i64 D0.n, .slice S0.key.a S0.key.n S0.key.c, .int .i64 D0.seq, .int .i64 D0.win.top, .slice S0.win.bits.a S0.win.bits.n S0.win.bits.c] := by
  have q := Blk.new (w) 65 [.int .i64 D0.n, .slice S0.key.a S0.key.n S0.key.c, .int .i64 D0.seq, .int .i64 D0.win.top, .slice S0.win.bits.a S0.win.bits.n S0.win.bits.c]
  rw [← hx1]; exact q
 have SZ1 : x1.heap.size = w.heap.size + 1 := by rw [← hx1]; simp
 clear hx1
 have L1 := hid (b1.size)
 have B1 := hid (b1)
 clear b1
 unfold epV
 go_enter Tryz.func9, Tryz.ntmps9
 go_upto_region 1 with fail
 rw [HW0.out]
 obtain ⟨ga0, hga0⟩ : ∃ g, w.heap.size = g := ⟨_, rfl⟩
 have Gga : Hid (w.heap.size + 0 = ga0 ∧ x1.heap.size = w.heap.size + 1) := ⟨by omega, SZ1⟩
 rw [hga0] at KN0
 rw [hga0]
 clear HW0 SZ1 hga0
 have KA0_1 := hid (KN0)
 clear KN0
 by_cases hbig2 : (s2.n : Int) > 1048576
 ·
  go_wp2
  go_ret
  exact ⟨rfl, B1.out⟩
 have HL2 : Hid (l2.length ≤ 1048576) := by have := HN2.out; show _ ≤ _; omega
 by_cases hbig4 : (s4.n : Int) > 1048576
 ·
  go_wp2
  go_ret
  exact ⟨rfl, B1.out⟩
 have HL4 : Hid (l4.length ≤ 1048576) := by have := HN4.out; show _ ≤ _; omega
 obtain ⟨c0, c1, c2, c3, c4⟩ := cells5 KA0_1.out
 go_wp2_with fail
 refine (szEp S0 D0 (1048576 : Int) x1 HM0.out (by omega) (by omega)).mono ?_
 rintro e x2 ⟨rfl, b2⟩
 clear c0 c1 c2 c3 c4
 have L2 := hid (b2.size)
 have B2 := hid (B1.out.trans (b2.mono B1.out.size))
 have KA0_2 := hid (KA0_1.out.later b2)
 clear b2 B1 KA0_1
 by_cases hsum0 : (1048576 : Int) - (epSum S0 : Int) < 0
 ·
  rw [if_pos hsum0]
  go_wp2
  go_ret
  exact ⟨rfl, B2.out⟩
 rw [if_neg hsum0]
 have HL0 : Hid (EpShort D0 1048576) := ep_short_of HR0.out (by omega)
 have HLL0 : Hid (EpShort D0 4194304) := ep_short_le HL0.out (by omega)
 have HRS0 : Hid (EpShort R0 1048576) := by rw [← HRD0.out]; exact esE_short _ _ _ _ HL0.out
 have HRL0 : Hid (EpShort R0 4194304) := ep_short_le HRS0.out (by omega)
 have HRS1 : Hid (FrShort R1 100) := by rw [← HRD1.out]; exact esF_short _ _ _ _ _
 have HRL1 : Hid (FrShort R1 4194304) := fr_short_le HRS1.out (by omega)
 obtain ⟨c0, c1, c2, c3, c4⟩ := cells5 KA0_2.out
 go_wp2_with fail
 refine (toEp S0 D0 x2 (HR0.out.later B2.out) HLL0.out).mono ?_
 rintro e x3 ⟨Sp0, rfl, o, b3⟩
 clear c0 c1 c2 c3 c4
 have L3 := hid (b3.size)
 have B3 := hid (B2.out.trans (b3.mono B2.out.size))
 have KA0_3 := hid (KA0_2.out.later b3)
 clear b3 B2 KA0_2
 have Op0_3 := hid (o)
 clear o
 go_wp2_with fail
 refine (toB s2 l2 x3 (HR2.out.later B3.out) (by have := HL2.out; omega)).mono ?_
 rintro e x4 ⟨rfl, o, b4⟩
 obtain ⟨qp2, hq⟩ : ∃ q, x3.heap.size = q := ⟨_, rfl⟩
 rw [hq] at o ⊢
 have L4 := hid (b4.size)
 have B4 := hid (B3.out.trans (b4.mono B3.out.size))
 have KA0_4 := hid (KA0_3.out.later b4)
 have Op0_4 := hid (Op0_3.out.later b4)
 clear b4 B3 KA0_3 Op0_3
 have Gqp2 : Hid (x3.heap.size = qp2) := hq
 have Op2_4 := hid (o)
 clear o hq
 go_wp2_with fail
 refine (toB s4 l4 x4 (HR4.out.later B4.out) (by have := HL4.out; omega)).mono ?_
 rintro e x5 ⟨rfl, o, b5⟩
 obtain ⟨qp4, hq⟩ : ∃ q, x4.heap.size = q := ⟨_, rfl⟩
 rw [hq] at o ⊢
 have L5 := hid (b5.size)
 have B5 := hid (B4.out.trans (b5.mono B4.out.size))
 have KA0_5 := hid (KA0_4.out.later b5)
 have Op0_5 := hid (Op0_4.out.later b5)
 have Op2_5 := hid (Op2_4.out.later b5)
 clear b5 B4 KA0_4 Op0_4 Op2_4
 have Gqp4 : Hid (x4.heap.size = qp4) := hq
 have Op4_5 := hid (o)
 clear o hq
 go_wp2_with fail
 refine (EpT.specEpSeal Sp0 D0 ⟨some ⟨qp2, 0, none⟩, s2.n, s2.n⟩ ⟨some ⟨qp4, 0, none⟩, s4.n, s4.n⟩ l2 l4 a1 a3 x5 Op0_5.out.rd HLL0.out Op2_5.out.rd Op4_5.out.rd).mono ?_
 rw [HRD0.out, HRD1.out, HRD2.out]
 rintro e x6 ⟨Sw0, Sw1, pw0, qw0, pw1, qw1, rfl, o0, o1, z, b⟩
 have L6 := hid (b.size)
 have B6 := hid (B5.out.trans (b.mono B5.out.size))
 have KA0_6 := hid (KA0_5.out.later b)
 have Op0_6 := hid (Op0_5.out.later b)
 have Op2_6 := hid (Op2_5.out.later b)
 have Op4_6 := hid (Op4_5.out.later b)
 clear b B5 KA0_5 Op0_5 Op2_5 Op4_5
 have Ow0r_6 := hid (o0)
 clear o0
 have Ow1r_6 := hid (o1)
 clear o1
 have Zw_ : Hid (x5.heap.size ≤ pw0 ∧ qw0 ≤ x6.heap.size ∧ x5.heap.size ≤ pw1 ∧ qw1 ≤ x6.heap.size ∧ (qw0 ≤ pw1 ∨ qw1 ≤ pw0)) := z
 clear z
 obtain ⟨x7, hx7⟩ : ∃ x7, (x6.alloc (.cells #[.int .i64 R0.n, .slice Sw0.key.a Sw0.key.n Sw0.key.c, .int .i64 R0.seq, .int .i64 R0.win.top, .slice Sw0.win.bits.a Sw0.win.bits.n Sw0.win.bits.c] 41)).alloc (.cells #[.int .i64 R1.kind, .int .i64 R1.id, .slice Sw1.cn.a Sw1.cn.n Sw1.cn.c, .slice Sw1.sn.a Sw1.sn.n Sw1.sn.c, .int .i64 R1.tick, .slice Sw1.cookie.a Sw1.cookie.n Sw1.cookie.c, .slice Sw1.proof.a Sw1.proof.n Sw1.proof.c, .int .i64 R1.epoch, .int .i64 R1.seq, .slice Sw1.body.a Sw1.body.n Sw1.body.c, .slice Sw1.tag.a Sw1.tag.n Sw1.tag.c] 27) = x7 := ⟨_, rfl⟩
 have HW7 := hid (hx7)
 have b : Below x6.heap.size x6 x7 := by rw [← hx7]; exact ((Below.refl _ _).alloc (Nat.le_refl _) _).alloc (by simp) _
 have KN0 : Blk x7 (x6.heap.size) 41 [.int .i64 R0.n, .slice Sw0.key.a Sw0.key.n Sw0.key.c, .int .i64 R0.seq, .int .i64 R0.win.top, .slice Sw0.win.bits.a Sw0.win.bits.n Sw0.win.bits.c] := by
  have q := Blk.new (x6) 41 [.int .i64 R0.n, .slice Sw0.key.a Sw0.key.n Sw0.key.c, .int .i64 R0.seq, .int .i64 R0.win.top, .slice Sw0.win.bits.a Sw0.win.bits.n Sw0.win.bits.c]
  rw [← hx7]; exact q.alloc _
 have KN1 : Blk x7 (x6.heap.size + 1) 27 [.int .i64 R1.kind, .int .i64 R1.id, .slice Sw1.cn.a Sw1.cn.n Sw1.cn.c, .slice Sw1.sn.a Sw1.sn.n Sw1.sn.c, .int .i64 R1.tick, .slice Sw1.cookie.a Sw1.cookie.n Sw1.cookie.c, .slice Sw1.proof.a Sw1.proof.n Sw1.proof.c, .int .i64 R1.epoch, .int .i64 R1.seq, .slice Sw1.body.a Sw1.body.n Sw1.body.c, .slice Sw1.tag.a Sw1.tag.n Sw1.tag.c] := by
  have q := Blk.new ((x6).alloc (.cells #[.int .i64 R0.n, .slice Sw0.key.a Sw0.key.n Sw0.key.c, .int .i64 R0.seq, .int .i64 R0.win.top, .slice Sw0.win.bits.a Sw0.win.bits.n Sw0.win.bits.c] 41)) 27 [.int .i64 R1.kind, .int .i64 R1.id, .slice Sw1.cn.a Sw1.cn.n Sw1.cn.c, .slice Sw1.sn.a Sw1.sn.n Sw1.sn.c, .int .i64 R1.tick, .slice Sw1.cookie.a Sw1.cookie.n Sw1.cookie.c, .slice Sw1.proof.a Sw1.proof.n Sw1.proof.c, .int .i64 R1.epoch, .int .i64 R1.seq, .slice Sw1.body.a Sw1.body.n Sw1.body.c, .slice Sw1.tag.a Sw1.tag.n Sw1.tag.c]
  rw [World.size_alloc] at q
  rw [← hx7]; exact q
 have HSZ7 : Hid (x7.heap.size = x6.heap.size + 2) := by rw [← hx7]; show _ = _; simp
 clear hx7
 have L7 := hid (b.size)
 have B7 := hid (B6.out.trans (b.mono B6.out.size))
 have KA0_7 := hid (KA0_6.out.later b)
 have Op0_7 := hid (Op0_6.out.later b)
 have Op2_7 := hid (Op2_6.out.later b)
 have Op4_7 := hid (Op4_6.out.later b)
 have Ow0r_7 := hid (Ow0r_6.out.later b)
 have Ow1r_7 := hid (Ow1r_6.out.later b)
 clear b B6 KA0_6 Op0_6 Op2_6 Op4_6 Ow0r_6 Ow1r_6
 unfold epV frV
 go_upto_region 10 with fail
 rw [HW7.out]
 obtain ⟨gw0, hg0⟩ : ∃ g, x6.heap.size = g := ⟨_, rfl⟩
 obtain ⟨gw1, hg1⟩ : ∃ g, x6.heap.size + 1 = g := ⟨_, rfl⟩
 have Gw_ : Hid (x6.heap.size + 0 = gw0 ∧ x6.heap.size + 1 = gw1 ∧ x7.heap.size = x6.heap.size + 2) := ⟨by omega, by omega, HSZ7.out⟩
 rw [hg0] at KN0
 rw [hg1] at KN1
 rw [hg1, hg0]
 clear HW7 HSZ7 hg0 hg1
 have Kw0_7 := hid (KN0)
 clear KN0
 have Kw1_7 := hid (KN1)
 clear KN1
 clear Op0_7
 clear Op2_7
 clear Op4_7
 obtain ⟨c0, c1, c2, c3, c4⟩ := cells5 KA0_7.out
 go_wp2_with fail
 refine (toEp S0 D0 x7 (HR0.out.later B7.out) HLL0.out).mono ?_
 rintro e x8 ⟨Sx0, rfl, o, b8⟩
 clear c0 c1 c2 c3 c4
 have L8 := hid (b8.size)
 have B8 := hid (B7.out.trans (b8.mono B7.out.size))
 have KA0_8 := hid (KA0_7.out.later b8)
 have Ow0r_8 := hid (Ow0r_7.out.later b8)
 have Ow1r_8 := hid (Ow1r_7.out.later b8)
 have Kw0_8 := hid (Kw0_7.out.later b8)
 have Kw1_8 := hid (Kw1_7.out.later b8)
 clear b8 B7 KA0_7 Ow0r_7 Ow1r_7 Kw0_7 Kw1_7
 have Ox0_8 := hid (o)
 clear o
 obtain ⟨x9, hx9⟩ : ∃ x9, x8.alloc (.cells #[.int .i64 D0.n, .slice Sx0.key.a Sx0.key.n Sx0.key.c, .int .i64 D0.seq, .int .i64 D0.win.top, .slice Sx0.win.bits.a Sx0.win.bits.n Sx0.win.bits.c] 41) = x9 := ⟨_, rfl⟩
 have HW9 := hid (hx9)
 have b9 : Below x8.heap.size x8 x9 := by rw [← hx9]; exact (Below.refl _ _).alloc (Nat.le_refl _) _
 have KN : Blk x9 x8.heap.size 41 [.int .i64 D0.n, .slice Sx0.key.a Sx0.key.n Sx0.key.c, .int .i64 D0.seq, .int .i64 D0.win.top, .slice Sx0.win.bits.a Sx0.win.bits.n Sx0.win.bits.c] := by rw [← hx9]; exact Blk.new x8 _ _
 have HSZ9 : Hid (x9.heap.size = x8.heap.size + 1) := by rw [← hx9]; show _ = _; simp
 clear hx9
 have L9 := hid (b9.size)
 have B9 := hid (B8.out.trans (b9.mono B8.out.size))
 have KA0_9 := hid (KA0_8.out.later b9)
 have Ow0r_9 := hid (Ow0r_8.out.later b9)
 have Ow1r_9 := hid (Ow1r_8.out.later b9)
 have Kw0_9 := hid (Kw0_8.out.later b9)
 have Kw1_9 := hid (Kw1_8.out.later b9)
 have Ox0_9 := hid (Ox0_8.out.later b9)
 clear b9 B8 KA0_8 Ow0r_8 Ow1r_8 Kw0_8 Kw1_8 Ox0_8
 unfold epV
 go_upto_region 11 with fail
 rw [HW9.out]
 obtain ⟨gx0, hgx0⟩ : ∃ gx0, x8.heap.size = gx0 := ⟨_, rfl⟩
 have Ggx0 : Hid (x8.heap.size = gx0 ∧ x9.heap.size = gx0 + 1) := ⟨hgx0, by rw [← hgx0]; exact HSZ9.out⟩
 rw [hgx0] at KN ⊢
 clear HW9 HSZ9 hgx0
 have Kx0_9 := hid (KN)
 clear KN
 go_wp2_with fail
 refine (toB s2 l2 x9 (HR2.out.later B9.out) (by have := HL2.out; omega)).mono ?_
 rintro e x10 ⟨rfl, o, b10⟩
 obtain ⟨qx2, hq⟩ : ∃ q, x9.heap.size = q := ⟨_, rfl⟩
 rw [hq] at o ⊢
 have L10 := hid (b10.size)
 have B10 := hid (B9.out.trans (b10.mono B9.out.size))
 have KA0_10 := hid (KA0_9.out.later b10)
 have Ow0r_10 := hid (Ow0r_9.out.later b10)
 have Ow1r_10 := hid (Ow1r_9.out.later b10)
 have Kw0_10 := hid (Kw0_9.out.later b10)
 have Kw1_10 := hid (Kw1_9.out.later b10)
 have Ox0_10 := hid (Ox0_9.out.later b10)
 have Kx0_10 := hid (Kx0_9.out.later b10)
 clear b10 B9 KA0_9 Ow0r_9 Ow1r_9 Kw0_9 Kw1_9 Ox0_9 Kx0_9
 have Gqx2 : Hid (x9.heap.size = qx2) := hq
 have Ox2_10 := hid (o)
 clear o hq
 go_wp2_with fail
 refine (toB s4 l4 x10 (HR4.out.later B10.out) (by have := HL4.out; omega)).mono ?_
 rintro e x11 ⟨rfl, o, b11⟩
 obtain ⟨qx4, hq⟩ : ∃ q, x10.heap.size = q := ⟨_, rfl⟩
 rw [hq] at o ⊢
 have L11 := hid (b11.size)
 have B11 := hid (B10.out.trans (b11.mono B10.out.size))
 have KA0_11 := hid (KA0_10.out.later b11)
 have Ow0r_11 := hid (Ow0r_10.out.later b11)
 have Ow1r_11 := hid (Ow1r_10.out.later b11)
 have Kw0_11 := hid (Kw0_10.out.later b11)
 have Kw1_11 := hid (Kw1_10.out.later b11)
 have Ox0_11 := hid (Ox0_10.out.later b11)
 have Kx0_11 := hid (Kx0_10.out.later b11)
 have Ox2_11 := hid (Ox2_10.out.later b11)
 clear b11 B10 KA0_10 Ow0r_10 Ow1r_10 Kw0_10 Kw1_10 Ox0_10 Kx0_10 Ox2_10
 have Gqx4 : Hid (x10.heap.size = qx4) := hq
 have Ox4_11 := hid (o)
 clear o hq
 obtain ⟨cx0_0, cx0_1, cx0_2, cx0_3, cx0_4⟩ := cells5 Kx0_11.out
 go_wp2_with fail
 refine (EpK.implEpSeal Sx0 D0 ⟨some ⟨qx2, 0, none⟩, s2.n, s2.n⟩ ⟨some ⟨qx4, 0, none⟩, s4.n, s4.n⟩ l2 l4 a1 a3 x11 (HT.out.later B11.out) (HER.out.later B11.out) Ox0_11.out.rd HLL0.out Ox2_11.out.rd Ox4_11.out.rd).mono ?_
 rw [HRD0.out, HRD1.out, HRD2.out]
 rintro e x12 ⟨Sg0, Sg1, pg0, qg0, pg1, qg1, rfl, o0, o1, z, b⟩
 clear cx0_0 cx0_1 cx0_2 cx0_3 cx0_4
 have L12 := hid (b.size)
 have B12 := hid (B11.out.trans (b.mono B11.out.size))
 have KA0_12 := hid (KA0_11.out.later b)
 have Ow0r_12 := hid (Ow0r_11.out.later b)
 have Ow1r_12 := hid (Ow1r_11.out.later b)
 have Kw0_12 := hid (Kw0_11.out.later b)
 have Kw1_12 := hid (Kw1_11.out.later b)
 have Ox0_12 := hid (Ox0_11.out.later b)
 have Kx0_12 := hid (Kx0_11.out.later b)
 have Ox2_12 := hid (Ox2_11.out.later b)
 have Ox4_12 := hid (Ox4_11.out.later b)
 clear b B11 KA0_11 Ow0r_11 Ow1r_11 Kw0_11 Kw1_11 Ox0_11 Kx0_11 Ox2_11 Ox4_11
 have Og0r_12 := hid (o0)
 clear o0
 have Og1r_12 := hid (o1)
 clear o1
 have Zg_ : Hid (x11.heap.size ≤ pg0 ∧ qg0 ≤ x12.heap.size ∧ x11.heap.size ≤ pg1 ∧ qg1 ≤ x12.heap.size ∧ (qg0 ≤ pg1 ∨ qg1 ≤ pg0)) := z
 clear z
 obtain ⟨x13, hx13⟩ : ∃ x13, (x12.alloc (.cells #[.int .i64 R0.n, .slice Sg0.key.a Sg0.key.n Sg0.key.c, .int .i64 R0.seq, .int .i64 R0.win.top, .slice Sg0.win.bits.a Sg0.win.bits.n Sg0.win.bits.c] 41)).alloc (.cells #[.int .i64 R1.kind, .int .i64 R1.id, .slice Sg1.cn.a Sg1.cn.n Sg1.cn.c, .slice Sg1.sn.a Sg1.sn.n Sg1.sn.c, .int .i64 R1.tick, .slice Sg1.cookie.a Sg1.cookie.n Sg1.cookie.c, .slice Sg1.proof.a Sg1.proof.n Sg1.proof.c, .int .i64 R1.epoch, .int .i64 R1.seq, .slice Sg1.body.a Sg1.body.n Sg1.body.c, .slice Sg1.tag.a Sg1.tag.n Sg1.tag.c] 27) = x13 := ⟨_, rfl⟩
 have HW13 := hid (hx13)
 have b : Below x12.heap.size x12 x13 := by rw [← hx13]; exact ((Below.refl _ _).alloc (Nat.le_refl _) _).alloc (by simp) _
 have KN0 : Blk x13 (x12.heap.size) 41 [.int .i64 R0.n, .slice Sg0.key.a Sg0.key.n Sg0.key.c, .int .i64 R0.seq, .int .i64 R0.win.top, .slice Sg0.win.bits.a Sg0.win.bits.n Sg0.win.bits.c] := by
  have q := Blk.new (x12) 41 [.int .i64 R0.n, .slice Sg0.key.a Sg0.key.n Sg0.key.c, .int .i64 R0.seq, .int .i64 R0.win.top, .slice Sg0.win.bits.a Sg0.win.bits.n Sg0.win.bits.c]
  rw [← hx13]; exact q.alloc _
 have KN1 : Blk x13 (x12.heap.size + 1) 27 [.int .i64 R1.kind, .int .i64 R1.id, .slice Sg1.cn.a Sg1.cn.n Sg1.cn.c, .slice Sg1.sn.a Sg1.sn.n Sg1.sn.c, .int .i64 R1.tick, .slice Sg1.cookie.a Sg1.cookie.n Sg1.cookie.c, .slice Sg1.proof.a Sg1.proof.n Sg1.proof.c, .int .i64 R1.epoch, .int .i64 R1.seq, .slice Sg1.body.a Sg1.body.n Sg1.body.c, .slice Sg1.tag.a Sg1.tag.n Sg1.tag.c] := by
  have q := Blk.new ((x12).alloc (.cells #[.int .i64 R0.n, .slice Sg0.key.a Sg0.key.n Sg0.key.c, .int .i64 R0.seq, .int .i64 R0.win.top, .slice Sg0.win.bits.a Sg0.win.bits.n Sg0.win.bits.c] 41)) 27 [.int .i64 R1.kind, .int .i64 R1.id, .slice Sg1.cn.a Sg1.cn.n Sg1.cn.c, .slice Sg1.sn.a Sg1.sn.n Sg1.sn.c, .int .i64 R1.tick, .slice Sg1.cookie.a Sg1.cookie.n Sg1.cookie.c, .slice Sg1.proof.a Sg1.proof.n Sg1.proof.c, .int .i64 R1.epoch, .int .i64 R1.seq, .slice Sg1.body.a Sg1.body.n Sg1.body.c, .slice Sg1.tag.a Sg1.tag.n Sg1.tag.c]
  rw [World.size_alloc] at q
  rw [← hx13]; exact q
 have HSZ13 : Hid (x13.heap.size = x12.heap.size + 2) := by rw [← hx13]; show _ = _; simp
 clear hx13
 have L13 := hid (b.size)
 have B13 := hid (B12.out.trans (b.mono B12.out.size))
 have KA0_13 := hid (KA0_12.out.later b)
 have Ow0r_13 := hid (Ow0r_12.out.later b)
 have Ow1r_13 := hid (Ow1r_12.out.later b)
 have Kw0_13 := hid (Kw0_12.out.later b)
 have Kw1_13 := hid (Kw1_12.out.later b)
 have Ox0_13 := hid (Ox0_12.out.later b)
 have Kx0_13 := hid (Kx0_12.out.later b)
 have Ox2_13 := hid (Ox2_12.out.later b)
 have Ox4_13 := hid (Ox4_12.out.later b)
 have Og0r_13 := hid (Og0r_12.out.later b)
 have Og1r_13 := hid (Og1r_12.out.later b)
 clear b B12 KA0_12 Ow0r_12 Ow1r_12 Kw0_12 Kw1_12 Ox0_12 Kx0_12 Ox2_12 Ox4_12 Og0r_12 Og1r_12
 unfold epV frV
 go_upto_region 14 with fail
 rw [HW13.out]
 obtain ⟨gg0, hg0⟩ : ∃ g, x12.heap.size = g := ⟨_, rfl⟩
 obtain ⟨gg1, hg1⟩ : ∃ g, x12.heap.size + 1 = g := ⟨_, rfl⟩
 have Gg_ : Hid (x12.heap.size + 0 = gg0 ∧ x12.heap.size + 1 = gg1 ∧ x13.heap.size = x12.heap.size + 2) := ⟨by omega, by omega, HSZ13.out⟩
 rw [hg0] at KN0
 rw [hg1] at KN1
 rw [hg1, hg0]
 clear HW13 HSZ13 hg0 hg1
 have Kg0_13 := hid (KN0)
 clear KN0
 have Kg1_13 := hid (KN1)
 clear KN1
 obtain ⟨ca0, ca1, ca2, ca3, ca4⟩ := cells5 Kg0_13.out
 obtain ⟨cb0, cb1, cb2, cb3, cb4⟩ := cells5 Kw0_13.out
 go_wp2_with fail
 refine (eqEp Sg0 Sw0 R0 x13 Og0r_13.out.rd Ow0r_13.out.rd HRL0.out).mono ?_
 rintro e x14 ⟨rfl, b14⟩
 clear ca0 ca1 ca2 ca3 ca4
 clear cb0 cb1 cb2 cb3 cb4
 have L14 := hid (b14.size)
 have B14 := hid (B13.out.trans (b14.mono B13.out.size))
 have KA0_14 := hid (KA0_13.out.later b14)
 have Ow0r_14 := hid (Ow0r_13.out.later b14)
 have Ow1r_14 := hid (Ow1r_13.out.later b14)
 have Kw0_14 := hid (Kw0_13.out.later b14)
 have Kw1_14 := hid (Kw1_13.out.later b14)
 have Ox0_14 := hid (Ox0_13.out.later b14)
 have Kx0_14 := hid (Kx0_13.out.later b14)
 have Ox2_14 := hid (Ox2_13.out.later b14)
 have Ox4_14 := hid (Ox4_13.out.later b14)
 have Og0r_14 := hid (Og0r_13.out.later b14)
 have Og1r_14 := hid (Og1r_13.out.later b14)
 have Kg0_14 := hid (Kg0_13.out.later b14)
 have Kg1_14 := hid (Kg1_13.out.later b14)
 clear b14 B13 KA0_13 Ow0r_13 Ow1r_13 Kw0_13 Kw1_13 Ox0_13 Kx0_13 Ox2_13 Ox4_13 Og0r_13 Og1r_13 Kg0_13 Kg1_13
 obtain ⟨ca0, ca1, ca2, ca3, ca4, ca5, ca6, ca7, ca8, ca9, ca10⟩ := cells11 Kg1_14.out
 obtain ⟨cb0, cb1, cb2, cb3, cb4, cb5, cb6, cb7, cb8, cb9, cb10⟩ := cells11 Kw1_14.out
 go_wp2_with fail
 refine (eqFrame Sg1 Sw1 R1 x14 Og1r_14.out.rd Ow1r_14.out.rd HRL1.out).mono ?_
 rintro e x15 ⟨rfl, b15⟩
 clear ca0 ca1 ca2 ca3 ca4 ca5 ca6 ca7 ca8 ca9 ca10
 clear cb0 cb1 cb2 cb3 cb4 cb5 cb6 cb7 cb8 cb9 cb10
 have L15 := hid (b15.size)
 have B15 := hid (B14.out.trans (b15.mono B14.out.size))
 have KA0_15 := hid (KA0_14.out.later b15)
 have Ow0r_15 := hid (Ow0r_14.out.later b15)
 have Ow1r_15 := hid (Ow1r_14.out.later b15)
 have Kw0_15 := hid (Kw0_14.out.later b15)
 have Kw1_15 := hid (Kw1_14.out.later b15)
 have Ox0_15 := hid (Ox0_14.out.later b15)
 have Kx0_15 := hid (Kx0_14.out.later b15)
 have Ox2_15 := hid (Ox2_14.out.later b15)
 have Ox4_15 := hid (Ox4_14.out.later b15)
 have Og0r_15 := hid (Og0r_14.out.later b15)
 have Og1r_15 := hid (Og1r_14.out.later b15)
 have Kg0_15 := hid (Kg0_14.out.later b15)
 have Kg1_15 := hid (Kg1_14.out.later b15)
 clear b15 B14 KA0_14 Ow0r_14 Ow1r_14 Kw0_14 Kw1_14 Ox0_14 Kx0_14 Ox2_14 Ox4_14 Og0r_14 Og1r_14 Kg0_14 Kg1_14
 go_upto_region 16 with fail
 go_cut [86] from 82 to 85 (fun sv wx => sv = .bool false ∧ Below x15.heap.size x15 wx)
 case first =>
  rename_i J K' hRJ hMet
  generalize hA : Act.mk _ _ = A
  have a5' : A.eval (.tmp 5) = .pointer (some ⟨ga0, 0, none⟩) := by rw [← hA]; rfl
  have a15' : A.eval (.tmp 15) = .pointer (some ⟨gx0, 0, none⟩) := by rw [← hA]; rfl
  have asz : A.tmps.size = 185 := by rw [← hA]; rfl
  have hKA : ∀ wx, Below x15.heap.size x15 wx → Blk wx ga0 65 [.int .i64 D0.n, .slice S0.key.a S0.key.n S0.key.c, .int .i64 D0.seq, .int .i64 D0.win.top, .slice S0.win.bits.a S0.win.bits.n S0.win.bits.c] := fun wx hb => KA0_15.out.later hb
  have hKB : ∀ wx, Below x15.heap.size x15 wx → Blk wx gx0 41 [.int .i64 D0.n, .slice Sx0.key.a Sx0.key.n Sx0.key.c, .int .i64 D0.seq, .int .i64 D0.win.top, .slice Sx0.win.bits.a Sx0.win.bits.n Sx0.win.bits.c] := fun wx hb => Kx0_15.out.later hb
  have hRS : ∀ wx, Below x15.heap.size x15 wx → EpRd wx S0 D0 := fun wx hb => HR0.out.later (B15.out.trans (hb.mono B15.out.size))
  have hRT : ∀ wx, Below x15.heap.size x15 wx → EpRd wx Sx0 D0 := fun wx hb => (Ox0_15.out.later hb).rd
  refine region_each (by kernel_rfl) [82, 83, 84, 85] 4 (fun i => [82, 83, 84, 85].getD i 0) (fun _ => 0)
   (fun i gB v wx => match i with
    | 0 => v = .agg #[.int .i64 D0.n, .slice Sx0.key.a Sx0.key.n Sx0.key.c, .int .i64 D0.seq, .int .i64 D0.win.top, .slice Sx0.win.bits.a Sx0.win.bits.n Sx0.win.bits.c]
    | 1 => v = .agg #[.int .i64 D0.n, .slice S0.key.a S0.key.n S0.key.c, .int .i64 D0.seq, .int .i64 D0.win.top, .slice S0.win.bits.a S0.win.bits.n S0.win.bits.c]
    | 2 => ∃ S3, v = epV D0 S3 ∧ EpRd wx S3 D0
    | 3 => v = .bool true
    | _ => False) (fun wx => Below x15.heap.size x15 wx) (by kernel_rfl) (Below.refl _ _).drew ?_ ?_ ?_
  ·
   intro i gB v wx wy hi hF hb _
   match i, hi with
   | 0, _ => exact hF
   | 1, _ => exact hF
   | 2, _ => obtain ⟨S3, h0, h1⟩ := hF; exact ⟨S3, h0, h1.later hb⟩
   | 3, _ => exact hF
  ·
   intro i hi t ρ wx hB hp hd
   match i, hi with
   | 0, _ =>
    have e15 : (fr [82, 83, 84, 85] A t).eval (.tmp 15) = .pointer (some ⟨gx0, 0, none⟩) := (fr_eval_old _ _ _ 15 rfl).trans a15'
    obtain ⟨hc0, hc1, hc2, hc3, hc4⟩ := cells5 (hKB wx hB)
    refine op_run (v := .agg #[.int .i64 D0.n, .slice Sx0.key.a Sx0.key.n Sx0.key.c, .int .i64 D0.seq, .int .i64 D0.win.top, .slice Sx0.win.bits.a Sx0.win.bits.n Sx0.win.bits.c]) (w' := wx) rfl rfl ?_ ?_
    ·
     clear hp hd; have ec : ∀ v, (fr [82, 83, 84, 85] A t).eval (.const v) = v := fun _ => rfl; generalize (fr [82, 83, 84, 85] A t).eval = ev at ec e15 ⊢; go_simp
    ·
     exact ⟨_, 0, rfl, hB, Below.refl _ _, rfl, .inl rfl⟩
   | 1, _ =>
    have e5 : (fr [82, 83, 84, 85] A t).eval (.tmp 5) = .pointer (some ⟨ga0, 0, none⟩) := (fr_eval_old _ _ _ 5 rfl).trans a5'
    obtain ⟨hc0, hc1, hc2, hc3, hc4⟩ := cells5 (hKA wx hB)
    refine op_run (v := .agg #[.int .i64 D0.n, .slice S0.key.a S0.key.n S0.key.c, .int .i64 D0.seq, .int .i64 D0.win.top, .slice S0.win.bits.a S0.win.bits.n S0.win.bits.c]) (w' := wx) rfl rfl ?_ ?_
    ·
     clear hp hd; have ec : ∀ v, (fr [82, 83, 84, 85] A t).eval (.const v) = v := fun _ => rfl; generalize (fr [82, 83, 84, 85] A t).eval = ev at ec e5 ⊢; go_simp
    ·
     exact ⟨_, 0, rfl, hB, Below.refl _ _, rfl, .inl rfl⟩
   | 2, _ =>
    have e83 : (fr [82, 83, 84, 85] A t).eval (.tmp 83) = .agg #[.int .i64 D0.n, .slice S0.key.a S0.key.n S0.key.c, .int .i64 D0.seq, .int .i64 D0.win.top, .slice S0.win.bits.a S0.win.bits.n S0.win.bits.c] := (fr_eval _ _ _ 83 rfl (by rw [asz]; decide)).trans (hp 1 (pre_mem (by kernel_rfl)))
    refine op_call (f := 46) (args := #[.agg #[.int .i64 D0.n, .slice S0.key.a S0.key.n S0.key.c, .int .i64 D0.seq, .int .i64 D0.win.top, .slice S0.win.bits.a S0.win.bits.n S0.win.bits.c]]) rfl rfl ?_ (toEp S0 D0 wx (hRS wx hB) HLL0.out) ?_
    ·
     have ef : (fr [82, 83, 84, 85] A t).eval (.func 46) = .func (.func 46) #[] #[] := rfl; clear hp hd; have ec : ∀ v, (fr [82, 83, 84, 85] A t).eval (.const v) = v := fun _ => rfl; generalize (fr [82, 83, 84, 85] A t).eval = ev at ec e83 ef ⊢; go_simp
    ·
     rintro e wy ⟨S3, rfl, o3, b1⟩
     exact ⟨_, rfl, _, wx.heap.size, rfl, hB.trans (b1.mono hB.size), b1, ⟨S3, rfl, o3.rd⟩, .inl rfl⟩
   | 3, _ =>
    have e82 : (fr [82, 83, 84, 85] A t).eval (.tmp 82) = .agg #[.int .i64 D0.n, .slice Sx0.key.a Sx0.key.n Sx0.key.c, .int .i64 D0.seq, .int .i64 D0.win.top, .slice Sx0.win.bits.a Sx0.win.bits.n Sx0.win.bits.c] := (fr_eval _ _ _ 82 rfl (by rw [asz]; decide)).trans (hp 0 (pre_mem (by kernel_rfl)))
    obtain ⟨S32, hv2, q2_0⟩ := hp 2 (pre_mem (by kernel_rfl))
    have e84 : (fr [82, 83, 84, 85] A t).eval (.tmp 84) = epV D0 S32 := (fr_eval _ _ _ 84 rfl (by rw [asz]; decide)).trans hv2
    refine op_call (f := 47) (args := #[.agg #[.int .i64 D0.n, .slice Sx0.key.a Sx0.key.n Sx0.key.c, .int .i64 D0.seq, .int .i64 D0.win.top, .slice Sx0.win.bits.a Sx0.win.bits.n Sx0.win.bits.c], epV D0 S32]) rfl rfl ?_ (eqEp Sx0 S32 D0 wx (hRT wx hB) q2_0 HLL0.out) ?_
    ·
     have ef : (fr [82, 83, 84, 85] A t).eval (.func 47) = .func (.func 47) #[] #[] := rfl; clear hp hd q2_0; have ec : ∀ v, (fr [82, 83, 84, 85] A t).eval (.const v) = v := fun _ => rfl; generalize (fr [82, 83, 84, 85] A t).eval = ev at ec e82 e84 ef ⊢; go_simp
    ·
     rintro e wy ⟨rfl, b1⟩
     exact ⟨_, rfl, _, wx.heap.size, rfl, hB.trans (b1.mono hB.size), b1, rfl, .inl rfl⟩
  ·
   intro t ρ wx hB hF hne
   have hv3 := hF 3 (by decide)
   have e85 : (fr [82, 83, 84, 85] A t).eval (.tmp 85) = .bool true := (fr_eval _ _ _ 85 rfl (by rw [asz]; decide)).trans hv3
   clear hne
   refine op_wp rfl rfl ?_
   generalize hE : (fr [82, 83, 84, 85] A t).eval = ev at e85
   unfold Oper.wp
   rw [hE]
   clear hv3
   go_simp
   refine hMet _ _ (Met.intro (hRJ _ _ ⟨t 82, t 83, t 84, t 85, _, ⟨rfl, hB⟩, ?_⟩))
   rw [← hA]; rfl
 case rest =>
 obtain ⟨x16, hq16⟩ : ∃ x16, x16 = wc := ⟨_, rfl⟩
 subst hq16
 obtain ⟨rfl, b16⟩ := hcut
 have L16 := hid (b16.size)
 have B16 := hid (B15.out.trans (b16.mono B15.out.size))
 have KA0_16 := hid (KA0_15.out.later b16)
 have Ow0r_16 := hid (Ow0r_15.out.later b16)
 have Ow1r_16 := hid (Ow1r_15.out.later b16)
 have Kw0_16 := hid (Kw0_15.out.later b16)
 have Kw1_16 := hid (Kw1_15.out.later b16)
 have Ox0_16 := hid (Ox0_15.out.later b16)
 have Kx0_16 := hid (Kx0_15.out.later b16)
 have Ox2_16 := hid (Ox2_15.out.later b16)
 have Ox4_16 := hid (Ox4_15.out.later b16)
 have Og0r_16 := hid (Og0r_15.out.later b16)
 have Og1r_16 := hid (Og1r_15.out.later b16)
 have Kg0_16 := hid (Kg0_15.out.later b16)
 have Kg1_16 := hid (Kg1_15.out.later b16)
 clear b16 B15 KA0_15 Ow0r_15 Ow1r_15 Kw0_15 Kw1_15 Ox0_15 Kx0_15 Ox2_15 Ox4_15 Og0r_15 Og1r_15 Kg0_15 Kg1_15
 go_wp2_with fail
 refine (toB s2 l2 x16 (HR2.out.later B16.out) (by have := HL2.out; omega)).mono ?_
 rintro e x17 ⟨rfl, o, b17⟩
 obtain ⟨qy2, hq⟩ : ∃ q, x16.heap.size = q := ⟨_, rfl⟩
 rw [hq] at o ⊢
 have L17 := hid (b17.size)
 have B17 := hid (B16.out.trans (b17.mono B16.out.size))
 have KA0_17 := hid (KA0_16.out.later b17)
 have Ow0r_17 := hid (Ow0r_16.out.later b17)
 have Ow1r_17 := hid (Ow1r_16.out.later b17)
 have Kw0_17 := hid (Kw0_16.out.later b17)
 have Kw1_17 := hid (Kw1_16.out.later b17)
 have Ox0_17 := hid (Ox0_16.out.later b17)
 have Kx0_17 := hid (Kx0_16.out.later b17)
 have Ox2_17 := hid (Ox2_16.out.later b17)
 have Ox4_17 := hid (Ox4_16.out.later b17)
 have Og0r_17 := hid (Og0r_16.out.later b17)
 have Og1r_17 := hid (Og1r_16.out.later b17)
 have Kg0_17 := hid (Kg0_16.out.later b17)
 have Kg1_17 := hid (Kg1_16.out.later b17)
 clear b17 B16 KA0_16 Ow0r_16 Ow1r_16 Kw0_16 Kw1_16 Ox0_16 Kx0_16 Ox2_16 Ox4_16 Og0r_16 Og1r_16 Kg0_16 Kg1_16
 have Gqy2 : Hid (x16.heap.size = qy2) := hq
 have Oy2_17 := hid (o)
 clear o hq
 go_wp2_with fail
 refine (eqB ⟨some ⟨qx2, 0, none⟩, s2.n, s2.n⟩ ⟨some ⟨qy2, 0, none⟩, s2.n, s2.n⟩ l2 l2 x17 Ox2_17.out.rd Oy2_17.out.rd (by have := HL2.out; omega) (by have := HL2.out; omega)).mono ?_
 rw [decide_eq_true (show l2 = l2 from rfl)]
 rintro e x18 ⟨rfl, b18⟩
 have L18 := hid (b18.size)
 have B18 := hid (B17.out.trans (b18.mono B17.out.size))
 have KA0_18 := hid (KA0_17.out.later b18)
 have Ow0r_18 := hid (Ow0r_17.out.later b18)
 have Ow1r_18 := hid (Ow1r_17.out.later b18)
 have Kw0_18 := hid (Kw0_17.out.later b18)
 have Kw1_18 := hid (Kw1_17.out.later b18)
 have Ox0_18 := hid (Ox0_17.out.later b18)
 have Kx0_18 := hid (Kx0_17.out.later b18)
 have Ox2_18 := hid (Ox2_17.out.later b18)
 have Ox4_18 := hid (Ox4_17.out.later b18)
 have Og0r_18 := hid (Og0r_17.out.later b18)
 have Og1r_18 := hid (Og1r_17.out.later b18)
 have Kg0_18 := hid (Kg0_17.out.later b18)
 have Kg1_18 := hid (Kg1_17.out.later b18)
 have Oy2_18 := hid (Oy2_17.out.later b18)
 clear b18 B17 KA0_17 Ow0r_17 Ow1r_17 Kw0_17 Kw1_17 Ox0_17 Kx0_17 Ox2_17 Ox4_17 Og0r_17 Og1r_17 Kg0_17 Kg1_17 Oy2_17
 clear Oy2_18
 go_wp2_with fail
 refine (toB s4 l4 x18 (HR4.out.later B18.out) (by have := HL4.out; omega)).mono ?_
 rintro e x19 ⟨rfl, o, b19⟩
 obtain ⟨qy4, hq⟩ : ∃ q, x18.heap.size = q := ⟨_, rfl⟩
 rw [hq] at o ⊢
 have L19 := hid (b19.size)
 have B19 := hid (B18.out.trans (b19.mono B18.out.size))
 have KA0_19 := hid (KA0_18.out.later b19)
 have Ow0r_19 := hid (Ow0r_18.out.later b19)
 have Ow1r_19 := hid (Ow1r_18.out.later b19)
 have Kw0_19 := hid (Kw0_18.out.later b19)
 have Kw1_19 := hid (Kw1_18.out.later b19)
 have Ox0_19 := hid (Ox0_18.out.later b19)
 have Kx0_19 := hid (Kx0_18.out.later b19)
 have Ox2_19 := hid (Ox2_18.out.later b19)
 have Ox4_19 := hid (Ox4_18.out.later b19)
 have Og0r_19 := hid (Og0r_18.out.later b19)
 have Og1r_19 := hid (Og1r_18.out.later b19)
 have Kg0_19 := hid (Kg0_18.out.later b19)
 have Kg1_19 := hid (Kg1_18.out.later b19)
 clear b19 B18 KA0_18 Ow0r_18 Ow1r_18 Kw0_18 Kw1_18 Ox0_18 Kx0_18 Ox2_18 Ox4_18 Og0r_18 Og1r_18 Kg0_18 Kg1_18
 have Gqy4 : Hid (x18.heap.size = qy4) := hq
 have Oy4_19 := hid (o)
 clear o hq
 go_wp2_with fail
 refine (eqB ⟨some ⟨qx4, 0, none⟩, s4.n, s4.n⟩ ⟨some ⟨qy4, 0, none⟩, s4.n, s4.n⟩ l4 l4 x19 Ox4_19.out.rd Oy4_19.out.rd (by have := HL4.out; omega) (by have := HL4.out; omega)).mono ?_
 rw [decide_eq_true (show l4 = l4 from rfl)]
 rintro e x20 ⟨rfl, b20⟩
 have L20 := hid (b20.size)
 have B20 := hid (B19.out.trans (b20.mono B19.out.size))
 have KA0_20 := hid (KA0_19.out.later b20)
 have Ow0r_20 := hid (Ow0r_19.out.later b20)
 have Ow1r_20 := hid (Ow1r_19.out.later b20)
 have Kw0_20 := hid (Kw0_19.out.later b20)
 have Kw1_20 := hid (Kw1_19.out.later b20)
 have Ox0_20 := hid (Ox0_19.out.later b20)
 have Kx0_20 := hid (Kx0_19.out.later b20)
 have Ox2_20 := hid (Ox2_19.out.later b20)
 have Ox4_20 := hid (Ox4_19.out.later b20)
 have Og0r_20 := hid (Og0r_19.out.later b20)
 have Og1r_20 := hid (Og1r_19.out.later b20)
 have Kg0_20 := hid (Kg0_19.out.later b20)
 have Kg1_20 := hid (Kg1_19.out.later b20)
 have Oy4_20 := hid (Oy4_19.out.later b20)
 clear b20 B19 KA0_19 Ow0r_19 Ow1r_19 Kw0_19 Kw1_19 Ox0_19 Kx0_19 Ox2_19 Ox4_19 Og0r_19 Og1r_19 Kg0_19 Kg1_19 Oy4_19
 clear Oy4_20
 have hks0 : (epSum Sx0 : Int) ≤ 1048576 := by have := ep_sum_eq HR0.out Ox0_20.out.rd; omega
 obtain ⟨ca0, ca1, ca2, ca3, ca4⟩ := cells5 Kx0_20.out
 go_wp2_with fail
 refine (markEp Sx0 D0 (1 : Int) x20 x7.heap.size x8.heap.size Ox0_20.out (by have := hid8 L1 Gga L2 L3 L4 Gqp2 L5 Gqp4; have := hid8 L6 Zw_ L7 Gw_ L8 L9 Ggx0 L10; have := hid8 Gqx2 L11 Gqx4 L12 Zg_ L13 Gg_ L14; have := hid8 L15 L16 L17 Gqy2 L18 L19 Gqy4 L20; omega) (by omega) (by omega)).mono ?_
 rintro e x21 ⟨rfl, _, k21⟩
 clear ca0 ca1 ca2 ca3 ca4
 have L21 := hid (k21.size)
 have B21 := hid (B20.out.trans (k21.below (by have := hid8 L1 Gga L2 L3 L4 Gqp2 L5 Gqp4; have := hid8 L6 Zw_ L7 Gw_ L8 L9 Ggx0 L10; have := hid8 Gqx2 L11 Gqx4 L12 Zg_ L13 Gg_ L14; have := hid8 L15 L16 L17 Gqy2 L18 L19 Gqy4 L20; have := L21.out; omega) B20.out.size))
 have KA0_21 := hid (KA0_20.out.keep (k21.block _ KA0_20.out.lt (by have := hid8 L1 Gga L2 L3 L4 Gqp2 L5 Gqp4; have := hid8 L6 Zw_ L7 Gw_ L8 L9 Ggx0 L10; have := hid8 Gqx2 L11 Gqx4 L12 Zg_ L13 Gg_ L14; have := hid8 L15 L16 L17 Gqy2 L18 L19 Gqy4 L20; have := L21.out; omega)))
 have Ow0r_21 := hid (Ow0r_20.out.carry k21 (by have := hid8 L1 Gga L2 L3 L4 Gqp2 L5 Gqp4; have := hid8 L6 Zw_ L7 Gw_ L8 L9 Ggx0 L10; have := hid8 Gqx2 L11 Gqx4 L12 Zg_ L13 Gg_ L14; have := hid8 L15 L16 L17 Gqy2 L18 L19 Gqy4 L20; have := L21.out; omega))
 have Ow1r_21 := hid (Ow1r_20.out.carry k21 (by have := hid8 L1 Gga L2 L3 L4 Gqp2 L5 Gqp4; have := hid8 L6 Zw_ L7 Gw_ L8 L9 Ggx0 L10; have := hid8 Gqx2 L11 Gqx4 L12 Zg_ L13 Gg_ L14; have := hid8 L15 L16 L17 Gqy2 L18 L19 Gqy4 L20; have := L21.out; omega))
 have Kw0_21 := hid (Kw0_20.out.keep (k21.block _ Kw0_20.out.lt (by have := hid8 L1 Gga L2 L3 L4 Gqp2 L5 Gqp4; have := hid8 L6 Zw_ L7 Gw_ L8 L9 Ggx0 L10; have := hid8 Gqx2 L11 Gqx4 L12 Zg_ L13 Gg_ L14; have := hid8 L15 L16 L17 Gqy2 L18 L19 Gqy4 L20; have := L21.out; omega)))
 have Kw1_21 := hid (Kw1_20.out.keep (k21.block _ Kw1_20.out.lt (by have := hid8 L1 Gga L2 L3 L4 Gqp2 L5 Gqp4; have := hid8 L6 Zw_ L7 Gw_ L8 L9 Ggx0 L10; have := hid8 Gqx2 L11 Gqx4 L12 Zg_ L13 Gg_ L14; have := hid8 L15 L16 L17 Gqy2 L18 L19 Gqy4 L20; have := L21.out; omega)))
 have Ox2_21 := hid (Ox2_20.out.carry k21 (by have := hid8 L1 Gga L2 L3 L4 Gqp2 L5 Gqp4; have := hid8 L6 Zw_ L7 Gw_ L8 L9 Ggx0 L10; have := hid8 Gqx2 L11 Gqx4 L12 Zg_ L13 Gg_ L14; have := hid8 L15 L16 L17 Gqy2 L18 L19 Gqy4 L20; have := L21.out; omega))
 have Ox4_21 := hid (Ox4_20.out.carry k21 (by have := hid8 L1 Gga L2 L3 L4 Gqp2 L5 Gqp4; have := hid8 L6 Zw_ L7 Gw_ L8 L9 Ggx0 L10; have := hid8 Gqx2 L11 Gqx4 L12 Zg_ L13 Gg_ L14; have := hid8 L15 L16 L17 Gqy2 L18 L19 Gqy4 L20; have := L21.out; omega))
 have Og0r_21 := hid (Og0r_20.out.carry k21 (by have := hid8 L1 Gga L2 L3 L4 Gqp2 L5 Gqp4; have := hid8 L6 Zw_ L7 Gw_ L8 L9 Ggx0 L10; have := hid8 Gqx2 L11 Gqx4 L12 Zg_ L13 Gg_ L14; have := hid8 L15 L16 L17 Gqy2 L18 L19 Gqy4 L20; have := L21.out; omega))
 have Og1r_21 := hid (Og1r_20.out.carry k21 (by have := hid8 L1 Gga L2 L3 L4 Gqp2 L5 Gqp4; have := hid8 L6 Zw_ L7 Gw_ L8 L9 Ggx0 L10; have := hid8 Gqx2 L11 Gqx4 L12 Zg_ L13 Gg_ L14; have := hid8 L15 L16 L17 Gqy2 L18 L19 Gqy4 L20; have := L21.out; omega))
 have Kg0_21 := hid (Kg0_20.out.keep (k21.block _ Kg0_20.out.lt (by have := hid8 L1 Gga L2 L3 L4 Gqp2 L5 Gqp4; have := hid8 L6 Zw_ L7 Gw_ L8 L9 Ggx0 L10; have := hid8 Gqx2 L11 Gqx4 L12 Zg_ L13 Gg_ L14; have := hid8 L15 L16 L17 Gqy2 L18 L19 Gqy4 L20; have := L21.out; omega)))
 have Kg1_21 := hid (Kg1_20.out.keep (k21.block _ Kg1_20.out.lt (by have := hid8 L1 Gga L2 L3 L4 Gqp2 L5 Gqp4; have := hid8 L6 Zw_ L7 Gw_ L8 L9 Ggx0 L10; have := hid8 Gqx2 L11 Gqx4 L12 Zg_ L13 Gg_ L14; have := hid8 L15 L16 L17 Gqy2 L18 L19 Gqy4 L20; have := L21.out; omega)))
 clear k21 B20 KA0_20 Ow0r_20 Ow1r_20 Kw0_20 Kw1_20 Ox0_20 Kx0_20 Ox2_20 Ox4_20 Og0r_20 Og1r_20 Kg0_20 Kg1_20
 go_wp2_with fail
 refine (markB ⟨some ⟨qx2, 0, none⟩, s2.n, s2.n⟩ l2 ((1 : Int) + (epSum Sx0 : Int)) x21 qx2 x10.heap.size Ox2_21.out (by have := HL2.out; omega) (by omega) (by omega)).mono ?_
 rintro e x22 ⟨rfl, _, k22, _⟩
 have L22 := hid (k22.size)
 have B22 := hid (B21.out.trans (k22.below (by have := hid8 L1 Gga L2 L3 L4 Gqp2 L5 Gqp4; have := hid8 L6 Zw_ L7 Gw_ L8 L9 Ggx0 L10; have := hid8 Gqx2 L11 Gqx4 L12 Zg_ L13 Gg_ L14; have := hid8 L15 L16 L17 Gqy2 L18 L19 Gqy4 L20; have := hid2 L21 L22; omega) B21.out.size))
 have KA0_22 := hid (KA0_21.out.keep (k22.block _ KA0_21.out.lt (by have := hid8 L1 Gga L2 L3 L4 Gqp2 L5 Gqp4; have := hid8 L6 Zw_ L7 Gw_ L8 L9 Ggx0 L10; have := hid8 Gqx2 L11 Gqx4 L12 Zg_ L13 Gg_ L14; have := hid8 L15 L16 L17 Gqy2 L18 L19 Gqy4 L20; have := hid2 L21 L22; omega)))
 have Ow0r_22 := hid (Ow0r_21.out.carry k22 (by have := hid8 L1 Gga L2 L3 L4 Gqp2 L5 Gqp4; have := hid8 L6 Zw_ L7 Gw_ L8 L9 Ggx0 L10; have := hid8 Gqx2 L11 Gqx4 L12 Zg_ L13 Gg_ L14; have := hid8 L15 L16 L17 Gqy2 L18 L19 Gqy4 L20; have := hid2 L21 L22; omega))
 have Ow1r_22 := hid (Ow1r_21.out.carry k22 (by have := hid8 L1 Gga L2 L3 L4 Gqp2 L5 Gqp4; have := hid8 L6 Zw_ L7 Gw_ L8 L9 Ggx0 L10; have := hid8 Gqx2 L11 Gqx4 L12 Zg_ L13 Gg_ L14; have := hid8 L15 L16 L17 Gqy2 L18 L19 Gqy4 L20; have := hid2 L21 L22; omega))
 have Kw0_22 := hid (Kw0_21.out.keep (k22.block _ Kw0_21.out.lt (by have := hid8 L1 Gga L2 L3 L4 Gqp2 L5 Gqp4; have := hid8 L6 Zw_ L7 Gw_ L8 L9 Ggx0 L10; have := hid8 Gqx2 L11 Gqx4 L12 Zg_ L13 Gg_ L14; have := hid8 L15 L16 L17 Gqy2 L18 L19 Gqy4 L20; have := hid2 L21 L22; omega)))
 have Kw1_22 := hid (Kw1_21.out.keep (k22.block _ Kw1_21.out.lt (by have := hid8 L1 Gga L2 L3 L4 Gqp2 L5 Gqp4; have := hid8 L6 Zw_ L7 Gw_ L8 L9 Ggx0 L10; have := hid8 Gqx2 L11 Gqx4 L12 Zg_ L13 Gg_ L14; have := hid8 L15 L16 L17 Gqy2 L18 L19 Gqy4 L20; have := hid2 L21 L22; omega)))
 have Ox4_22 := hid (Ox4_21.out.carry k22 (by have := hid8 L1 Gga L2 L3 L4 Gqp2 L5 Gqp4; have := hid8 L6 Zw_ L7 Gw_ L8 L9 Ggx0 L10; have := hid8 Gqx2 L11 Gqx4 L12 Zg_ L13 Gg_ L14; have := hid8 L15 L16 L17 Gqy2 L18 L19 Gqy4 L20; have := hid2 L21 L22; omega))
 have Og0r_22 := hid (Og0r_21.out.carry k22 (by have := hid8 L1 Gga L2 L3 L4 Gqp2 L5 Gqp4; have := hid8 L6 Zw_ L7 Gw_ L8 L9 Ggx0 L10; have := hid8 Gqx2 L11 Gqx4 L12 Zg_ L13 Gg_ L14; have := hid8 L15 L16 L17 Gqy2 L18 L19 Gqy4 L20; have := hid2 L21 L22; omega))
 have Og1r_22 := hid (Og1r_21.out.carry k22 (by have := hid8 L1 Gga L2 L3 L4 Gqp2 L5 Gqp4; have := hid8 L6 Zw_ L7 Gw_ L8 L9 Ggx0 L10; have := hid8 Gqx2 L11 Gqx4 L12 Zg_ L13 Gg_ L14; have := hid8 L15 L16 L17 Gqy2 L18 L19 Gqy4 L20; have := hid2 L21 L22; omega))
 have Kg0_22 := hid (Kg0_21.out.keep (k22.block _ Kg0_21.out.lt (by have := hid8 L1 Gga L2 L3 L4 Gqp2 L5 Gqp4; have := hid8 L6 Zw_ L7 Gw_ L8 L9 Ggx0 L10; have := hid8 Gqx2 L11 Gqx4 L12 Zg_ L13 Gg_ L14; have := hid8 L15 L16 L17 Gqy2 L18 L19 Gqy4 L20; have := hid2 L21 L22; omega)))
 have Kg1_22 := hid (Kg1_21.out.keep (k22.block _ Kg1_21.out.lt (by have := hid8 L1 Gga L2 L3 L4 Gqp2 L5 Gqp4; have := hid8 L6 Zw_ L7 Gw_ L8 L9 Ggx0 L10; have := hid8 Gqx2 L11 Gqx4 L12 Zg_ L13 Gg_ L14; have := hid8 L15 L16 L17 Gqy2 L18 L19 Gqy4 L20; have := hid2 L21 L22; omega)))
 clear k22 B21 KA0_21 Ow0r_21 Ow1r_21 Kw0_21 Kw1_21 Ox2_21 Ox4_21 Og0r_21 Og1r_21 Kg0_21 Kg1_21
 go_wp2_with fail
 refine (markB ⟨some ⟨qx4, 0, none⟩, s4.n, s4.n⟩ l4 (((1 : Int) + (epSum Sx0 : Int)) + (s2.n : Int)) x22 qx4 x11.heap.size Ox4_22.out (by have := HL4.out; omega) (by omega) (by omega)).mono ?_
 rintro e x23 ⟨rfl, _, k23, _⟩
 have L23 := hid (k23.size)
 have B23 := hid (B22.out.trans (k23.below (by have := hid8 L1 Gga L2 L3 L4 Gqp2 L5 Gqp4; have := hid8 L6 Zw_ L7 Gw_ L8 L9 Ggx0 L10; have := hid8 Gqx2 L11 Gqx4 L12 Zg_ L13 Gg_ L14; have := hid8 L15 L16 L17 Gqy2 L18 L19 Gqy4 L20; have := hid3 L21 L22 L23; omega) B22.out.size))
 have KA0_23 := hid (KA0_22.out.keep (k23.block _ KA0_22.out.lt (by have := hid8 L1 Gga L2 L3 L4 Gqp2 L5 Gqp4; have := hid8 L6 Zw_ L7 Gw_ L8 L9 Ggx0 L10; have := hid8 Gqx2 L11 Gqx4 L12 Zg_ L13 Gg_ L14; have := hid8 L15 L16 L17 Gqy2 L18 L19 Gqy4 L20; have := hid3 L21 L22 L23; omega)))
 have Ow0r_23 := hid (Ow0r_22.out.carry k23 (by have := hid8 L1 Gga L2 L3 L4 Gqp2 L5 Gqp4; have := hid8 L6 Zw_ L7 Gw_ L8 L9 Ggx0 L10; have := hid8 Gqx2 L11 Gqx4 L12 Zg_ L13 Gg_ L14; have := hid8 L15 L16 L17 Gqy2 L18 L19 Gqy4 L20; have := hid3 L21 L22 L23; omega))
 have Ow1r_23 := hid (Ow1r_22.out.carry k23 (by have := hid8 L1 Gga L2 L3 L4 Gqp2 L5 Gqp4; have := hid8 L6 Zw_ L7 Gw_ L8 L9 Ggx0 L10; have := hid8 Gqx2 L11 Gqx4 L12 Zg_ L13 Gg_ L14; have := hid8 L15 L16 L17 Gqy2 L18 L19 Gqy4 L20; have := hid3 L21 L22 L23; omega))
 have Kw0_23 := hid (Kw0_22.out.keep (k23.block _ Kw0_22.out.lt (by have := hid8 L1 Gga L2 L3 L4 Gqp2 L5 Gqp4; have := hid8 L6 Zw_ L7 Gw_ L8 L9 Ggx0 L10; have := hid8 Gqx2 L11 Gqx4 L12 Zg_ L13 Gg_ L14; have := hid8 L15 L16 L17 Gqy2 L18 L19 Gqy4 L20; have := hid3 L21 L22 L23; omega)))
 have Kw1_23 := hid (Kw1_22.out.keep (k23.block _ Kw1_22.out.lt (by have := hid8 L1 Gga L2 L3 L4 Gqp2 L5 Gqp4; have := hid8 L6 Zw_ L7 Gw_ L8 L9 Ggx0 L10; have := hid8 Gqx2 L11 Gqx4 L12 Zg_ L13 Gg_ L14; have := hid8 L15 L16 L17 Gqy2 L18 L19 Gqy4 L20; have := hid3 L21 L22 L23; omega)))
 have Og0r_23 := hid (Og0r_22.out.carry k23 (by have := hid8 L1 Gga L2 L3 L4 Gqp2 L5 Gqp4; have := hid8 L6 Zw_ L7 Gw_ L8 L9 Ggx0 L10; have := hid8 Gqx2 L11 Gqx4 L12 Zg_ L13 Gg_ L14; have := hid8 L15 L16 L17 Gqy2 L18 L19 Gqy4 L20; have := hid3 L21 L22 L23; omega))
 have Og1r_23 := hid (Og1r_22.out.carry k23 (by have := hid8 L1 Gga L2 L3 L4 Gqp2 L5 Gqp4; have := hid8 L6 Zw_ L7 Gw_ L8 L9 Ggx0 L10; have := hid8 Gqx2 L11 Gqx4 L12 Zg_ L13 Gg_ L14; have := hid8 L15 L16 L17 Gqy2 L18 L19 Gqy4 L20; have := hid3 L21 L22 L23; omega))
 have Kg0_23 := hid (Kg0_22.out.keep (k23.block _ Kg0_22.out.lt (by have := hid8 L1 Gga L2 L3 L4 Gqp2 L5 Gqp4; have := hid8 L6 Zw_ L7 Gw_ L8 L9 Ggx0 L10; have := hid8 Gqx2 L11 Gqx4 L12 Zg_ L13 Gg_ L14; have := hid8 L15 L16 L17 Gqy2 L18 L19 Gqy4 L20; have := hid3 L21 L22 L23; omega)))
 have Kg1_23 := hid (Kg1_22.out.keep (k23.block _ Kg1_22.out.lt (by have := hid8 L1 Gga L2 L3 L4 Gqp2 L5 Gqp4; have := hid8 L6 Zw_ L7 Gw_ L8 L9 Ggx0 L10; have := hid8 Gqx2 L11 Gqx4 L12 Zg_ L13 Gg_ L14; have := hid8 L15 L16 L17 Gqy2 L18 L19 Gqy4 L20; have := hid3 L21 L22 L23; omega)))
 clear k23 B22 KA0_22 Ow0r_22 Ow1r_22 Kw0_22 Kw1_22 Ox4_22 Og0r_22 Og1r_22 Kg0_22 Kg1_22
 have hk0 : ¬ (((((1 : Int) + (epSum Sx0 : Int)) + (s2.n : Int)) + (s4.n : Int)) < 0) := by omega
 obtain ⟨ca0, ca1, ca2, ca3, ca4⟩ := cells5 Kg0_23.out
 obtain ⟨cb0, cb1, cb2, cb3, cb4⟩ := cells5 Kw0_23.out
 go_wp2_with fail
 refine (eqEp Sg0 Sw0 R0 x23 Og0r_23.out.rd Ow0r_23.out.rd HRL0.out).mono ?_
 rintro e x24 ⟨rfl, b24⟩
 clear ca0 ca1 ca2 ca3 ca4
 clear cb0 cb1 cb2 cb3 cb4
 have L24 := hid (b24.size)
 have B24 := hid (B23.out.trans (b24.mono B23.out.size))
 have KA0_24 := hid (KA0_23.out.later b24)
 have Ow0r_24 := hid (Ow0r_23.out.later b24)
 have Ow1r_24 := hid (Ow1r_23.out.later b24)
 have Kw0_24 := hid (Kw0_23.out.later b24)
 have Kw1_24 := hid (Kw1_23.out.later b24)
 have Og0r_24 := hid (Og0r_23.out.later b24)
 have Og1r_24 := hid (Og1r_23.out.later b24)
 have Kg0_24 := hid (Kg0_23.out.later b24)
 have Kg1_24 := hid (Kg1_23.out.later b24)
 clear b24 B23 KA0_23 Ow0r_23 Ow1r_23 Kw0_23 Kw1_23 Og0r_23 Og1r_23 Kg0_23 Kg1_23
 obtain ⟨ca0, ca1, ca2, ca3, ca4, ca5, ca6, ca7, ca8, ca9, ca10⟩ := cells11 Kg1_24.out
 obtain ⟨cb0, cb1, cb2, cb3, cb4, cb5, cb6, cb7, cb8, cb9, cb10⟩ := cells11 Kw1_24.out
 go_wp2_with fail
 refine (eqFrame Sg1 Sw1 R1 x24 Og1r_24.out.rd Ow1r_24.out.rd HRL1.out).mono ?_
 rintro e x25 ⟨rfl, b25⟩
 clear ca0 ca1 ca2 ca3 ca4 ca5 ca6 ca7 ca8 ca9 ca10
 clear cb0 cb1 cb2 cb3 cb4 cb5 cb6 cb7 cb8 cb9 cb10
 have L25 := hid (b25.size)
 have B25 := hid (B24.out.trans (b25.mono B24.out.size))
 have KA0_25 := hid (KA0_24.out.later b25)
 have Ow0r_25 := hid (Ow0r_24.out.later b25)
 have Ow1r_25 := hid (Ow1r_24.out.later b25)
 have Kw0_25 := hid (Kw0_24.out.later b25)
 have Kw1_25 := hid (Kw1_24.out.later b25)
 have Og0r_25 := hid (Og0r_24.out.later b25)
 have Og1r_25 := hid (Og1r_24.out.later b25)
 have Kg0_25 := hid (Kg0_24.out.later b25)
 have Kg1_25 := hid (Kg1_24.out.later b25)
 clear b25 B24 KA0_24 Ow0r_24 Ow1r_24 Kw0_24 Kw1_24 Og0r_24 Og1r_24 Kg0_24 Kg1_24
 have hms0 : (epSum Sg0 : Int) ≤ 2097152 := by have := ep_sum_le Og0r_25.out.rd HRS0.out; omega
 obtain ⟨ca0, ca1, ca2, ca3, ca4⟩ := cells5 Kg0_25.out
 go_wp2_with fail
 refine (markEp Sg0 R0 (1 : Int) x25 pg0 qg0 Og0r_25.out (by have := hid8 L1 Gga L2 L3 L4 Gqp2 L5 Gqp4; have := hid8 L6 Zw_ L7 Gw_ L8 L9 Ggx0 L10; have := hid8 Gqx2 L11 Gqx4 L12 Zg_ L13 Gg_ L14; have := hid8 L15 L16 L17 Gqy2 L18 L19 Gqy4 L20; have := hid5 L21 L22 L23 L24 L25; omega) (by omega) (by omega)).mono ?_
 rintro e x26 ⟨rfl, og, k26⟩
 clear ca0 ca1 ca2 ca3 ca4
 have L26 := hid (k26.size)
 have B26 := hid (B25.out.trans (k26.below (by have := hid8 L1 Gga L2 L3 L4 Gqp2 L5 Gqp4; have := hid8 L6 Zw_ L7 Gw_ L8 L9 Ggx0 L10; have := hid8 Gqx2 L11 Gqx4 L12 Zg_ L13 Gg_ L14; have := hid8 L15 L16 L17 Gqy2 L18 L19 Gqy4 L20; have := hid6 L21 L22 L23 L24 L25 L26; omega) B25.out.size))
 have KA0_26 := hid (KA0_25.out.keep (k26.block _ KA0_25.out.lt (by have := hid8 L1 Gga L2 L3 L4 Gqp2 L5 Gqp4; have := hid8 L6 Zw_ L7 Gw_ L8 L9 Ggx0 L10; have := hid8 Gqx2 L11 Gqx4 L12 Zg_ L13 Gg_ L14; have := hid8 L15 L16 L17 Gqy2 L18 L19 Gqy4 L20; have := hid6 L21 L22 L23 L24 L25 L26; omega)))
 have Ow0r_26 := hid (Ow0r_25.out.carry k26 (by have := hid8 L1 Gga L2 L3 L4 Gqp2 L5 Gqp4; have := hid8 L6 Zw_ L7 Gw_ L8 L9 Ggx0 L10; have := hid8 Gqx2 L11 Gqx4 L12 Zg_ L13 Gg_ L14; have := hid8 L15 L16 L17 Gqy2 L18 L19 Gqy4 L20; have := hid6 L21 L22 L23 L24 L25 L26; omega))
 have Ow1r_26 := hid (Ow1r_25.out.carry k26 (by have := hid8 L1 Gga L2 L3 L4 Gqp2 L5 Gqp4; have := hid8 L6 Zw_ L7 Gw_ L8 L9 Ggx0 L10; have := hid8 Gqx2 L11 Gqx4 L12 Zg_ L13 Gg_ L14; have := hid8 L15 L16 L17 Gqy2 L18 L19 Gqy4 L20; have := hid6 L21 L22 L23 L24 L25 L26; omega))
 have Kw0_26 := hid (Kw0_25.out.keep (k26.block _ Kw0_25.out.lt (by have := hid8 L1 Gga L2 L3 L4 Gqp2 L5 Gqp4; have := hid8 L6 Zw_ L7 Gw_ L8 L9 Ggx0 L10; have := hid8 Gqx2 L11 Gqx4 L12 Zg_ L13 Gg_ L14; have := hid8 L15 L16 L17 Gqy2 L18 L19 Gqy4 L20; have := hid6 L21 L22 L23 L24 L25 L26; omega)))
 have Kw1_26 := hid (Kw1_25.out.keep (k26.block _ Kw1_25.out.lt (by have := hid8 L1 Gga L2 L3 L4 Gqp2 L5 Gqp4; have := hid8 L6 Zw_ L7 Gw_ L8 L9 Ggx0 L10; have := hid8 Gqx2 L11 Gqx4 L12 Zg_ L13 Gg_ L14; have := hid8 L15 L16 L17 Gqy2 L18 L19 Gqy4 L20; have := hid6 L21 L22 L23 L24 L25 L26; omega)))
 have Og1r_26 := hid (Og1r_25.out.carry k26 (by have := hid8 L1 Gga L2 L3 L4 Gqp2 L5 Gqp4; have := hid8 L6 Zw_ L7 Gw_ L8 L9 Ggx0 L10; have := hid8 Gqx2 L11 Gqx4 L12 Zg_ L13 Gg_ L14; have := hid8 L15 L16 L17 Gqy2 L18 L19 Gqy4 L20; have := hid6 L21 L22 L23 L24 L25 L26; omega))
 have Kg0_26 := hid (Kg0_25.out.keep (k26.block _ Kg0_25.out.lt (by have := hid8 L1 Gga L2 L3 L4 Gqp2 L5 Gqp4; have := hid8 L6 Zw_ L7 Gw_ L8 L9 Ggx0 L10; have := hid8 Gqx2 L11 Gqx4 L12 Zg_ L13 Gg_ L14; have := hid8 L15 L16 L17 Gqy2 L18 L19 Gqy4 L20; have := hid6 L21 L22 L23 L24 L25 L26; omega)))
 have Kg1_26 := hid (Kg1_25.out.keep (k26.block _ Kg1_25.out.lt (by have := hid8 L1 Gga L2 L3 L4 Gqp2 L5 Gqp4; have := hid8 L6 Zw_ L7 Gw_ L8 L9 Ggx0 L10; have := hid8 Gqx2 L11 Gqx4 L12 Zg_ L13 Gg_ L14; have := hid8 L15 L16 L17 Gqy2 L18 L19 Gqy4 L20; have := hid6 L21 L22 L23 L24 L25 L26; omega)))
 clear k26 B25 KA0_25 Ow0r_25 Ow1r_25 Kw0_25 Kw1_25 Og0r_25 Og1r_25 Kg0_25 Kg1_25
 have Og0r_26 := hid (og)
 clear og
 have hms1 : (frSum Sg1 : Int) ≤ 600 := by have := fr_sum_le Og1r_26.out.rd HRS1.out; omega
 obtain ⟨ca0, ca1, ca2, ca3, ca4, ca5, ca6, ca7, ca8, ca9, ca10⟩ := cells11 Kg1_26.out
 go_wp2_with fail
 refine (markFrame Sg1 R1 ((1 : Int) + (epSum Sg0 : Int)) x26 pg1 qg1 Og1r_26.out (by have := hid8 L1 Gga L2 L3 L4 Gqp2 L5 Gqp4; have := hid8 L6 Zw_ L7 Gw_ L8 L9 Ggx0 L10; have := hid8 Gqx2 L11 Gqx4 L12 Zg_ L13 Gg_ L14; have := hid8 L15 L16 L17 Gqy2 L18 L19 Gqy4 L20; have := hid6 L21 L22 L23 L24 L25 L26; omega) (by omega) (by omega)).mono ?_
 rintro e x27 ⟨rfl, og, k27⟩
 clear ca0 ca1 ca2 ca3 ca4 ca5 ca6 ca7 ca8 ca9 ca10
 have L27 := hid (k27.size)
 have B27 := hid (B26.out.trans (k27.below (by have := hid8 L1 Gga L2 L3 L4 Gqp2 L5 Gqp4; have := hid8 L6 Zw_ L7 Gw_ L8 L9 Ggx0 L10; have := hid8 Gqx2 L11 Gqx4 L12 Zg_ L13 Gg_ L14; have := hid8 L15 L16 L17 Gqy2 L18 L19 Gqy4 L20; have := hid7 L21 L22 L23 L24 L25 L26 L27; omega) B26.out.size))
 have KA0_27 := hid (KA0_26.out.keep (k27.block _ KA0_26.out.lt (by have := hid8 L1 Gga L2 L3 L4 Gqp2 L5 Gqp4; have := hid8 L6 Zw_ L7 Gw_ L8 L9 Ggx0 L10; have := hid8 Gqx2 L11 Gqx4 L12 Zg_ L13 Gg_ L14; have := hid8 L15 L16 L17 Gqy2 L18 L19 Gqy4 L20; have := hid7 L21 L22 L23 L24 L25 L26 L27; omega)))
 have Ow0r_27 := hid (Ow0r_26.out.carry k27 (by have := hid8 L1 Gga L2 L3 L4 Gqp2 L5 Gqp4; have := hid8 L6 Zw_ L7 Gw_ L8 L9 Ggx0 L10; have := hid8 Gqx2 L11 Gqx4 L12 Zg_ L13 Gg_ L14; have := hid8 L15 L16 L17 Gqy2 L18 L19 Gqy4 L20; have := hid7 L21 L22 L23 L24 L25 L26 L27; omega))
 have Ow1r_27 := hid (Ow1r_26.out.carry k27 (by have := hid8 L1 Gga L2 L3 L4 Gqp2 L5 Gqp4; have := hid8 L6 Zw_ L7 Gw_ L8 L9 Ggx0 L10; have := hid8 Gqx2 L11 Gqx4 L12 Zg_ L13 Gg_ L14; have := hid8 L15 L16 L17 Gqy2 L18 L19 Gqy4 L20; have := hid7 L21 L22 L23 L24 L25 L26 L27; omega))
 have Kw0_27 := hid (Kw0_26.out.keep (k27.block _ Kw0_26.out.lt (by have := hid8 L1 Gga L2 L3 L4 Gqp2 L5 Gqp4; have := hid8 L6 Zw_ L7 Gw_ L8 L9 Ggx0 L10; have := hid8 Gqx2 L11 Gqx4 L12 Zg_ L13 Gg_ L14; have := hid8 L15 L16 L17 Gqy2 L18 L19 Gqy4 L20; have := hid7 L21 L22 L23 L24 L25 L26 L27; omega)))
 have Kw1_27 := hid (Kw1_26.out.keep (k27.block _ Kw1_26.out.lt (by have := hid8 L1 Gga L2 L3 L4 Gqp2 L5 Gqp4; have := hid8 L6 Zw_ L7 Gw_ L8 L9 Ggx0 L10; have := hid8 Gqx2 L11 Gqx4 L12 Zg_ L13 Gg_ L14; have := hid8 L15 L16 L17 Gqy2 L18 L19 Gqy4 L20; have := hid7 L21 L22 L23 L24 L25 L26 L27; omega)))
 have Kg0_27 := hid (Kg0_26.out.keep (k27.block _ Kg0_26.out.lt (by have := hid8 L1 Gga L2 L3 L4 Gqp2 L5 Gqp4; have := hid8 L6 Zw_ L7 Gw_ L8 L9 Ggx0 L10; have := hid8 Gqx2 L11 Gqx4 L12 Zg_ L13 Gg_ L14; have := hid8 L15 L16 L17 Gqy2 L18 L19 Gqy4 L20; have := hid7 L21 L22 L23 L24 L25 L26 L27; omega)))
 have Kg1_27 := hid (Kg1_26.out.keep (k27.block _ Kg1_26.out.lt (by have := hid8 L1 Gga L2 L3 L4 Gqp2 L5 Gqp4; have := hid8 L6 Zw_ L7 Gw_ L8 L9 Ggx0 L10; have := hid8 Gqx2 L11 Gqx4 L12 Zg_ L13 Gg_ L14; have := hid8 L15 L16 L17 Gqy2 L18 L19 Gqy4 L20; have := hid7 L21 L22 L23 L24 L25 L26 L27; omega)))
 have Og0r_27 := hid (Og0r_26.out.carry k27 (by have := hid8 L1 Gga L2 L3 L4 Gqp2 L5 Gqp4; have := hid8 L6 Zw_ L7 Gw_ L8 L9 Ggx0 L10; have := hid8 Gqx2 L11 Gqx4 L12 Zg_ L13 Gg_ L14; have := hid8 L15 L16 L17 Gqy2 L18 L19 Gqy4 L20; have := hid7 L21 L22 L23 L24 L25 L26 L27; omega))
 clear k27 B26 KA0_26 Ow0r_26 Ow1r_26 Kw0_26 Kw1_26 Og1r_26 Kg0_26 Kg1_26 Og0r_26
 have Og1r_27 := hid (og)
 clear og
 have hmm : ((((1 : Int) + (epSum Sg0 : Int)) + (frSum Sg1 : Int)) != (((1 : Int) + (epSum Sg0 : Int)) + (frSum Sg1 : Int))) = false := by simp
 obtain ⟨ca0, ca1, ca2, ca3, ca4⟩ := cells5 Kg0_27.out
 go_wp2_with fail
 refine (heldEp Sg0 R0 (1 : Int) x27 Og0r_27.out.rd (by omega) (by omega)).mono ?_
 rintro e x28 ⟨rfl, b28⟩
 clear ca0 ca1 ca2 ca3 ca4
 have L28 := hid (b28.size)
 have B28 := hid (B27.out.trans (b28.mono B27.out.size))
 have KA0_28 := hid (KA0_27.out.later b28)
 have Ow0r_28 := hid (Ow0r_27.out.later b28)
 have Ow1r_28 := hid (Ow1r_27.out.later b28)
 have Kw0_28 := hid (Kw0_27.out.later b28)
 have Kw1_28 := hid (Kw1_27.out.later b28)
 have Kg0_28 := hid (Kg0_27.out.later b28)
 have Kg1_28 := hid (Kg1_27.out.later b28)
 have Og0r_28 := hid (Og0r_27.out.later b28)
 have Og1r_28 := hid (Og1r_27.out.later b28)
 clear b28 B27 KA0_27 Ow0r_27 Ow1r_27 Kw0_27 Kw1_27 Kg0_27 Kg1_27 Og0r_27 Og1r_27
 have hq28_0 : ¬ ((1 : Int) + (epSum Sg0 : Int) < 0) := by omega
 obtain ⟨ca0, ca1, ca2, ca3, ca4, ca5, ca6, ca7, ca8, ca9, ca10⟩ := cells11 Kg1_28.out
 go_wp2_with fail
 refine (heldFrame Sg1 R1 ((1 : Int) + (epSum Sg0 : Int)) x28 Og1r_28.out.rd (by omega) (by omega)).mono ?_
 rintro e x29 ⟨rfl, b29⟩
 clear ca0 ca1 ca2 ca3 ca4 ca5 ca6 ca7 ca8 ca9 ca10
 have L29 := hid (b29.size)
 have B29 := hid (B28.out.trans (b29.mono B28.out.size))
 have KA0_29 := hid (KA0_28.out.later b29)
 have Ow0r_29 := hid (Ow0r_28.out.later b29)
 have Ow1r_29 := hid (Ow1r_28.out.later b29)
 have Kw0_29 := hid (Kw0_28.out.later b29)
 have Kw1_29 := hid (Kw1_28.out.later b29)
 have Kg0_29 := hid (Kg0_28.out.later b29)
 have Kg1_29 := hid (Kg1_28.out.later b29)
 have Og0r_29 := hid (Og0r_28.out.later b29)
 have Og1r_29 := hid (Og1r_28.out.later b29)
 clear b29 B28 KA0_28 Ow0r_28 Ow1r_28 Kw0_28 Kw1_28 Kg0_28 Kg1_28 Og0r_28 Og1r_28
 have hq29_1 : ¬ (((1 : Int) + (epSum Sg0 : Int)) + (frSum Sg1 : Int) < 0) := by omega
 obtain ⟨c0, c1, c2, c3, c4⟩ := cells5 KA0_29.out
 go_wp2_with fail
 refine (toEp S0 D0 x29 (HR0.out.later B29.out) HLL0.out).mono ?_
 rintro e x30 ⟨Sy0, rfl, o, b30⟩
 clear c0 c1 c2 c3 c4
 have L30 := hid (b30.size)
 have B30 := hid (B29.out.trans (b30.mono B29.out.size))
 have KA0_30 := hid (KA0_29.out.later b30)
 have Ow0r_30 := hid (Ow0r_29.out.later b30)
 have Ow1r_30 := hid (Ow1r_29.out.later b30)
 have Kw0_30 := hid (Kw0_29.out.later b30)
 have Kw1_30 := hid (Kw1_29.out.later b30)
 have Kg0_30 := hid (Kg0_29.out.later b30)
 have Kg1_30 := hid (Kg1_29.out.later b30)
 have Og0r_30 := hid (Og0r_29.out.later b30)
 have Og1r_30 := hid (Og1r_29.out.later b30)
 clear b30 B29 KA0_29 Ow0r_29 Ow1r_29 Kw0_29 Kw1_29 Kg0_29 Kg1_29 Og0r_29 Og1r_29
 have Oy0_30 := hid (o)
 clear o
 go_wp2_with fail
 refine (toB s2 l2 x30 (HR2.out.later B30.out) (by have := HL2.out; omega)).mono ?_
 rintro e x31 ⟨rfl, o, b31⟩
 obtain ⟨qy2, hq⟩ : ∃ q, x30.heap.size = q := ⟨_, rfl⟩
 rw [hq] at o ⊢
 have L31 := hid (b31.size)
 have B31 := hid (B30.out.trans (b31.mono B30.out.size))
 have KA0_31 := hid (KA0_30.out.later b31)
 have Ow0r_31 := hid (Ow0r_30.out.later b31)
 have Ow1r_31 := hid (Ow1r_30.out.later b31)
 have Kw0_31 := hid (Kw0_30.out.later b31)
 have Kw1_31 := hid (Kw1_30.out.later b31)
 have Kg0_31 := hid (Kg0_30.out.later b31)
 have Kg1_31 := hid (Kg1_30.out.later b31)
 have Og0r_31 := hid (Og0r_30.out.later b31)
 have Og1r_31 := hid (Og1r_30.out.later b31)
 have Oy0_31 := hid (Oy0_30.out.later b31)
 clear b31 B30 KA0_30 Ow0r_30 Ow1r_30 Kw0_30 Kw1_30 Kg0_30 Kg1_30 Og0r_30 Og1r_30 Oy0_30
 have Gqy2 : Hid (x30.heap.size = qy2) := hq
 have Oy2_31 := hid (o)
 clear o hq
 go_wp2_with fail
 refine (toB s4 l4 x31 (HR4.out.later B31.out) (by have := HL4.out; omega)).mono ?_
 rintro e x32 ⟨rfl, o, b32⟩
 obtain ⟨qy4, hq⟩ : ∃ q, x31.heap.size = q := ⟨_, rfl⟩
 rw [hq] at o ⊢
 have L32 := hid (b32.size)
 have B32 := hid (B31.out.trans (b32.mono B31.out.size))
 have KA0_32 := hid (KA0_31.out.later b32)
 have Ow0r_32 := hid (Ow0r_31.out.later b32)
 have Ow1r_32 := hid (Ow1r_31.out.later b32)
 have Kw0_32 := hid (Kw0_31.out.later b32)
 have Kw1_32 := hid (Kw1_31.out.later b32)
 have Kg0_32 := hid (Kg0_31.out.later b32)
 have Kg1_32 := hid (Kg1_31.out.later b32)
 have Og0r_32 := hid (Og0r_31.out.later b32)
 have Og1r_32 := hid (Og1r_31.out.later b32)
 have Oy0_32 := hid (Oy0_31.out.later b32)
 have Oy2_32 := hid (Oy2_31.out.later b32)
 clear b32 B31 KA0_31 Ow0r_31 Ow1r_31 Kw0_31 Kw1_31 Kg0_31 Kg1_31 Og0r_31 Og1r_31 Oy0_31 Oy2_31
 have Gqy4 : Hid (x31.heap.size = qy4) := hq
 have Oy4_32 := hid (o)
 clear o hq
 go_wp2_with fail
 refine (EpK.implEpSeal Sy0 D0 ⟨some ⟨qy2, 0, none⟩, s2.n, s2.n⟩ ⟨some ⟨qy4, 0, none⟩, s4.n, s4.n⟩ l2 l4 a1 a3 x32 (HT.out.later B32.out) (HER.out.later B32.out) Oy0_32.out.rd HLL0.out Oy2_32.out.rd Oy4_32.out.rd).mono ?_
 rw [HRD0.out, HRD1.out, HRD2.out]
 rintro e x33 ⟨Sh0, Sh1, ph0, qh0, ph1, qh1, rfl, o0, o1, z, b⟩
 have L33 := hid (b.size)
 have B33 := hid (B32.out.trans (b.mono B32.out.size))
 have KA0_33 := hid (KA0_32.out.later b)
 have Ow0r_33 := hid (Ow0r_32.out.later b)
 have Ow1r_33 := hid (Ow1r_32.out.later b)
 have Kw0_33 := hid (Kw0_32.out.later b)
 have Kw1_33 := hid (Kw1_32.out.later b)
 have Kg0_33 := hid (Kg0_32.out.later b)
 have Kg1_33 := hid (Kg1_32.out.later b)
 have Og0r_33 := hid (Og0r_32.out.later b)
 have Og1r_33 := hid (Og1r_32.out.later b)
 have Oy0_33 := hid (Oy0_32.out.later b)
 have Oy2_33 := hid (Oy2_32.out.later b)
 have Oy4_33 := hid (Oy4_32.out.later b)
 clear b B32 KA0_32 Ow0r_32 Ow1r_32 Kw0_32 Kw1_32 Kg0_32 Kg1_32 Og0r_32 Og1r_32 Oy0_32 Oy2_32 Oy4_32
 have Oh0r_33 := hid (o0)
 clear o0
 have Oh1r_33 := hid (o1)
 clear o1
 have Zh_ : Hid (x32.heap.size ≤ ph0 ∧ qh0 ≤ x33.heap.size ∧ x32.heap.size ≤ ph1 ∧ qh1 ≤ x33.heap.size ∧ (qh0 ≤ ph1 ∨ qh1 ≤ ph0)) := z
 clear z
 obtain ⟨x34, hx34⟩ : ∃ x34, (x33.alloc (.cells #[.int .i64 R0.n, .slice Sh0.key.a Sh0.key.n Sh0.key.c, .int .i64 R0.seq, .int .i64 R0.win.top, .slice Sh0.win.bits.a Sh0.win.bits.n Sh0.win.bits.c] 41)).alloc (.cells #[.int .i64 R1.kind, .int .i64 R1.id, .slice Sh1.cn.a Sh1.cn.n Sh1.cn.c, .slice Sh1.sn.a Sh1.sn.n Sh1.sn.c, .int .i64 R1.tick, .slice Sh1.cookie.a Sh1.cookie.n Sh1.cookie.c, .slice Sh1.proof.a Sh1.proof.n Sh1.proof.c, .int .i64 R1.epoch, .int .i64 R1.seq, .slice Sh1.body.a Sh1.body.n Sh1.body.c, .slice Sh1.tag.a Sh1.tag.n Sh1.tag.c] 27) = x34 := ⟨_, rfl⟩
 have HW34 := hid (hx34)
 have b : Below x33.heap.size x33 x34 := by rw [← hx34]; exact ((Below.refl _ _).alloc (Nat.le_refl _) _).alloc (by simp) _
 have KN0 : Blk x34 (x33.heap.size) 41 [.int .i64 R0.n, .slice Sh0.key.a Sh0.key.n Sh0.key.c, .int .i64 R0.seq, .int .i64 R0.win.top, .slice Sh0.win.bits.a Sh0.win.bits.n Sh0.win.bits.c] := by
  have q := Blk.new (x33) 41 [.int .i64 R0.n, .slice Sh0.key.a Sh0.key.n Sh0.key.c, .int .i64 R0.seq, .int .i64 R0.win.top, .slice Sh0.win.bits.a Sh0.win.bits.n Sh0.win.bits.c]
  rw [← hx34]; exact q.alloc _
 have KN1 : Blk x34 (x33.heap.size + 1) 27 [.int .i64 R1.kind, .int .i64 R1.id, .slice Sh1.cn.a Sh1.cn.n Sh1.cn.c, .slice Sh1.sn.a Sh1.sn.n Sh1.sn.c, .int .i64 R1.tick, .slice Sh1.cookie.a Sh1.cookie.n Sh1.cookie.c, .slice Sh1.proof.a Sh1.proof.n Sh1.proof.c, .int .i64 R1.epoch, .int .i64 R1.seq, .slice Sh1.body.a Sh1.body.n Sh1.body.c, .slice Sh1.tag.a Sh1.tag.n Sh1.tag.c] := by
  have q := Blk.new ((x33).alloc (.cells #[.int .i64 R0.n, .slice Sh0.key.a Sh0.key.n Sh0.key.c, .int .i64 R0.seq, .int .i64 R0.win.top, .slice Sh0.win.bits.a Sh0.win.bits.n Sh0.win.bits.c] 41)) 27 [.int .i64 R1.kind, .int .i64 R1.id, .slice Sh1.cn.a Sh1.cn.n Sh1.cn.c, .slice Sh1.sn.a Sh1.sn.n Sh1.sn.c, .int .i64 R1.tick, .slice Sh1.cookie.a Sh1.cookie.n Sh1.cookie.c, .slice Sh1.proof.a Sh1.proof.n Sh1.proof.c, .int .i64 R1.epoch, .int .i64 R1.seq, .slice Sh1.body.a Sh1.body.n Sh1.body.c, .slice Sh1.tag.a Sh1.tag.n Sh1.tag.c]
  rw [World.size_alloc] at q
  rw [← hx34]; exact q
 have HSZ34 : Hid (x34.heap.size = x33.heap.size + 2) := by rw [← hx34]; show _ = _; simp
 clear hx34
 have L34 := hid (b.size)
 have B34 := hid (B33.out.trans (b.mono B33.out.size))
 have KA0_34 := hid (KA0_33.out.later b)
 have Ow0r_34 := hid (Ow0r_33.out.later b)
 have Ow1r_34 := hid (Ow1r_33.out.later b)
 have Kw0_34 := hid (Kw0_33.out.later b)
 have Kw1_34 := hid (Kw1_33.out.later b)
 have Kg0_34 := hid (Kg0_33.out.later b)
 have Kg1_34 := hid (Kg1_33.out.later b)
 have Og0r_34 := hid (Og0r_33.out.later b)
 have Og1r_34 := hid (Og1r_33.out.later b)
 have Oy0_34 := hid (Oy0_33.out.later b)
 have Oy2_34 := hid (Oy2_33.out.later b)
 have Oy4_34 := hid (Oy4_33.out.later b)
 have Oh0r_34 := hid (Oh0r_33.out.later b)
 have Oh1r_34 := hid (Oh1r_33.out.later b)
 clear b B33 KA0_33 Ow0r_33 Ow1r_33 Kw0_33 Kw1_33 Kg0_33 Kg1_33 Og0r_33 Og1r_33 Oy0_33 Oy2_33 Oy4_33 Oh0r_33 Oh1r_33
 unfold epV frV
 go_upto_region 41 with fail
 rw [HW34.out]
 obtain ⟨gh0, hg0⟩ : ∃ g, x33.heap.size = g := ⟨_, rfl⟩
 obtain ⟨gh1, hg1⟩ : ∃ g, x33.heap.size + 1 = g := ⟨_, rfl⟩
 have Gh_ : Hid (x33.heap.size + 0 = gh0 ∧ x33.heap.size + 1 = gh1 ∧ x34.heap.size = x33.heap.size + 2) := ⟨by omega, by omega, HSZ34.out⟩
 rw [hg0] at KN0
 rw [hg1] at KN1
 rw [hg1, hg0]
 clear HW34 HSZ34 hg0 hg1
 have Kh0_34 := hid (KN0)
 clear KN0
 have Kh1_34 := hid (KN1)
 clear KN1
 clear Oy0_34
 clear Oy2_34
 clear Oy4_34
 obtain ⟨ca0, ca1, ca2, ca3, ca4⟩ := cells5 Kh0_34.out
 obtain ⟨cb0, cb1, cb2, cb3, cb4⟩ := cells5 Kw0_34.out
 go_wp2_with fail
 refine (eqEp Sh0 Sw0 R0 x34 Oh0r_34.out.rd Ow0r_34.out.rd HRL0.out).mono ?_
 rintro e x35 ⟨rfl, b35⟩
 clear ca0 ca1 ca2 ca3 ca4
 clear cb0 cb1 cb2 cb3 cb4
 have L35 := hid (b35.size)
 have B35 := hid (B34.out.trans (b35.mono B34.out.size))
 have KA0_35 := hid (KA0_34.out.later b35)
 have Ow0r_35 := hid (Ow0r_34.out.later b35)
 have Ow1r_35 := hid (Ow1r_34.out.later b35)
 have Kw0_35 := hid (Kw0_34.out.later b35)
 have Kw1_35 := hid (Kw1_34.out.later b35)
 have Kg0_35 := hid (Kg0_34.out.later b35)
 have Kg1_35 := hid (Kg1_34.out.later b35)
 have Og0r_35 := hid (Og0r_34.out.later b35)
 have Og1r_35 := hid (Og1r_34.out.later b35)
 have Oh0r_35 := hid (Oh0r_34.out.later b35)
 have Oh1r_35 := hid (Oh1r_34.out.later b35)
 have Kh0_35 := hid (Kh0_34.out.later b35)
 have Kh1_35 := hid (Kh1_34.out.later b35)
 clear b35 B34 KA0_34 Ow0r_34 Ow1r_34 Kw0_34 Kw1_34 Kg0_34 Kg1_34 Og0r_34 Og1r_34 Oh0r_34 Oh1r_34 Kh0_34 Kh1_34
 obtain ⟨ca0, ca1, ca2, ca3, ca4, ca5, ca6, ca7, ca8, ca9, ca10⟩ := cells11 Kh1_35.out
 obtain ⟨cb0, cb1, cb2, cb3, cb4, cb5, cb6, cb7, cb8, cb9, cb10⟩ := cells11 Kw1_35.out
 go_wp2_with fail
 refine (eqFrame Sh1 Sw1 R1 x35 Oh1r_35.out.rd Ow1r_35.out.rd HRL1.out).mono ?_
 rintro e x36 ⟨rfl, b36⟩
 clear ca0 ca1 ca2 ca3 ca4 ca5 ca6 ca7 ca8 ca9 ca10
 clear cb0 cb1 cb2 cb3 cb4 cb5 cb6 cb7 cb8 cb9 cb10
 have L36 := hid (b36.size)
 have B36 := hid (B35.out.trans (b36.mono B35.out.size))
 have KA0_36 := hid (KA0_35.out.later b36)
 have Ow0r_36 := hid (Ow0r_35.out.later b36)
 have Ow1r_36 := hid (Ow1r_35.out.later b36)
 have Kw0_36 := hid (Kw0_35.out.later b36)
 have Kw1_36 := hid (Kw1_35.out.later b36)
 have Kg0_36 := hid (Kg0_35.out.later b36)
 have Kg1_36 := hid (Kg1_35.out.later b36)
 have Og0r_36 := hid (Og0r_35.out.later b36)
 have Og1r_36 := hid (Og1r_35.out.later b36)
 have Oh0r_36 := hid (Oh0r_35.out.later b36)
 have Oh1r_36 := hid (Oh1r_35.out.later b36)
 have Kh0_36 := hid (Kh0_35.out.later b36)
 have Kh1_36 := hid (Kh1_35.out.later b36)
 clear b36 B35 KA0_35 Ow0r_35 Ow1r_35 Kw0_35 Kw1_35 Kg0_35 Kg1_35 Og0r_35 Og1r_35 Oh0r_35 Oh1r_35 Kh0_35 Kh1_35
 obtain ⟨ca0, ca1, ca2, ca3, ca4⟩ := cells5 Kg0_36.out
 go_wp2_with fail
 refine (heldEp Sg0 R0 (1 : Int) x36 Og0r_36.out.rd (by omega) (by omega)).mono ?_
 rintro e x37 ⟨rfl, b37⟩
 clear ca0 ca1 ca2 ca3 ca4
 have L37 := hid (b37.size)
 have B37 := hid (B36.out.trans (b37.mono B36.out.size))
 have KA0_37 := hid (KA0_36.out.later b37)
 have Ow0r_37 := hid (Ow0r_36.out.later b37)
 have Ow1r_37 := hid (Ow1r_36.out.later b37)
 have Kw0_37 := hid (Kw0_36.out.later b37)
 have Kw1_37 := hid (Kw1_36.out.later b37)
 have Kg0_37 := hid (Kg0_36.out.later b37)
 have Kg1_37 := hid (Kg1_36.out.later b37)
 have Og0r_37 := hid (Og0r_36.out.later b37)
 have Og1r_37 := hid (Og1r_36.out.later b37)
 have Oh0r_37 := hid (Oh0r_36.out.later b37)
 have Oh1r_37 := hid (Oh1r_36.out.later b37)
 have Kh0_37 := hid (Kh0_36.out.later b37)
 have Kh1_37 := hid (Kh1_36.out.later b37)
 clear b37 B36 KA0_36 Ow0r_36 Ow1r_36 Kw0_36 Kw1_36 Kg0_36 Kg1_36 Og0r_36 Og1r_36 Oh0r_36 Oh1r_36 Kh0_36 Kh1_36
 have hq37_0 : ¬ ((1 : Int) + (epSum Sg0 : Int) < 0) := by omega
 obtain ⟨ca0, ca1, ca2, ca3, ca4, ca5, ca6, ca7, ca8, ca9, ca10⟩ := cells11 Kg1_37.out
 go_wp2_with fail
 refine (heldFrame Sg1 R1 ((1 : Int) + (epSum Sg0 : Int)) x37 Og1r_37.out.rd (by omega) (by omega)).mono ?_
 rintro e x38 ⟨rfl, b38⟩
 clear ca0 ca1 ca2 ca3 ca4 ca5 ca6 ca7 ca8 ca9 ca10
 have L38 := hid (b38.size)
 have B38 := hid (B37.out.trans (b38.mono B37.out.size))
 have KA0_38 := hid (KA0_37.out.later b38)
 have Ow0r_38 := hid (Ow0r_37.out.later b38)
 have Ow1r_38 := hid (Ow1r_37.out.later b38)
 have Kw0_38 := hid (Kw0_37.out.later b38)
 have Kw1_38 := hid (Kw1_37.out.later b38)
 have Kg0_38 := hid (Kg0_37.out.later b38)
 have Kg1_38 := hid (Kg1_37.out.later b38)
 have Og0r_38 := hid (Og0r_37.out.later b38)
 have Og1r_38 := hid (Og1r_37.out.later b38)
 have Oh0r_38 := hid (Oh0r_37.out.later b38)
 have Oh1r_38 := hid (Oh1r_37.out.later b38)
 have Kh0_38 := hid (Kh0_37.out.later b38)
 have Kh1_38 := hid (Kh1_37.out.later b38)
 clear b38 B37 KA0_37 Ow0r_37 Ow1r_37 Kw0_37 Kw1_37 Kg0_37 Kg1_37 Og0r_37 Og1r_37 Oh0r_37 Oh1r_37 Kh0_37 Kh1_37
 have hq38_1 : ¬ (((1 : Int) + (epSum Sg0 : Int)) + (frSum Sg1 : Int) < 0) := by omega
 go_wp2
 go_ret
 exact ⟨rfl, B38.out⟩
theorem walk1 (D0 : EpD) (S0 : EpS) (a1 : Int) (a2 : Option Addr) (n2 c2 : Nat) (z2 : List Int) (a3 : Int) (a4 : Option Addr) (n4 c4 : Nat) (z4 : List Int) (w : World) (hT : Tab w) (hE : ErrAt w) (h0 : EpRd w S0 D0) (m0 : EpSmall S0) (h2 : IsRow .u8 w a2 n2 c2 z2) (h4 : IsRow .u8 w a4 n4 c4 z4) :
  Calls Tryz.prog 9 #[epV D0 S0, .int .i64 a1, .slice a2 n2 c2, .int .i64 a3, .slice a4 n4 c4] w fun e w' => e = .returned (.bool true) ∧ Below w.heap.size w w' := by
 obtain ⟨l2, r2⟩ := row_sl h2
 obtain ⟨l4, r4⟩ := row_sl h4
 exact walk D0 S0 a1 ⟨a2, n2, c2⟩ l2 a3 ⟨a4, n4, c4⟩ l4 w hT hE h0 m0 r2 r4
end Go.Proofs.YtmcflfpckpjphaaGreatDoor.LawEpSeal

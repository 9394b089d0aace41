/-
  The walk of the law FnOpensBent: at every code, of drawn epochs and frames, bent or not, what is refused leaves all as it was, and what is opened is taken; where the table of round words and the variable that errors.As reads are as the text lays them.
-/
import Derived.Test.YtmcflfpckpjphaaGreatDoorVdDrOp
import Derived.Test.YtmcflfpckpjphaaGreatDoorVdSmEp
import Derived.Test.YtmcflfpckpjphaaGreatDoorVdOpP
import Derived.Test.YtmcflfpckpjphaaGreatDoorVdEpU
import Derived.Test.YtmcflfpckpjphaaGreatDoorVdEpV
set_option maxRecDepth 100000
namespace Go.Proofs.YtmcflfpckpjphaaGreatDoor.LawOpensBent
open Go.RowKit Mem App Blk Draw Zone Res Comp ZoneI WnZ WinP WnK WnG WnBp FrZ FrP FrG FrQ FrL SlP SlQ EpZ EpL EpP EpQ EpJ OpP DrOp SmEp

theorem hasI (S : WnS) (D : WnD) (n : Int) (v : Bool) (w : World) (h : WnRd w S D) (hv : winHas D.top D.bits n = v) : Calls Tryz.prog 30 #[wnV D S, .int .i64 n] w fun e w' => e = .returned (.bool v) ∧ Below w.heap.size w w' := by
 subst hv; exact implWinHas S D n w h
theorem bigNo (a : Option Addr) (len cap : Nat) (w : World) (h : len ≤ 1048576) :
  Calls Tryz.prog 11 #[.slice a len cap] w fun e w' => e = .returned (.bool false) ∧ w = w' := by
 have h' : ¬ ((1048576 : Int) < (len : Int)) := by omega
 go_enter Tryz.func11, Tryz.ntmps11
 go_wp2
 go_ret
 exact ⟨rfl, rfl⟩
theorem bigYes (a : Option Addr) (len cap : Nat) (w : World) (h : 1048576 < len) :
  Calls Tryz.prog 11 #[.slice a len cap] w fun e w' => e = .returned (.bool true) ∧ w = w' := by
 have h' : (1048576 : Int) < (len : Int) := by omega
 go_enter Tryz.func11, Tryz.ntmps11
 go_wp2
 go_ret
 exact ⟨rfl, rfl⟩
set_option maxHeartbeats 16000000 in
theorem small (a : Option Addr) (len cap : Nat) (l : List Int) (w : World) (hT : Tab w) (hE : ErrAt w) (hl : len = l.length) (hr : Rd w a l) (hb : Bytes l) (hlen : len ≤ 1048576) :
  Calls Tryz.prog 5 #[.slice a len cap] w fun e w' => e = .returned (.bool true) ∧ Below w.heap.size w w' := by
 have HR := hid (hr)
 have HL : Hid (len = l.length) := hl
 have HB := hid (hb)
 clear hr hl hb
 have HT := hid (hT)
 have HER := hid (hE)
 clear hT hE
 have B0 : Hid (Below w.heap.size w w) := Below.refl _ _
 go_enter Tryz.func5, Tryz.ntmps5
 go_wp2_with fail
 refine (bigNo a len cap w hlen).mono ?_
 rintro e w0 ⟨rfl, rfl⟩
 go_wp2_with fail
 refine (drawEpOpen a len cap l w HL.out (HR.out.later B0.out (Nat.le_refl _)) HB.out hlen).mono ?_
 rintro e x1 ⟨D, S, ro, F, T, rfl, sh, oe, of, b⟩
 have L1 := hid (b.size)
 have B1 := hid (B0.out.trans (b.mono B0.out.size))
 clear b B0
 have HSH := hid (sh)
 clear sh
 have HLL : Hid (EpShort D 4194304) := ep_short_le HSH.out (by omega)
 have OE1 := hid (oe)
 have OF1 := hid (of)
 clear oe of
 obtain ⟨x2, hx2⟩ : ∃ zz, (x1.alloc (.cells #[.int .i64 D.n, .slice S.key.a S.key.n S.key.c, .int .i64 D.seq, .int .i64 D.win.top, .slice S.win.bits.a S.win.bits.n S.win.bits.c] 41)).alloc (.cells #[.int .i64 F.kind, .int .i64 F.id, .slice T.cn.a T.cn.n T.cn.c, .slice T.sn.a T.sn.n T.sn.c, .int .i64 F.tick, .slice T.cookie.a T.cookie.n T.cookie.c, .slice T.proof.a T.proof.n T.proof.c, .int .i64 F.epoch, .int .i64 F.seq, .slice T.body.a T.body.n T.body.c, .slice T.tag.a T.tag.n T.tag.c] 27) = zz := ⟨_, rfl⟩
 have HW2 := hid (hx2)
 have b2 : Below x1.heap.size x1 x2 := by rw [← hx2]; exact ((Below.refl _ _).alloc (Nat.le_refl _) _).alloc (by simp) _
 have KN1 : Blk x2 x1.heap.size 41 [.int .i64 D.n, .slice S.key.a S.key.n S.key.c, .int .i64 D.seq, .int .i64 D.win.top, .slice S.win.bits.a S.win.bits.n S.win.bits.c] := by rw [← hx2]; exact (Blk.new x1 _ _).alloc _
 have KN2 : Blk x2 (x1.heap.size + 1) 27 [.int .i64 F.kind, .int .i64 F.id, .slice T.cn.a T.cn.n T.cn.c, .slice T.sn.a T.sn.n T.sn.c, .int .i64 F.tick, .slice T.cookie.a T.cookie.n T.cookie.c, .slice T.proof.a T.proof.n T.proof.c, .int .i64 F.epoch, .int .i64 F.seq, .slice T.body.a T.body.n T.body.c, .slice T.tag.a T.tag.n T.tag.c] := by
  have q := Blk.new (x1.alloc (.cells #[.int .i64 D.n, .slice S.key.a S.key.n S.key.c, .int .i64 D.seq, .int .i64 D.win.top, .slice S.win.bits.a S.win.bits.n S.win.bits.c] 41)) 27 [.int .i64 F.kind, .int .i64 F.id, .slice T.cn.a T.cn.n T.cn.c, .slice T.sn.a T.sn.n T.sn.c, .int .i64 F.tick, .slice T.cookie.a T.cookie.n T.cookie.c, .slice T.proof.a T.proof.n T.proof.c, .int .i64 F.epoch, .int .i64 F.seq, .slice T.body.a T.body.n T.body.c, .slice T.tag.a T.tag.n T.tag.c]
  rw [World.size_alloc] at q
  rw [← hx2]; exact q
 clear hx2
 have L2 := hid (b2.size)
 have B2 := hid (B1.out.trans (b2.mono B1.out.size))
 have OE2 := hid (OE1.out.later b2)
 have OF2 := hid (OF1.out.later b2)
 clear b2 B1 OE1 OF1
 unfold epV frV
 go_upto_region 4 with fail
 rw [HW2.out]
 obtain ⟨ge, hge⟩ : ∃ g, x1.heap.size = g := ⟨_, rfl⟩
 obtain ⟨gf, hgf⟩ : ∃ g, x1.heap.size + 1 = g := ⟨_, rfl⟩
 rw [hge] at KN1
 rw [hgf] at KN2
 rw [hgf, hge]
 clear HW2 hge hgf
 have KE2 := hid (KN1)
 have KF2 := hid (KN2)
 clear KN1 KN2
 obtain ⟨X, hX⟩ : ∃ z : EpD, eoE D ro F = z := ⟨_, rfl⟩
 have HX : Hid (eoE D ro F = X) := hX
 clear hX
 obtain ⟨Lx, hLx⟩ : ∃ z : List Int, eoL D ro F = z := ⟨_, rfl⟩
 have HL2 : Hid (eoL D ro F = Lx) := hLx
 clear hLx
 obtain ⟨c, hc⟩ : ∃ z : Int, eoCode D ro F = z := ⟨_, rfl⟩
 have HC : Hid (eoCode D ro F = c) := hc
 clear hc
 have hcc : (c != c) = false := by simp
 obtain ⟨da0, da1, da2, da3, da4⟩ := cells5 KE2.out
 obtain ⟨db0, db1, db2, db3, db4, db5, db6, db7, db8, db9, db10⟩ := cells11 KF2.out
 go_wp2_with fail
 refine (EpU.implEpOpen S D T F ro x2 (HT.out.later B2.out) (HER.out.later B2.out) OE2.out HLL.out OF2.out).mono ?_
 unfold EpO.AnsP
 rw [HX.out, HL2.out, HC.out]
 rintro e x3 ⟨SX, SP, p0, q0, p1, q1, rfl, ox, op, _, b⟩
 clear da0 da1 da2 da3 da4
 clear db0 db1 db2 db3 db4 db5 db6 db7 db8 db9 db10
 have L3 := hid (b.size)
 have B3 := hid (B2.out.trans (b.mono B2.out.size))
 have OE3 := hid (OE2.out.later b)
 have OF3 := hid (OF2.out.later b)
 have KE3 := hid (KE2.out.later b)
 have KF3 := hid (KF2.out.later b)
 clear b B2 OE2 OF2 KE2 KF2
 have OX3 := hid (ox.rd)
 have OP3 := hid (op.rd)
 clear ox op
 obtain ⟨x4, hx4⟩ : ∃ x4, x3.alloc (.cells #[.int .i64 X.n, .slice SX.key.a SX.key.n SX.key.c, .int .i64 X.seq, .int .i64 X.win.top, .slice SX.win.bits.a SX.win.bits.n SX.win.bits.c] 41) = x4 := ⟨_, rfl⟩
 have HW4 := hid (hx4)
 have b4 : Below x3.heap.size x3 x4 := by rw [← hx4]; exact (Below.refl _ _).alloc (Nat.le_refl _) _
 have KN : Blk x4 x3.heap.size 41 [.int .i64 X.n, .slice SX.key.a SX.key.n SX.key.c, .int .i64 X.seq, .int .i64 X.win.top, .slice SX.win.bits.a SX.win.bits.n SX.win.bits.c] := by rw [← hx4]; exact Blk.new x3 _ _
 have HSZ4 : Hid (x4.heap.size = x3.heap.size + 1) := by rw [← hx4]; show _ = _; simp
 clear hx4
 have L4 := hid (b4.size)
 have B4 := hid (B3.out.trans (b4.mono B3.out.size))
 have OE4 := hid (OE3.out.later b4)
 have OF4 := hid (OF3.out.later b4)
 have KE4 := hid (KE3.out.later b4)
 have KF4 := hid (KF3.out.later b4)
 have OX4 := hid (OX3.out.later b4)
 have OP4 := hid (OP3.out.later b4)
 clear b4 B3 OE3 OF3 KE3 KF3 OX3 OP3
 unfold epV
 go_upto_region 5 with fail
 rw [HW4.out]
 obtain ⟨gx, hgx⟩ : ∃ g, x3.heap.size = g := ⟨_, rfl⟩
 have Ggx : Hid (x3.heap.size = gx ∧ x4.heap.size = gx + 1) := ⟨hgx, by rw [← hgx]; exact HSZ4.out⟩
 rw [hgx] at KN ⊢
 clear HW4 HSZ4 hgx
 have KX4 := hid (KN)
 clear KN
 obtain ⟨da0, da1, da2, da3, da4⟩ := cells5 KE4.out
 obtain ⟨db0, db1, db2, db3, db4, db5, db6, db7, db8, db9, db10⟩ := cells11 KF4.out
 go_wp2_with fail
 refine (EpV.specEpOpen S D T F ro x4 OE4.out HLL.out OF4.out).mono ?_
 unfold EpV.AnsP
 rw [HX.out, HL2.out, HC.out]
 rintro e x5 ⟨SX2, SP2, u0, v0, u1, v1, rfl, _, op2, _, b⟩
 clear da0 da1 da2 da3 da4
 clear db0 db1 db2 db3 db4 db5 db6 db7 db8 db9 db10
 have L5 := hid (b.size)
 have B5 := hid (B4.out.trans (b.mono B4.out.size))
 have OE5 := hid (OE4.out.later b)
 have OF5 := hid (OF4.out.later b)
 have KE5 := hid (KE4.out.later b)
 have KF5 := hid (KF4.out.later b)
 have OX5 := hid (OX4.out.later b)
 have OP5 := hid (OP4.out.later b)
 have KX5 := hid (KX4.out.later b)
 clear b B4 OE4 OF4 KE4 KF4 OX4 OP4 KX4
 have OQ5 := hid (op2.rd)
 clear op2
 obtain ⟨x6, hx6⟩ : ∃ x6, x5.alloc (.cells #[.int .i64 X.n, .slice SX2.key.a SX2.key.n SX2.key.c, .int .i64 X.seq, .int .i64 X.win.top, .slice SX2.win.bits.a SX2.win.bits.n SX2.win.bits.c] 41) = x6 := ⟨_, rfl⟩
 have HW6 := hid (hx6)
 have b6 : Below x5.heap.size x5 x6 := by rw [← hx6]; exact (Below.refl _ _).alloc (Nat.le_refl _) _
 have KN : Blk x6 x5.heap.size 41 [.int .i64 X.n, .slice SX2.key.a SX2.key.n SX2.key.c, .int .i64 X.seq, .int .i64 X.win.top, .slice SX2.win.bits.a SX2.win.bits.n SX2.win.bits.c] := by rw [← hx6]; exact Blk.new x5 _ _
 have HSZ6 : Hid (x6.heap.size = x5.heap.size + 1) := by rw [← hx6]; show _ = _; simp
 clear hx6
 have L6 := hid (b6.size)
 have B6 := hid (B5.out.trans (b6.mono B5.out.size))
 have OE6 := hid (OE5.out.later b6)
 have OF6 := hid (OF5.out.later b6)
 have KE6 := hid (KE5.out.later b6)
 have KF6 := hid (KF5.out.later b6)
 have OX6 := hid (OX5.out.later b6)
 have OP6 := hid (OP5.out.later b6)
 have KX6 := hid (KX5.out.later b6)
 have OQ6 := hid (OQ5.out.later b6)
 clear b6 B5 OE5 OF5 KE5 KF5 OX5 OP5 KX5 OQ5
 unfold epV
 go_upto_region 6 with fail
 rw [HW6.out]
 obtain ⟨gy, hgy⟩ : ∃ g, x5.heap.size = g := ⟨_, rfl⟩
 have Ggy : Hid (x5.heap.size = gy ∧ x6.heap.size = gy + 1) := ⟨hgy, by rw [← hgy]; exact HSZ6.out⟩
 rw [hgy] at KN ⊢
 clear HW6 HSZ6 hgy
 have KY6 := hid (KN)
 clear KN
 clear KY6
 go_wp2_with fail
 refine (SameV.sameV SP SP2 Lx Lx true x6 OP6.out OQ6.out (decide_eq_true rfl)).mono ?_
 rintro e y ⟨rfl, rfl⟩
 clear OQ6
 cases hc0 : (c != 0) with
 | true =>
  have hn : eoCode D ro F ≠ 0 := by rw [HC.out]; simpa using hc0
  have HXD : Hid (X = D) := by show _ = _; rw [← HX.out]; exact eoE_no hn
  have hl0 : ((SP.n : Int) == 0) = true := by have q := OP6.out.len; rw [← HL2.out, eoL_no hn] at q; rw [q]; rfl
  clear hn
  obtain ⟨da0, da1, da2, da3, da4⟩ := cells5 KX6.out
  obtain ⟨db0, db1, db2, db3, db4⟩ := cells5 KE6.out
  go_wp2_with fail
  refine (sameEpE SX S X D x6 OX6.out OE6.out HXD.out HLL.out).mono ?_
  rintro e x7 ⟨rfl, b⟩
  clear da0 da1 da2 da3 da4
  clear db0 db1 db2 db3 db4
  have L7 := hid (b.size)
  have B7 := hid (B6.out.trans (b.mono B6.out.size))
  have OE7 := hid (OE6.out.later b)
  have OF7 := hid (OF6.out.later b)
  have KE7 := hid (KE6.out.later b)
  have KF7 := hid (KF6.out.later b)
  have OX7 := hid (OX6.out.later b)
  have OP7 := hid (OP6.out.later b)
  have KX7 := hid (KX6.out.later b)
  clear b B6 OE6 OF6 KE6 KF6 OX6 OP6 KX6
  go_wp2
  go_ret
  exact ⟨rfl, B7.out⟩
 | false =>
  obtain rfl : c = 0 := by simpa using hc0
  clear hcc hc0
  have HOD := opened HC.out
  have HPL : Hid (_ ∧ _) := HOD
  clear HOD
  have HXE : Hid (X = { D with win := addD D.win F.seq }) := by show _ = _; rw [← HX.out]; exact eoE_yes HC.out
  have HXO : Hid (epOk X = true) := by show _ = _; rw [HXE.out]; exact took_epOk HC.out
  have HXH : Hid (winHas X.win.top X.win.bits F.seq = true) := by show _ = _; rw [HXE.out]; exact took_has HPL.out.2.2.1
  have HDH : Hid (winHas D.win.top D.win.bits F.seq = false) := had_not HPL.out.2.2.1
  have HXK : Hid (X.key = D.key ∧ X.seq = D.seq ∧ X.n = D.n) := by show _ ∧ _; rw [HXE.out]; exact ⟨rfl, rfl, rfl⟩
  obtain ⟨da0, da1, da2, da3, da4⟩ := cells5 KX6.out
  go_wp2_with fail
  refine (epOkV SX X true x6 OX6.out HXO.out).mono ?_
  rintro e x7 ⟨rfl, b⟩
  clear da0 da1 da2 da3 da4
  have L7 := hid (b.size)
  have B7 := hid (B6.out.trans (b.mono B6.out.size))
  have OE7 := hid (OE6.out.later b)
  have OF7 := hid (OF6.out.later b)
  have KE7 := hid (KE6.out.later b)
  have KF7 := hid (KF6.out.later b)
  have OX7 := hid (OX6.out.later b)
  have OP7 := hid (OP6.out.later b)
  have KX7 := hid (KX6.out.later b)
  clear b B6 OE6 OF6 KE6 KF6 OX6 OP6 KX6
  obtain ⟨da0, da1, da2, da3, da4⟩ := cells5 KX7.out
  obtain ⟨db0, db1, db2, db3, db4, db5, db6, db7, db8, db9, db10⟩ := cells11 KF7.out
  go_wp2_with fail
  refine (hasI SX.win X.win F.seq true x7 OX7.out.win HXH.out).mono ?_
  rintro e x8 ⟨rfl, b⟩
  clear da0 da1 da2 da3 da4
  clear db0 db1 db2 db3 db4 db5 db6 db7 db8 db9 db10
  have L8 := hid (b.size)
  have B8 := hid (B7.out.trans (b.mono B7.out.size))
  have OE8 := hid (OE7.out.later b)
  have OF8 := hid (OF7.out.later b)
  have KE8 := hid (KE7.out.later b)
  have KF8 := hid (KF7.out.later b)
  have OX8 := hid (OX7.out.later b)
  have OP8 := hid (OP7.out.later b)
  have KX8 := hid (KX7.out.later b)
  clear b B7 OE7 OF7 KE7 KF7 OX7 OP7 KX7
  obtain ⟨da0, da1, da2, da3, da4⟩ := cells5 KE8.out
  obtain ⟨db0, db1, db2, db3, db4, db5, db6, db7, db8, db9, db10⟩ := cells11 KF8.out
  go_wp2_with fail
  refine (hasI S.win D.win F.seq false x8 OE8.out.win HDH.out).mono ?_
  rintro e x9 ⟨rfl, b⟩
  clear da0 da1 da2 da3 da4
  clear db0 db1 db2 db3 db4 db5 db6 db7 db8 db9 db10
  have L9 := hid (b.size)
  have B9 := hid (B8.out.trans (b.mono B8.out.size))
  have OE9 := hid (OE8.out.later b)
  have OF9 := hid (OF8.out.later b)
  have KE9 := hid (KE8.out.later b)
  have KF9 := hid (KF8.out.later b)
  have OX9 := hid (OX8.out.later b)
  have OP9 := hid (OP8.out.later b)
  have KX9 := hid (KX8.out.later b)
  clear b B8 OE8 OF8 KE8 KF8 OX8 OP8 KX8
  have he1 : (X.seq == D.seq) = true := by simpa using HXK.out.2.1
  have he2 : (X.n == D.n) = true := by simpa using HXK.out.2.2
  obtain ⟨da0, da1, da2, da3, da4⟩ := cells5 KX9.out
  obtain ⟨db0, db1, db2, db3, db4⟩ := cells5 KE9.out
  go_wp2_with fail
  refine (SameV.sameV SX.key S.key X.key D.key true x9 OX9.out.key OE9.out.key (decide_eq_true HXK.out.1)).mono ?_
  rintro e y ⟨rfl, rfl⟩
  go_wp2
  go_ret
  exact ⟨rfl, B9.out⟩

theorem walk (a : Option Addr) (len cap : Nat) (zs : List Int) (w : World) (hT : Tab w) (hE : ErrAt w) (h : IsRow .u8 w a len cap zs) :
  Calls Tryz.prog 5 #[.slice a len cap] w fun e w' => e = .returned (.bool true) ∧ Below w.heap.size w w' := by
 obtain ⟨l, h1, h2, _, h4⟩ := h.read
 by_cases hl : len ≤ 1048576
 ·
  exact small a len cap l w hT hE h1 h2 h4 hl
 ·
  clear h h1 h2 h4
  go_enter Tryz.func5, Tryz.ntmps5
  go_wp2_with fail
  refine (bigYes a len cap w (by omega)).mono ?_
  rintro e w0 ⟨rfl, rfl⟩
  go_wp2
  go_ret
  exact ⟨rfl, Below.refl _ _⟩
end Go.Proofs.YtmcflfpckpjphaaGreatDoor.LawOpensBent

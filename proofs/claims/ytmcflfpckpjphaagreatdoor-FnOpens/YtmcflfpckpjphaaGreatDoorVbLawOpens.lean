/-
  The walk of the law FnOpens: at every code what an epoch seals another one with its key opens as it was, once, and each is numbered one higher; where the table of round words and the variable that errors.As reads are as the text lays them.
-/
import Derived.Test.YtmcflfpckpjphaaGreatDoorVbDrEp
import Derived.Test.YtmcflfpckpjphaaGreatDoorVbSmEp
import Derived.Test.YtmcflfpckpjphaaGreatDoorVbOpP
import Derived.Test.YtmcflfpckpjphaaGreatDoorVbEpK
import Derived.Test.YtmcflfpckpjphaaGreatDoorVbEpT
import Derived.Test.YtmcflfpckpjphaaGreatDoorVbEpU
import Derived.Test.YtmcflfpckpjphaaGreatDoorVbBas6
set_option maxRecDepth 100000
namespace Go.Proofs.YtmcflfpckpjphaaGreatDoor.LawOpens
open Go.RowKit Mem App Blk Draw Zone Res Comp ZoneI WnZ WinP WnK WnG WnBp FrZ FrP FrG FrQ FrL SlP SlQ EpZ EpL EpP EpQ EpJ OpP DrEp SmEp

theorem hasI (S : WnS) (D : WnD) (n : Int) (v : Bool) (w : World) (h : WnRd w S D) (hv : winHas D.top D.bits n = v) : Calls Tryz.prog 30 #[wnV D S, .int .i64 n] w fun e w' => e = .returned (.bool v) ∧ Below w.heap.size w w' := by
 subst hv; exact implWinHas S D n w h
theorem bigNo (a : Option Addr) (len cap : Nat) (w : World) (h : len ≤ 1048576) :
  Calls Tryz.prog 11 #[.slice a len cap] w fun e w' => e = .returned (.bool false) ∧ w = w' := by
 have h' : ¬ ((1048576 : Int) < (len : Int)) := by omega
 go_enter Tryz.func11, Tryz.ntmps11
 go_wp2
 go_ret
 exact ⟨rfl, rfl⟩
theorem bigYes (a : Option Addr) (len cap : Nat) (w : World) (h : 1048576 < len) :
  Calls Tryz.prog 11 #[.slice a len cap] w fun e w' => e = .returned (.bool true) ∧ w = w' := by
 have h' : (1048576 : Int) < (len : Int) := by omega
 go_enter Tryz.func11, Tryz.ntmps11
 go_wp2
 go_ret
 exact ⟨rfl, rfl⟩
set_option maxHeartbeats 16000000 in
theorem small (a : Option Addr) (len cap : Nat) (l : List Int) (w : World) (hT : Tab w) (hE : ErrAt w) (hl : len = l.length) (hr : Rd w a l) (hb : Bytes l) (hlen : len ≤ 1048576) :
  Calls Tryz.prog 4 #[.slice a len cap] w fun e w' => e = .returned (.bool true) ∧ Below w.heap.size w w' := by
 have HR := hid (hr)
 have HL : Hid (len = l.length) := hl
 have HB := hid (hb)
 clear hr hl hb
 have HT := hid (hT)
 have HER := hid (hE)
 clear hT hE
 have B0 : Hid (Below w.heap.size w w) := Below.refl _ _
 go_enter Tryz.func4, Tryz.ntmps4
 go_wp2_with fail
 refine (bigNo a len cap w hlen).mono ?_
 rintro e w0 ⟨rfl, rfl⟩
 go_wp2_with fail
 refine (drawEpSeal a len cap l w HL.out (HR.out.later B0.out (Nat.le_refl _)) HB.out hlen).mono ?_
 rintro e x1 ⟨D, S, ro, Q, sn, kd, P, lp, rfl, sh, -, oe, oq, op, b⟩
 have L1 := hid (b.size)
 have B1 := hid (B0.out.trans (b.mono B0.out.size))
 clear b B0
 have HSH := hid (sh)
 clear sh
 have HLL : Hid (EpShort D 4194304) := ep_short_le HSH.out (by omega)
 have OE1 := hid (oe)
 have OQ1 := hid (oq)
 have OP1 := hid (op)
 clear oe oq op
 obtain ⟨x2, hx2⟩ : ∃ x2, x1.alloc (.cells #[.int .i64 D.n, .slice S.key.a S.key.n S.key.c, .int .i64 D.seq, .int .i64 D.win.top, .slice S.win.bits.a S.win.bits.n S.win.bits.c] 41) = x2 := ⟨_, rfl⟩
 have HW2 := hid (hx2)
 have b2 : Below x1.heap.size x1 x2 := by rw [← hx2]; exact (Below.refl _ _).alloc (Nat.le_refl _) _
 have KN : Blk x2 x1.heap.size 41 [.int .i64 D.n, .slice S.key.a S.key.n S.key.c, .int .i64 D.seq, .int .i64 D.win.top, .slice S.win.bits.a S.win.bits.n S.win.bits.c] := by rw [← hx2]; exact Blk.new x1 _ _
 have HSZ2 : Hid (x2.heap.size = x1.heap.size + 1) := by rw [← hx2]; show _ = _; simp
 clear hx2
 have L2 := hid (b2.size)
 have B2 := hid (B1.out.trans (b2.mono B1.out.size))
 have OE2 := hid (OE1.out.later b2)
 have OQ2 := hid (OQ1.out.later b2)
 have OP2 := hid (OP1.out.later b2)
 clear b2 B1 OE1 OQ1 OP1
 unfold epV
 go_upto_region 4 with fail
 rw [HW2.out]
 obtain ⟨ge, hge⟩ : ∃ g, x1.heap.size = g := ⟨_, rfl⟩
 have Gge : Hid (x1.heap.size = ge ∧ x2.heap.size = ge + 1) := ⟨hge, by rw [← hge]; exact HSZ2.out⟩
 rw [hge] at KN ⊢
 clear HW2 HSZ2 hge
 have KE2 := hid (KN)
 clear KN
 obtain ⟨X, hX⟩ : ∃ z : EpD, esE D ro sn kd lp = z := ⟨_, rfl⟩
 have HX : Hid (esE D ro sn kd lp = X) := hX
 clear hX
 obtain ⟨R, hR⟩ : ∃ z : FrD, esF D ro sn kd lp = z := ⟨_, rfl⟩
 have HRF : Hid (esF D ro sn kd lp = R) := hR
 clear hR
 obtain ⟨c, hc⟩ : ∃ z : Int, esCode D ro sn kd lp = z := ⟨_, rfl⟩
 have HC : Hid (esCode D ro sn kd lp = c) := hc
 clear hc
 have hcc : (c != c) = false := by simp
 obtain ⟨da0, da1, da2, da3, da4⟩ := cells5 KE2.out
 go_wp2_with fail
 refine (EpK.implEpSeal S D Q P sn lp ro kd x2 (HT.out.later B2.out) (HER.out.later B2.out) OE2.out HLL.out OQ2.out OP2.out).mono ?_
 unfold EpK.AnsQ
 rw [HX.out, HRF.out, HC.out]
 rintro e x3 ⟨SX, SR, p0, q0, p1, q1, rfl, ox, of, _, b⟩
 clear da0 da1 da2 da3 da4
 have L3 := hid (b.size)
 have B3 := hid (B2.out.trans (b.mono B2.out.size))
 have OE3 := hid (OE2.out.later b)
 have OQ3 := hid (OQ2.out.later b)
 have OP3 := hid (OP2.out.later b)
 have KE3 := hid (KE2.out.later b)
 clear b B2 OE2 OQ2 OP2 KE2
 have OX3 := hid (ox.rd)
 have OF3 := hid (of.rd)
 clear ox of
 obtain ⟨x4, hx4⟩ : ∃ zz, (x3.alloc (.cells #[.int .i64 X.n, .slice SX.key.a SX.key.n SX.key.c, .int .i64 X.seq, .int .i64 X.win.top, .slice SX.win.bits.a SX.win.bits.n SX.win.bits.c] 41)).alloc (.cells #[.int .i64 R.kind, .int .i64 R.id, .slice SR.cn.a SR.cn.n SR.cn.c, .slice SR.sn.a SR.sn.n SR.sn.c, .int .i64 R.tick, .slice SR.cookie.a SR.cookie.n SR.cookie.c, .slice SR.proof.a SR.proof.n SR.proof.c, .int .i64 R.epoch, .int .i64 R.seq, .slice SR.body.a SR.body.n SR.body.c, .slice SR.tag.a SR.tag.n SR.tag.c] 27) = zz := ⟨_, rfl⟩
 have HW4 := hid (hx4)
 have b4 : Below x3.heap.size x3 x4 := by rw [← hx4]; exact ((Below.refl _ _).alloc (Nat.le_refl _) _).alloc (by simp) _
 have KN1 : Blk x4 x3.heap.size 41 [.int .i64 X.n, .slice SX.key.a SX.key.n SX.key.c, .int .i64 X.seq, .int .i64 X.win.top, .slice SX.win.bits.a SX.win.bits.n SX.win.bits.c] := by rw [← hx4]; exact (Blk.new x3 _ _).alloc _
 have KN2 : Blk x4 (x3.heap.size + 1) 27 [.int .i64 R.kind, .int .i64 R.id, .slice SR.cn.a SR.cn.n SR.cn.c, .slice SR.sn.a SR.sn.n SR.sn.c, .int .i64 R.tick, .slice SR.cookie.a SR.cookie.n SR.cookie.c, .slice SR.proof.a SR.proof.n SR.proof.c, .int .i64 R.epoch, .int .i64 R.seq, .slice SR.body.a SR.body.n SR.body.c, .slice SR.tag.a SR.tag.n SR.tag.c] := by
  have q := Blk.new (x3.alloc (.cells #[.int .i64 X.n, .slice SX.key.a SX.key.n SX.key.c, .int .i64 X.seq, .int .i64 X.win.top, .slice SX.win.bits.a SX.win.bits.n SX.win.bits.c] 41)) 27 [.int .i64 R.kind, .int .i64 R.id, .slice SR.cn.a SR.cn.n SR.cn.c, .slice SR.sn.a SR.sn.n SR.sn.c, .int .i64 R.tick, .slice SR.cookie.a SR.cookie.n SR.cookie.c, .slice SR.proof.a SR.proof.n SR.proof.c, .int .i64 R.epoch, .int .i64 R.seq, .slice SR.body.a SR.body.n SR.body.c, .slice SR.tag.a SR.tag.n SR.tag.c]
  rw [World.size_alloc] at q
  rw [← hx4]; exact q
 clear hx4
 have L4 := hid (b4.size)
 have B4 := hid (B3.out.trans (b4.mono B3.out.size))
 have OE4 := hid (OE3.out.later b4)
 have OQ4 := hid (OQ3.out.later b4)
 have OP4 := hid (OP3.out.later b4)
 have KE4 := hid (KE3.out.later b4)
 have OX4 := hid (OX3.out.later b4)
 have OF4 := hid (OF3.out.later b4)
 clear b4 B3 OE3 OQ3 OP3 KE3 OX3 OF3
 unfold epV frV
 go_upto_region 5 with fail
 rw [HW4.out]
 obtain ⟨gx, hgx⟩ : ∃ g, x3.heap.size = g := ⟨_, rfl⟩
 obtain ⟨gr, hgr⟩ : ∃ g, x3.heap.size + 1 = g := ⟨_, rfl⟩
 rw [hgx] at KN1
 rw [hgr] at KN2
 rw [hgr, hgx]
 clear HW4 hgx hgr
 have KX4 := hid (KN1)
 have KR4 := hid (KN2)
 clear KN1 KN2
 obtain ⟨da0, da1, da2, da3, da4⟩ := cells5 KE4.out
 go_wp2_with fail
 refine (EpT.specEpSeal S D Q P sn lp ro kd x4 OE4.out HLL.out OQ4.out OP4.out).mono ?_
 unfold EpT.AnsQ
 rw [HX.out, HRF.out, HC.out]
 rintro e x5 ⟨SX2, SR2, u0, v0, u1, v1, rfl, _, _, _, b⟩
 clear da0 da1 da2 da3 da4
 have L5 := hid (b.size)
 have B5 := hid (B4.out.trans (b.mono B4.out.size))
 have OE5 := hid (OE4.out.later b)
 have OQ5 := hid (OQ4.out.later b)
 have OP5 := hid (OP4.out.later b)
 have KE5 := hid (KE4.out.later b)
 have OX5 := hid (OX4.out.later b)
 have OF5 := hid (OF4.out.later b)
 have KX5 := hid (KX4.out.later b)
 have KR5 := hid (KR4.out.later b)
 clear b B4 OE4 OQ4 OP4 KE4 OX4 OF4 KX4 KR4
 obtain ⟨x6, hx6⟩ : ∃ zz, (x5.alloc (.cells #[.int .i64 X.n, .slice SX2.key.a SX2.key.n SX2.key.c, .int .i64 X.seq, .int .i64 X.win.top, .slice SX2.win.bits.a SX2.win.bits.n SX2.win.bits.c] 41)).alloc (.cells #[.int .i64 R.kind, .int .i64 R.id, .slice SR2.cn.a SR2.cn.n SR2.cn.c, .slice SR2.sn.a SR2.sn.n SR2.sn.c, .int .i64 R.tick, .slice SR2.cookie.a SR2.cookie.n SR2.cookie.c, .slice SR2.proof.a SR2.proof.n SR2.proof.c, .int .i64 R.epoch, .int .i64 R.seq, .slice SR2.body.a SR2.body.n SR2.body.c, .slice SR2.tag.a SR2.tag.n SR2.tag.c] 27) = zz := ⟨_, rfl⟩
 have HW6 := hid (hx6)
 have b6 : Below x5.heap.size x5 x6 := by rw [← hx6]; exact ((Below.refl _ _).alloc (Nat.le_refl _) _).alloc (by simp) _
 have KN1 : Blk x6 x5.heap.size 41 [.int .i64 X.n, .slice SX2.key.a SX2.key.n SX2.key.c, .int .i64 X.seq, .int .i64 X.win.top, .slice SX2.win.bits.a SX2.win.bits.n SX2.win.bits.c] := by rw [← hx6]; exact (Blk.new x5 _ _).alloc _
 have KN2 : Blk x6 (x5.heap.size + 1) 27 [.int .i64 R.kind, .int .i64 R.id, .slice SR2.cn.a SR2.cn.n SR2.cn.c, .slice SR2.sn.a SR2.sn.n SR2.sn.c, .int .i64 R.tick, .slice SR2.cookie.a SR2.cookie.n SR2.cookie.c, .slice SR2.proof.a SR2.proof.n SR2.proof.c, .int .i64 R.epoch, .int .i64 R.seq, .slice SR2.body.a SR2.body.n SR2.body.c, .slice SR2.tag.a SR2.tag.n SR2.tag.c] := by
  have q := Blk.new (x5.alloc (.cells #[.int .i64 X.n, .slice SX2.key.a SX2.key.n SX2.key.c, .int .i64 X.seq, .int .i64 X.win.top, .slice SX2.win.bits.a SX2.win.bits.n SX2.win.bits.c] 41)) 27 [.int .i64 R.kind, .int .i64 R.id, .slice SR2.cn.a SR2.cn.n SR2.cn.c, .slice SR2.sn.a SR2.sn.n SR2.sn.c, .int .i64 R.tick, .slice SR2.cookie.a SR2.cookie.n SR2.cookie.c, .slice SR2.proof.a SR2.proof.n SR2.proof.c, .int .i64 R.epoch, .int .i64 R.seq, .slice SR2.body.a SR2.body.n SR2.body.c, .slice SR2.tag.a SR2.tag.n SR2.tag.c]
  rw [World.size_alloc] at q
  rw [← hx6]; exact q
 clear hx6
 have L6 := hid (b6.size)
 have B6 := hid (B5.out.trans (b6.mono B5.out.size))
 have OE6 := hid (OE5.out.later b6)
 have OQ6 := hid (OQ5.out.later b6)
 have OP6 := hid (OP5.out.later b6)
 have KE6 := hid (KE5.out.later b6)
 have OX6 := hid (OX5.out.later b6)
 have OF6 := hid (OF5.out.later b6)
 have KX6 := hid (KX5.out.later b6)
 have KR6 := hid (KR5.out.later b6)
 clear b6 B5 OE5 OQ5 OP5 KE5 OX5 OF5 KX5 KR5
 unfold epV frV
 go_upto_region 6 with fail
 rw [HW6.out]
 obtain ⟨gu, hgu⟩ : ∃ g, x5.heap.size = g := ⟨_, rfl⟩
 obtain ⟨gv, hgv⟩ : ∃ g, x5.heap.size + 1 = g := ⟨_, rfl⟩
 rw [hgu] at KN1
 rw [hgv] at KN2
 rw [hgv, hgu]
 clear HW6 hgu hgv
 have KU6 := hid (KN1)
 have KV6 := hid (KN2)
 clear KN1 KN2
 clear KU6 KV6
 cases hc0 : (c != 0) with
 | true =>
  have hn : esCode D ro sn kd lp ≠ 0 := by rw [HC.out]; simpa using hc0
  have HXD : Hid (X = D) := by show _ = _; rw [← HX.out]; exact esE_no hn
  have HRZ : Hid (R = zeroF) := by show _ = _; rw [← HRF.out]; exact esF_no hn
  clear hn
  obtain ⟨da0, da1, da2, da3, da4⟩ := cells5 KX6.out
  obtain ⟨db0, db1, db2, db3, db4⟩ := cells5 KE6.out
  go_wp2_with fail
  refine (sameEpE SX S X D x6 OX6.out OE6.out HXD.out HLL.out).mono ?_
  rintro e x7 ⟨rfl, b⟩
  clear da0 da1 da2 da3 da4
  clear db0 db1 db2 db3 db4
  have L7 := hid (b.size)
  have B7 := hid (B6.out.trans (b.mono B6.out.size))
  have OE7 := hid (OE6.out.later b)
  have OQ7 := hid (OQ6.out.later b)
  have OP7 := hid (OP6.out.later b)
  have KE7 := hid (KE6.out.later b)
  have OX7 := hid (OX6.out.later b)
  have OF7 := hid (OF6.out.later b)
  have KX7 := hid (KX6.out.later b)
  have KR7 := hid (KR6.out.later b)
  clear b B6 OE6 OQ6 OP6 KE6 OX6 OF6 KX6 KR6
  obtain ⟨da0, da1, da2, da3, da4, da5, da6, da7, da8, da9, da10⟩ := cells11 KR7.out
  go_wp2_with fail
  refine (sameFrameE SR ⟨⟨none, 0, 0⟩, ⟨none, 0, 0⟩, ⟨none, 0, 0⟩, ⟨none, 0, 0⟩, ⟨none, 0, 0⟩, ⟨none, 0, 0⟩⟩ R zeroF x7 OF7.out (SealS.own_nil _ 0 0).rd HRZ.out).mono ?_
  rintro e x8 ⟨rfl, b⟩
  clear da0 da1 da2 da3 da4 da5 da6 da7 da8 da9 da10
  have L8 := hid (b.size)
  have B8 := hid (B7.out.trans (b.mono B7.out.size))
  have OE8 := hid (OE7.out.later b)
  have OQ8 := hid (OQ7.out.later b)
  have OP8 := hid (OP7.out.later b)
  have KE8 := hid (KE7.out.later b)
  have OX8 := hid (OX7.out.later b)
  have OF8 := hid (OF7.out.later b)
  have KX8 := hid (KX7.out.later b)
  have KR8 := hid (KR7.out.later b)
  clear b B7 OE7 OQ7 OP7 KE7 OX7 OF7 KX7 KR7
  go_wp2
  go_ret
  exact ⟨rfl, B8.out⟩
 | false =>
  obtain rfl : c = 0 := by simpa using hc0
  clear hcc
  have HSD := sealed HC.out
  have HPL : Hid (_ ∧ _) := HSD
  clear HSD
  have HXS : Hid (X.seq = D.seq + 1 ∧ X.win = D.win) := by show _ ∧ _; rw [← HX.out, esE_yes HC.out]; exact ⟨rfl, rfl⟩
  have HRS : Hid (R.seq = D.seq) := by show _ = _; rw [← HRF.out, HPL.out.2.2.1]; rfl
  have HXO : Hid (epOk X = true) := by show _ = _; rw [← HX.out, esE_yes HC.out]; exact next_ok HC.out
  have HDB : Hid (0 ≤ D.seq ∧ D.seq ≤ 281474976710655) := ⟨HPL.out.2.2.2.1, HPL.out.2.2.2.2⟩
  obtain ⟨O, hO⟩ : ∃ z : EpD, (⟨D.n, D.key, 0, ⟨-1, zeros⟩⟩ : EpD) = z := ⟨_, rfl⟩
  have HO : Hid ((⟨D.n, D.key, 0, ⟨-1, zeros⟩⟩ : EpD) = O) := hO
  clear hO
  have HON : Hid (newE D.n D.key = O) := by show _ = _; rw [← HO.out]; exact other_new HPL.out.1
  have HOC : Hid (eoCode O ro R = 0) := by show _ = _; rw [← HO.out, ← HRF.out]; exact opens HC.out
  have HOL : Hid (eoL O ro R = lp) := by show _ = _; rw [← HO.out, ← HRF.out]; exact opens_back OP6.out.bytes HC.out
  have HOS : Hid (EpShort O 4194304) := by rw [← HO.out]; exact ⟨HLL.out.key, short_big new_short⟩
  obtain ⟨Y, hY⟩ : ∃ z : EpD, eoE O ro R = z := ⟨_, rfl⟩
  have HY : Hid (eoE O ro R = Y) := hY
  clear hY
  have HYE : Hid (Y = { O with win := addD O.win R.seq }) := by show _ = _; rw [← HY.out]; exact eoE_yes HOC.out
  have HYO : Hid (epOk Y = true) := by show _ = _; rw [HYE.out]; exact took_epOk HOC.out
  have HYC : Hid (eoCode Y ro R = 3) := by show _ = _; rw [HYE.out]; exact again HOC.out
  have HYH : Hid (winHas Y.win.top Y.win.bits R.seq = true) := by show _ = _; rw [HYE.out]; exact took_has (opened HOC.out).2.2.1
  have HYS : Hid (EpShort Y 4194304) := by rw [HYE.out]; exact ⟨HOS.out.key, ⟨by show (addD O.win R.seq).bits.length ≤ _; have q := (add_short (D := O.win) R.seq (by rw [← HO.out]; exact short_mid new_short)).bits; omega⟩⟩
  have HZE : Hid (eoE Y ro R = Y) := eoE_no (by rw [HYC.out]; decide)
  have HZL : Hid (eoL Y ro R = []) := eoL_no (by rw [HYC.out]; decide)
  clear hc0
  obtain ⟨da0, da1, da2, da3, da4⟩ := cells5 KE6.out
  go_wp2_with fail
  refine (EpI.implEpNew D.n S.key D.key x6 OE6.out.key).mono ?_
  unfold AnsE
  rw [HON.out]
  rintro e x7 ⟨SO, rfl, oo, b⟩
  clear da0 da1 da2 da3 da4
  have L7 := hid (b.size)
  have B7 := hid (B6.out.trans (b.mono B6.out.size))
  have OE7 := hid (OE6.out.later b)
  have OQ7 := hid (OQ6.out.later b)
  have OP7 := hid (OP6.out.later b)
  have KE7 := hid (KE6.out.later b)
  have OX7 := hid (OX6.out.later b)
  have OF7 := hid (OF6.out.later b)
  have KX7 := hid (KX6.out.later b)
  have KR7 := hid (KR6.out.later b)
  clear b B6 OE6 OQ6 OP6 KE6 OX6 OF6 KX6 KR6
  have OO7 := hid (oo.rd)
  clear oo
  obtain ⟨x8, hx8⟩ : ∃ x8, x7.alloc (.cells #[.int .i64 O.n, .slice SO.key.a SO.key.n SO.key.c, .int .i64 O.seq, .int .i64 O.win.top, .slice SO.win.bits.a SO.win.bits.n SO.win.bits.c] 41) = x8 := ⟨_, rfl⟩
  have HW8 := hid (hx8)
  have b8 : Below x7.heap.size x7 x8 := by rw [← hx8]; exact (Below.refl _ _).alloc (Nat.le_refl _) _
  have KN : Blk x8 x7.heap.size 41 [.int .i64 O.n, .slice SO.key.a SO.key.n SO.key.c, .int .i64 O.seq, .int .i64 O.win.top, .slice SO.win.bits.a SO.win.bits.n SO.win.bits.c] := by rw [← hx8]; exact Blk.new x7 _ _
  have HSZ8 : Hid (x8.heap.size = x7.heap.size + 1) := by rw [← hx8]; show _ = _; simp
  clear hx8
  have L8 := hid (b8.size)
  have B8 := hid (B7.out.trans (b8.mono B7.out.size))
  have OE8 := hid (OE7.out.later b8)
  have OQ8 := hid (OQ7.out.later b8)
  have OP8 := hid (OP7.out.later b8)
  have KE8 := hid (KE7.out.later b8)
  have OX8 := hid (OX7.out.later b8)
  have OF8 := hid (OF7.out.later b8)
  have KX8 := hid (KX7.out.later b8)
  have KR8 := hid (KR7.out.later b8)
  have OO8 := hid (OO7.out.later b8)
  clear b8 B7 OE7 OQ7 OP7 KE7 OX7 OF7 KX7 KR7 OO7
  unfold epV
  go_upto_region 11 with fail
  rw [HW8.out]
  obtain ⟨go, hgo⟩ : ∃ g, x7.heap.size = g := ⟨_, rfl⟩
  have Ggo : Hid (x7.heap.size = go ∧ x8.heap.size = go + 1) := ⟨hgo, by rw [← hgo]; exact HSZ8.out⟩
  rw [hgo] at KN ⊢
  clear HW8 HSZ8 hgo
  have KO8 := hid (KN)
  clear KN
  obtain ⟨da0, da1, da2, da3, da4⟩ := cells5 KO8.out
  obtain ⟨db0, db1, db2, db3, db4, db5, db6, db7, db8, db9, db10⟩ := cells11 KR8.out
  go_wp2_with fail
  refine (EpU.implEpOpen SO O SR R ro x8 (HT.out.later B8.out) (HER.out.later B8.out) OO8.out HOS.out OF8.out).mono ?_
  unfold EpO.AnsP
  rw [HY.out, HOL.out, HOC.out]
  rintro e x9 ⟨SY, SP, p2, q2, p3, q3, rfl, oy, o2, _, b⟩
  clear da0 da1 da2 da3 da4
  clear db0 db1 db2 db3 db4 db5 db6 db7 db8 db9 db10
  have L9 := hid (b.size)
  have B9 := hid (B8.out.trans (b.mono B8.out.size))
  have OE9 := hid (OE8.out.later b)
  have OQ9 := hid (OQ8.out.later b)
  have OP9 := hid (OP8.out.later b)
  have KE9 := hid (KE8.out.later b)
  have OX9 := hid (OX8.out.later b)
  have OF9 := hid (OF8.out.later b)
  have KX9 := hid (KX8.out.later b)
  have KR9 := hid (KR8.out.later b)
  have OO9 := hid (OO8.out.later b)
  have KO9 := hid (KO8.out.later b)
  clear b B8 OE8 OQ8 OP8 KE8 OX8 OF8 KX8 KR8 OO8 KO8
  have OY9 := hid (oy.rd)
  have O29 := hid (o2.rd)
  clear oy o2
  obtain ⟨x10, hx10⟩ : ∃ x10, x9.alloc (.cells #[.int .i64 Y.n, .slice SY.key.a SY.key.n SY.key.c, .int .i64 Y.seq, .int .i64 Y.win.top, .slice SY.win.bits.a SY.win.bits.n SY.win.bits.c] 41) = x10 := ⟨_, rfl⟩
  have HW10 := hid (hx10)
  have b10 : Below x9.heap.size x9 x10 := by rw [← hx10]; exact (Below.refl _ _).alloc (Nat.le_refl _) _
  have KN : Blk x10 x9.heap.size 41 [.int .i64 Y.n, .slice SY.key.a SY.key.n SY.key.c, .int .i64 Y.seq, .int .i64 Y.win.top, .slice SY.win.bits.a SY.win.bits.n SY.win.bits.c] := by rw [← hx10]; exact Blk.new x9 _ _
  have HSZ10 : Hid (x10.heap.size = x9.heap.size + 1) := by rw [← hx10]; show _ = _; simp
  clear hx10
  have L10 := hid (b10.size)
  have B10 := hid (B9.out.trans (b10.mono B9.out.size))
  have OE10 := hid (OE9.out.later b10)
  have OQ10 := hid (OQ9.out.later b10)
  have OP10 := hid (OP9.out.later b10)
  have KE10 := hid (KE9.out.later b10)
  have OX10 := hid (OX9.out.later b10)
  have OF10 := hid (OF9.out.later b10)
  have KX10 := hid (KX9.out.later b10)
  have KR10 := hid (KR9.out.later b10)
  have OO10 := hid (OO9.out.later b10)
  have KO10 := hid (KO9.out.later b10)
  have OY10 := hid (OY9.out.later b10)
  have O210 := hid (O29.out.later b10)
  clear b10 B9 OE9 OQ9 OP9 KE9 OX9 OF9 KX9 KR9 OO9 KO9 OY9 O29
  unfold epV
  go_upto_region 12 with fail
  rw [HW10.out]
  obtain ⟨gy, hgy⟩ : ∃ g, x9.heap.size = g := ⟨_, rfl⟩
  have Ggy : Hid (x9.heap.size = gy ∧ x10.heap.size = gy + 1) := ⟨hgy, by rw [← hgy]; exact HSZ10.out⟩
  rw [hgy] at KN ⊢
  clear HW10 HSZ10 hgy
  have KY10 := hid (KN)
  clear KN
  obtain ⟨da0, da1, da2, da3, da4⟩ := cells5 KY10.out
  obtain ⟨db0, db1, db2, db3, db4, db5, db6, db7, db8, db9, db10⟩ := cells11 KR10.out
  go_wp2_with fail
  refine (EpU.implEpOpen SY Y SR R ro x10 (HT.out.later B10.out) (HER.out.later B10.out) OY10.out HYS.out OF10.out).mono ?_
  unfold EpO.AnsP
  rw [HZE.out, HZL.out, HYC.out]
  rintro e x11 ⟨SZ, SW, p4, q4, p5, q5, rfl, oz, _, _, b⟩
  clear da0 da1 da2 da3 da4
  clear db0 db1 db2 db3 db4 db5 db6 db7 db8 db9 db10
  have L11 := hid (b.size)
  have B11 := hid (B10.out.trans (b.mono B10.out.size))
  have OE11 := hid (OE10.out.later b)
  have OQ11 := hid (OQ10.out.later b)
  have OP11 := hid (OP10.out.later b)
  have KE11 := hid (KE10.out.later b)
  have OX11 := hid (OX10.out.later b)
  have OF11 := hid (OF10.out.later b)
  have KX11 := hid (KX10.out.later b)
  have KR11 := hid (KR10.out.later b)
  have OO11 := hid (OO10.out.later b)
  have KO11 := hid (KO10.out.later b)
  have OY11 := hid (OY10.out.later b)
  have O211 := hid (O210.out.later b)
  have KY11 := hid (KY10.out.later b)
  clear b B10 OE10 OQ10 OP10 KE10 OX10 OF10 KX10 KR10 OO10 KO10 OY10 O210 KY10
  have OZ11 := hid (oz.rd)
  clear oz
  obtain ⟨x12, hx12⟩ : ∃ x12, x11.alloc (.cells #[.int .i64 Y.n, .slice SZ.key.a SZ.key.n SZ.key.c, .int .i64 Y.seq, .int .i64 Y.win.top, .slice SZ.win.bits.a SZ.win.bits.n SZ.win.bits.c] 41) = x12 := ⟨_, rfl⟩
  have HW12 := hid (hx12)
  have b12 : Below x11.heap.size x11 x12 := by rw [← hx12]; exact (Below.refl _ _).alloc (Nat.le_refl _) _
  have KN : Blk x12 x11.heap.size 41 [.int .i64 Y.n, .slice SZ.key.a SZ.key.n SZ.key.c, .int .i64 Y.seq, .int .i64 Y.win.top, .slice SZ.win.bits.a SZ.win.bits.n SZ.win.bits.c] := by rw [← hx12]; exact Blk.new x11 _ _
  have HSZ12 : Hid (x12.heap.size = x11.heap.size + 1) := by rw [← hx12]; show _ = _; simp
  clear hx12
  have L12 := hid (b12.size)
  have B12 := hid (B11.out.trans (b12.mono B11.out.size))
  have OE12 := hid (OE11.out.later b12)
  have OQ12 := hid (OQ11.out.later b12)
  have OP12 := hid (OP11.out.later b12)
  have KE12 := hid (KE11.out.later b12)
  have OX12 := hid (OX11.out.later b12)
  have OF12 := hid (OF11.out.later b12)
  have KX12 := hid (KX11.out.later b12)
  have KR12 := hid (KR11.out.later b12)
  have OO12 := hid (OO11.out.later b12)
  have KO12 := hid (KO11.out.later b12)
  have OY12 := hid (OY11.out.later b12)
  have O212 := hid (O211.out.later b12)
  have KY12 := hid (KY11.out.later b12)
  have OZ12 := hid (OZ11.out.later b12)
  clear b12 B11 OE11 OQ11 OP11 KE11 OX11 OF11 KX11 KR11 OO11 KO11 OY11 O211 KY11 OZ11
  unfold epV
  go_upto_region 13 with fail
  rw [HW12.out]
  obtain ⟨gz, hgz⟩ : ∃ g, x11.heap.size = g := ⟨_, rfl⟩
  have Ggz : Hid (x11.heap.size = gz ∧ x12.heap.size = gz + 1) := ⟨hgz, by rw [← hgz]; exact HSZ12.out⟩
  rw [hgz] at KN ⊢
  clear HW12 HSZ12 hgz
  have KZ12 := hid (KN)
  clear KN
  have hw1 : IntKind.i64.wrap (D.seq + 1) = D.seq + 1 := by rw [IntKind.wrap_i64]; have := HDB.out; omega
  have he1 : (X.seq == D.seq + 1) = true := by simpa using HXS.out.1
  have he2 : (R.seq == D.seq) = true := by simpa using HRS.out
  obtain ⟨da0, da1, da2, da3, da4⟩ := cells5 KX12.out
  obtain ⟨db0, db1, db2, db3, db4⟩ := cells5 KE12.out
  obtain ⟨dc0, dc1, dc2, dc3, dc4, dc5, dc6, dc7, dc8, dc9, dc10⟩ := cells11 KR12.out
  go_wp2_with fail
  refine (sameWinE SX.win S.win X.win D.win x12 OX12.out.win OE12.out.win HXS.out.2 HLL.out.win).mono ?_
  rintro e x13 ⟨rfl, b⟩
  clear da0 da1 da2 da3 da4
  clear db0 db1 db2 db3 db4
  clear dc0 dc1 dc2 dc3 dc4 dc5 dc6 dc7 dc8 dc9 dc10
  have L13 := hid (b.size)
  have B13 := hid (B12.out.trans (b.mono B12.out.size))
  have OE13 := hid (OE12.out.later b)
  have OQ13 := hid (OQ12.out.later b)
  have OP13 := hid (OP12.out.later b)
  have KE13 := hid (KE12.out.later b)
  have OX13 := hid (OX12.out.later b)
  have OF13 := hid (OF12.out.later b)
  have KX13 := hid (KX12.out.later b)
  have KR13 := hid (KR12.out.later b)
  have OO13 := hid (OO12.out.later b)
  have KO13 := hid (KO12.out.later b)
  have OY13 := hid (OY12.out.later b)
  have O213 := hid (O212.out.later b)
  have KY13 := hid (KY12.out.later b)
  have OZ13 := hid (OZ12.out.later b)
  have KZ13 := hid (KZ12.out.later b)
  clear b B12 OE12 OQ12 OP12 KE12 OX12 OF12 KX12 KR12 OO12 KO12 OY12 O212 KY12 OZ12 KZ12
  clear hw1
  go_wp2_with fail
  refine (SameV.sameV SP P lp lp true x13 O213.out OP13.out (decide_eq_true rfl)).mono ?_
  rintro e y ⟨rfl, rfl⟩
  obtain ⟨da0, da1, da2, da3, da4⟩ := cells5 KZ13.out
  obtain ⟨db0, db1, db2, db3, db4⟩ := cells5 KY13.out
  go_wp2_with fail
  refine (sameEpE SZ SY Y Y x13 OZ13.out OY13.out rfl HYS.out).mono ?_
  rintro e x14 ⟨rfl, b⟩
  clear da0 da1 da2 da3 da4
  clear db0 db1 db2 db3 db4
  have L14 := hid (b.size)
  have B14 := hid (B13.out.trans (b.mono B13.out.size))
  have OE14 := hid (OE13.out.later b)
  have OQ14 := hid (OQ13.out.later b)
  have OP14 := hid (OP13.out.later b)
  have KE14 := hid (KE13.out.later b)
  have OX14 := hid (OX13.out.later b)
  have OF14 := hid (OF13.out.later b)
  have KX14 := hid (KX13.out.later b)
  have KR14 := hid (KR13.out.later b)
  have OO14 := hid (OO13.out.later b)
  have KO14 := hid (KO13.out.later b)
  have OY14 := hid (OY13.out.later b)
  have O214 := hid (O213.out.later b)
  have KY14 := hid (KY13.out.later b)
  have OZ14 := hid (OZ13.out.later b)
  have KZ14 := hid (KZ13.out.later b)
  clear b B13 OE13 OQ13 OP13 KE13 OX13 OF13 KX13 KR13 OO13 KO13 OY13 O213 KY13 OZ13 KZ13
  obtain ⟨da0, da1, da2, da3, da4⟩ := cells5 KX14.out
  go_wp2_with fail
  refine (epOkV SX X true x14 OX14.out HXO.out).mono ?_
  rintro e x15 ⟨rfl, b⟩
  clear da0 da1 da2 da3 da4
  have L15 := hid (b.size)
  have B15 := hid (B14.out.trans (b.mono B14.out.size))
  have OE15 := hid (OE14.out.later b)
  have OQ15 := hid (OQ14.out.later b)
  have OP15 := hid (OP14.out.later b)
  have KE15 := hid (KE14.out.later b)
  have OX15 := hid (OX14.out.later b)
  have OF15 := hid (OF14.out.later b)
  have KX15 := hid (KX14.out.later b)
  have KR15 := hid (KR14.out.later b)
  have OO15 := hid (OO14.out.later b)
  have KO15 := hid (KO14.out.later b)
  have OY15 := hid (OY14.out.later b)
  have O215 := hid (O214.out.later b)
  have KY15 := hid (KY14.out.later b)
  have OZ15 := hid (OZ14.out.later b)
  have KZ15 := hid (KZ14.out.later b)
  clear b B14 OE14 OQ14 OP14 KE14 OX14 OF14 KX14 KR14 OO14 KO14 OY14 O214 KY14 OZ14 KZ14
  obtain ⟨da0, da1, da2, da3, da4⟩ := cells5 KY15.out
  go_wp2_with fail
  refine (epOkV SY Y true x15 OY15.out HYO.out).mono ?_
  rintro e x16 ⟨rfl, b⟩
  clear da0 da1 da2 da3 da4
  have L16 := hid (b.size)
  have B16 := hid (B15.out.trans (b.mono B15.out.size))
  have OE16 := hid (OE15.out.later b)
  have OQ16 := hid (OQ15.out.later b)
  have OP16 := hid (OP15.out.later b)
  have KE16 := hid (KE15.out.later b)
  have OX16 := hid (OX15.out.later b)
  have OF16 := hid (OF15.out.later b)
  have KX16 := hid (KX15.out.later b)
  have KR16 := hid (KR15.out.later b)
  have OO16 := hid (OO15.out.later b)
  have KO16 := hid (KO15.out.later b)
  have OY16 := hid (OY15.out.later b)
  have O216 := hid (O215.out.later b)
  have KY16 := hid (KY15.out.later b)
  have OZ16 := hid (OZ15.out.later b)
  have KZ16 := hid (KZ15.out.later b)
  clear b B15 OE15 OQ15 OP15 KE15 OX15 OF15 KX15 KR15 OO15 KO15 OY15 O215 KY15 OZ15 KZ15
  obtain ⟨da0, da1, da2, da3, da4⟩ := cells5 KY16.out
  obtain ⟨db0, db1, db2, db3, db4, db5, db6, db7, db8, db9, db10⟩ := cells11 KR16.out
  go_wp2_with fail
  refine (hasI SY.win Y.win R.seq true x16 OY16.out.win HYH.out).mono ?_
  rintro e x17 ⟨rfl, b⟩
  clear da0 da1 da2 da3 da4
  clear db0 db1 db2 db3 db4 db5 db6 db7 db8 db9 db10
  have L17 := hid (b.size)
  have B17 := hid (B16.out.trans (b.mono B16.out.size))
  have OE17 := hid (OE16.out.later b)
  have OQ17 := hid (OQ16.out.later b)
  have OP17 := hid (OP16.out.later b)
  have KE17 := hid (KE16.out.later b)
  have OX17 := hid (OX16.out.later b)
  have OF17 := hid (OF16.out.later b)
  have KX17 := hid (KX16.out.later b)
  have KR17 := hid (KR16.out.later b)
  have OO17 := hid (OO16.out.later b)
  have KO17 := hid (KO16.out.later b)
  have OY17 := hid (OY16.out.later b)
  have O217 := hid (O216.out.later b)
  have KY17 := hid (KY16.out.later b)
  have OZ17 := hid (OZ16.out.later b)
  have KZ17 := hid (KZ16.out.later b)
  clear b B16 OE16 OQ16 OP16 KE16 OX16 OF16 KX16 KR16 OO16 KO16 OY16 O216 KY16 OZ16 KZ16
  go_wp2
  go_ret
  exact ⟨rfl, B17.out⟩

theorem walk (a : Option Addr) (len cap : Nat) (zs : List Int) (w : World) (hT : Tab w) (hE : ErrAt w) (h : IsRow .u8 w a len cap zs) :
  Calls Tryz.prog 4 #[.slice a len cap] w fun e w' => e = .returned (.bool true) ∧ Below w.heap.size w w' := by
 obtain ⟨l, h1, h2, _, h4⟩ := h.read
 by_cases hl : len ≤ 1048576
 ·
  exact small a len cap l w hT hE h1 h2 h4 hl
 ·
  clear h h1 h2 h4
  go_enter Tryz.func4, Tryz.ntmps4
  go_wp2_with fail
  refine (bigYes a len cap w (by omega)).mono ?_
  rintro e w0 ⟨rfl, rfl⟩
  go_wp2
  go_ret
  exact ⟨rfl, Below.refl _ _⟩
end Go.Proofs.YtmcflfpckpjphaaGreatDoor.LawOpens

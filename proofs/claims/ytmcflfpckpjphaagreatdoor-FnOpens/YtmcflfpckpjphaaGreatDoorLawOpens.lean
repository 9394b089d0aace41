/-
  The walk of the law FnOpens: at every code what an epoch seals another one with its key opens as it was, once, and each is numbered one higher; where the table of round words and the variable that errors.As reads are as the text lays them.
-/
import Derived.Test.YtmcflfpckpjphaaGreatDoorDrEp
import Derived.Test.YtmcflfpckpjphaaGreatDoorSmEp
import Derived.Test.YtmcflfpckpjphaaGreatDoorOpP
import Derived.Test.YtmcflfpckpjphaaGreatDoorEpK
import Derived.Test.YtmcflfpckpjphaaGreatDoorEpT
import Derived.Test.YtmcflfpckpjphaaGreatDoorEpU
import Derived.Test.YtmcflfpckpjphaaGreatDoorBas6
namespace Go.Proofs.YtmcflfpckpjphaaGreatDoor.LawOpens
open Go.RowKit Go.Proofs.YtmcflfpckpjphaaGreatDoor.Mem Go.Proofs.YtmcflfpckpjphaaGreatDoor.App Go.Proofs.YtmcflfpckpjphaaGreatDoor.Blk Go.Proofs.YtmcflfpckpjphaaGreatDoor.Draw Go.Proofs.YtmcflfpckpjphaaGreatDoor.Zone Go.Proofs.YtmcflfpckpjphaaGreatDoor.Res Go.Proofs.YtmcflfpckpjphaaGreatDoor.Comp Go.Proofs.YtmcflfpckpjphaaGreatDoor.ZoneI Go.Proofs.YtmcflfpckpjphaaGreatDoor.WnZ Go.Proofs.YtmcflfpckpjphaaGreatDoor.WinP Go.Proofs.YtmcflfpckpjphaaGreatDoor.WnK Go.Proofs.YtmcflfpckpjphaaGreatDoor.WnG Go.Proofs.YtmcflfpckpjphaaGreatDoor.WnBp Go.Proofs.YtmcflfpckpjphaaGreatDoor.FrZ Go.Proofs.YtmcflfpckpjphaaGreatDoor.FrP Go.Proofs.YtmcflfpckpjphaaGreatDoor.FrG Go.Proofs.YtmcflfpckpjphaaGreatDoor.FrQ Go.Proofs.YtmcflfpckpjphaaGreatDoor.FrL Go.Proofs.YtmcflfpckpjphaaGreatDoor.SlP Go.Proofs.YtmcflfpckpjphaaGreatDoor.SlQ Go.Proofs.YtmcflfpckpjphaaGreatDoor.EpZ Go.Proofs.YtmcflfpckpjphaaGreatDoor.EpL Go.Proofs.YtmcflfpckpjphaaGreatDoor.EpP Go.Proofs.YtmcflfpckpjphaaGreatDoor.EpQ Go.Proofs.YtmcflfpckpjphaaGreatDoor.EpJ Go.Proofs.YtmcflfpckpjphaaGreatDoor.OpP Go.Proofs.YtmcflfpckpjphaaGreatDoor.DrEp Go.Proofs.YtmcflfpckpjphaaGreatDoor.SmEp

set_option maxRecDepth 100000 in
theorem hasI (S : WnS) (D : WnD) (n : Int) (v : Bool) (w : World) (h : WnRd w S D) (hv : winHas D.top D.bits n = v) : Calls Tryz.prog 30 #[wnV D S, .int .i64 n] w fun e w' => e = .returned (.bool v) ∧ Below w.heap.size w w' := by
  subst hv; exact implWinHas S D n w h
set_option maxRecDepth 100000 in
theorem bigNo (a : Option Addr) (len cap : Nat) (w : World) (h : len ≤ 1048576) :
    Calls Tryz.prog 11 #[.slice a len cap] w fun e w' => e = .returned (.bool false) ∧ w = w' := by
  have h' : ¬ ((1048576 : Int) < (len : Int)) := by omega
  go_enter Tryz.func11, Tryz.ntmps11
  go_wp2
  go_ret
  exact ⟨rfl, rfl⟩
set_option maxRecDepth 100000 in
theorem bigYes (a : Option Addr) (len cap : Nat) (w : World) (h : 1048576 < len) :
    Calls Tryz.prog 11 #[.slice a len cap] w fun e w' => e = .returned (.bool true) ∧ w = w' := by
  have h' : (1048576 : Int) < (len : Int) := by omega
  go_enter Tryz.func11, Tryz.ntmps11
  go_wp2
  go_ret
  exact ⟨rfl, rfl⟩
set_option maxRecDepth 100000 in
set_option maxHeartbeats 16000000 in
theorem small (a : Option Addr) (len cap : Nat) (l : List Int) (w : World) (hT : Tab w) (hE : ErrAt w) (hl : len = l.length) (hr : Rd w a l) (hb : Bytes l) (hlen : len ≤ 1048576) :
    Calls Tryz.prog 4 #[.slice a len cap] w fun e w' => e = .returned (.bool true) ∧ Below w.heap.size w w' := by
  have HR : Hid (Rd w a l) := hr
  have HL : Hid (len = l.length) := hl
  have HB : Hid (Bytes l) := hb
  clear hr hl hb
  have HT : Hid (Tab w) := hT
  have HER : Hid (ErrAt w) := hE
  clear hT hE
  have B0 : Hid (Below w.heap.size w w) := Below.refl _ _
  go_enter Tryz.func4, Tryz.ntmps4
  go_wp2_with fail
  refine (bigNo a len cap w hlen).mono ?_
  rintro e w0 ⟨rfl, rfl⟩
  go_wp2_with fail
  refine (drawEpSeal a len cap l w HL.out (HR.out.later B0.out (Nat.le_refl _)) HB.out hlen).mono ?_
  rintro e x1 ⟨D, S, ro, Q, sn, kd, P, lp, rfl, sh, oe, oq, op, b⟩
  have L1 : Hid (w.heap.size ≤ x1.heap.size) := b.size
  have B1 : Hid (Below w.heap.size w x1) := B0.out.trans (b.mono B0.out.size)
  clear b B0
  have HSH : Hid (EpShort D 65536) := sh
  clear sh
  have HLL : Hid (EpShort D 4194304) := ep_short_le HSH.out (by omega)
  have OE1 : Hid (EpRd x1 S D) := oe
  have OQ1 : Hid (SRd x1 Q sn) := oq
  have OP1 : Hid (SRd x1 P lp) := op
  clear oe oq op
  obtain ⟨x2, hx2⟩ : ∃ x2, x1.alloc (.cells #[.int .i64 D.n, .slice S.key.a S.key.n S.key.c, .int .i64 D.seq, .int .i64 D.win.top, .slice S.win.bits.a S.win.bits.n S.win.bits.c] 41) = x2 := ⟨_, rfl⟩
  have HW2 : Hid (x1.alloc (.cells #[.int .i64 D.n, .slice S.key.a S.key.n S.key.c, .int .i64 D.seq, .int .i64 D.win.top, .slice S.win.bits.a S.win.bits.n S.win.bits.c] 41) = x2) := hx2
  have b2 : Below x1.heap.size x1 x2 := by rw [← hx2]; exact (Below.refl _ _).alloc (Nat.le_refl _) _
  have KN : Blk x2 x1.heap.size 41 [.int .i64 D.n, .slice S.key.a S.key.n S.key.c, .int .i64 D.seq, .int .i64 D.win.top, .slice S.win.bits.a S.win.bits.n S.win.bits.c] := by rw [← hx2]; exact Blk.new x1 _ _
  have HSZ2 : Hid (x2.heap.size = x1.heap.size + 1) := by rw [← hx2]; show _ = _; simp
  clear hx2
  have L2 : Hid (x1.heap.size ≤ x2.heap.size) := b2.size
  have B2 : Hid (Below w.heap.size w x2) := B1.out.trans (b2.mono B1.out.size)
  have OE2 : Hid (EpRd x2 S D) := OE1.out.later b2
  have OQ2 : Hid (SRd x2 Q sn) := OQ1.out.later b2
  have OP2 : Hid (SRd x2 P lp) := OP1.out.later b2
  clear b2 B1 OE1 OQ1 OP1
  unfold epV
  go_upto_region 4 with fail
  rw [HW2.out]
  obtain ⟨ge, hge⟩ : ∃ g, x1.heap.size = g := ⟨_, rfl⟩
  have Gge : Hid (x1.heap.size = ge ∧ x2.heap.size = ge + 1) := ⟨hge, by rw [← hge]; exact HSZ2.out⟩
  rw [hge] at KN ⊢
  clear HW2 HSZ2 hge
  have KE2 : Hid (Blk x2 ge 41 [.int .i64 D.n, .slice S.key.a S.key.n S.key.c, .int .i64 D.seq, .int .i64 D.win.top, .slice S.win.bits.a S.win.bits.n S.win.bits.c]) := KN
  clear KN
  obtain ⟨X, hX⟩ : ∃ z : EpD, esE D ro sn kd lp = z := ⟨_, rfl⟩
  have HX : Hid (esE D ro sn kd lp = X) := hX
  clear hX
  obtain ⟨R, hR⟩ : ∃ z : FrD, esF D ro sn kd lp = z := ⟨_, rfl⟩
  have HRF : Hid (esF D ro sn kd lp = R) := hR
  clear hR
  obtain ⟨c, hc⟩ : ∃ z : Int, esCode D ro sn kd lp = z := ⟨_, rfl⟩
  have HC : Hid (esCode D ro sn kd lp = c) := hc
  clear hc
  have hcc : (c != c) = false := by simp
  have da0 := KE2.out.cell 0 rfl
  have da1 := KE2.out.cell 1 rfl
  have da2 := KE2.out.cell 2 rfl
  have da3 := KE2.out.cell 3 rfl
  have da4 := KE2.out.cell 4 rfl
  go_wp2_with fail
  refine (EpK.implEpSeal S D Q P sn lp ro kd x2 (HT.out.later B2.out) (HER.out.later B2.out) OE2.out HLL.out OQ2.out OP2.out).mono ?_
  unfold EpK.AnsQ
  rw [HX.out, HRF.out, HC.out]
  rintro e x3 ⟨SX, SR, p0, q0, p1, q1, rfl, ox, of, _, b⟩
  clear da0 da1 da2 da3 da4
  have L3 : Hid (x2.heap.size ≤ x3.heap.size) := b.size
  have B3 : Hid (Below w.heap.size w x3) := B2.out.trans (b.mono B2.out.size)
  have OE3 : Hid (EpRd x3 S D) := OE2.out.later b
  have OQ3 : Hid (SRd x3 Q sn) := OQ2.out.later b
  have OP3 : Hid (SRd x3 P lp) := OP2.out.later b
  have KE3 : Hid (Blk x3 ge 41 [.int .i64 D.n, .slice S.key.a S.key.n S.key.c, .int .i64 D.seq, .int .i64 D.win.top, .slice S.win.bits.a S.win.bits.n S.win.bits.c]) := KE2.out.later b
  clear b B2 OE2 OQ2 OP2 KE2
  have OX3 : Hid (EpRd x3 SX X) := ox.rd
  have OF3 : Hid (FrRd x3 SR R) := of.rd
  clear ox of
  obtain ⟨x4, hx4⟩ : ∃ zz, (x3.alloc (.cells #[.int .i64 X.n, .slice SX.key.a SX.key.n SX.key.c, .int .i64 X.seq, .int .i64 X.win.top, .slice SX.win.bits.a SX.win.bits.n SX.win.bits.c] 41)).alloc (.cells #[.int .i64 R.kind, .int .i64 R.id, .slice SR.cn.a SR.cn.n SR.cn.c, .slice SR.sn.a SR.sn.n SR.sn.c, .int .i64 R.tick, .slice SR.cookie.a SR.cookie.n SR.cookie.c, .slice SR.proof.a SR.proof.n SR.proof.c, .int .i64 R.epoch, .int .i64 R.seq, .slice SR.body.a SR.body.n SR.body.c, .slice SR.tag.a SR.tag.n SR.tag.c] 27) = zz := ⟨_, rfl⟩
  have HW4 : Hid ((x3.alloc (.cells #[.int .i64 X.n, .slice SX.key.a SX.key.n SX.key.c, .int .i64 X.seq, .int .i64 X.win.top, .slice SX.win.bits.a SX.win.bits.n SX.win.bits.c] 41)).alloc (.cells #[.int .i64 R.kind, .int .i64 R.id, .slice SR.cn.a SR.cn.n SR.cn.c, .slice SR.sn.a SR.sn.n SR.sn.c, .int .i64 R.tick, .slice SR.cookie.a SR.cookie.n SR.cookie.c, .slice SR.proof.a SR.proof.n SR.proof.c, .int .i64 R.epoch, .int .i64 R.seq, .slice SR.body.a SR.body.n SR.body.c, .slice SR.tag.a SR.tag.n SR.tag.c] 27) = x4) := hx4
  have b4 : Below x3.heap.size x3 x4 := by rw [← hx4]; exact ((Below.refl _ _).alloc (Nat.le_refl _) _).alloc (by simp) _
  have KN1 : Blk x4 x3.heap.size 41 [.int .i64 X.n, .slice SX.key.a SX.key.n SX.key.c, .int .i64 X.seq, .int .i64 X.win.top, .slice SX.win.bits.a SX.win.bits.n SX.win.bits.c] := by rw [← hx4]; exact (Blk.new x3 _ _).alloc _
  have KN2 : Blk x4 (x3.heap.size + 1) 27 [.int .i64 R.kind, .int .i64 R.id, .slice SR.cn.a SR.cn.n SR.cn.c, .slice SR.sn.a SR.sn.n SR.sn.c, .int .i64 R.tick, .slice SR.cookie.a SR.cookie.n SR.cookie.c, .slice SR.proof.a SR.proof.n SR.proof.c, .int .i64 R.epoch, .int .i64 R.seq, .slice SR.body.a SR.body.n SR.body.c, .slice SR.tag.a SR.tag.n SR.tag.c] := by
    have q := Blk.new (x3.alloc (.cells #[.int .i64 X.n, .slice SX.key.a SX.key.n SX.key.c, .int .i64 X.seq, .int .i64 X.win.top, .slice SX.win.bits.a SX.win.bits.n SX.win.bits.c] 41)) 27 [.int .i64 R.kind, .int .i64 R.id, .slice SR.cn.a SR.cn.n SR.cn.c, .slice SR.sn.a SR.sn.n SR.sn.c, .int .i64 R.tick, .slice SR.cookie.a SR.cookie.n SR.cookie.c, .slice SR.proof.a SR.proof.n SR.proof.c, .int .i64 R.epoch, .int .i64 R.seq, .slice SR.body.a SR.body.n SR.body.c, .slice SR.tag.a SR.tag.n SR.tag.c]
    rw [World.size_alloc] at q
    rw [← hx4]; exact q
  clear hx4
  have L4 : Hid (x3.heap.size ≤ x4.heap.size) := b4.size
  have B4 : Hid (Below w.heap.size w x4) := B3.out.trans (b4.mono B3.out.size)
  have OE4 : Hid (EpRd x4 S D) := OE3.out.later b4
  have OQ4 : Hid (SRd x4 Q sn) := OQ3.out.later b4
  have OP4 : Hid (SRd x4 P lp) := OP3.out.later b4
  have KE4 : Hid (Blk x4 ge 41 [.int .i64 D.n, .slice S.key.a S.key.n S.key.c, .int .i64 D.seq, .int .i64 D.win.top, .slice S.win.bits.a S.win.bits.n S.win.bits.c]) := KE3.out.later b4
  have OX4 : Hid (EpRd x4 SX X) := OX3.out.later b4
  have OF4 : Hid (FrRd x4 SR R) := OF3.out.later b4
  clear b4 B3 OE3 OQ3 OP3 KE3 OX3 OF3
  unfold epV frV
  go_upto_region 5 with fail
  rw [HW4.out]
  obtain ⟨gx, hgx⟩ : ∃ g, x3.heap.size = g := ⟨_, rfl⟩
  obtain ⟨gr, hgr⟩ : ∃ g, x3.heap.size + 1 = g := ⟨_, rfl⟩
  rw [hgx] at KN1
  rw [hgr] at KN2
  rw [hgr, hgx]
  clear HW4 hgx hgr
  have KX4 : Hid (Blk x4 gx 41 [.int .i64 X.n, .slice SX.key.a SX.key.n SX.key.c, .int .i64 X.seq, .int .i64 X.win.top, .slice SX.win.bits.a SX.win.bits.n SX.win.bits.c]) := KN1
  have KR4 : Hid (Blk x4 gr 27 [.int .i64 R.kind, .int .i64 R.id, .slice SR.cn.a SR.cn.n SR.cn.c, .slice SR.sn.a SR.sn.n SR.sn.c, .int .i64 R.tick, .slice SR.cookie.a SR.cookie.n SR.cookie.c, .slice SR.proof.a SR.proof.n SR.proof.c, .int .i64 R.epoch, .int .i64 R.seq, .slice SR.body.a SR.body.n SR.body.c, .slice SR.tag.a SR.tag.n SR.tag.c]) := KN2
  clear KN1 KN2
  have da0 := KE4.out.cell 0 rfl
  have da1 := KE4.out.cell 1 rfl
  have da2 := KE4.out.cell 2 rfl
  have da3 := KE4.out.cell 3 rfl
  have da4 := KE4.out.cell 4 rfl
  go_wp2_with fail
  refine (EpT.specEpSeal S D Q P sn lp ro kd x4 OE4.out HLL.out OQ4.out OP4.out).mono ?_
  unfold EpT.AnsQ
  rw [HX.out, HRF.out, HC.out]
  rintro e x5 ⟨SX2, SR2, u0, v0, u1, v1, rfl, _, _, _, b⟩
  clear da0 da1 da2 da3 da4
  have L5 : Hid (x4.heap.size ≤ x5.heap.size) := b.size
  have B5 : Hid (Below w.heap.size w x5) := B4.out.trans (b.mono B4.out.size)
  have OE5 : Hid (EpRd x5 S D) := OE4.out.later b
  have OQ5 : Hid (SRd x5 Q sn) := OQ4.out.later b
  have OP5 : Hid (SRd x5 P lp) := OP4.out.later b
  have KE5 : Hid (Blk x5 ge 41 [.int .i64 D.n, .slice S.key.a S.key.n S.key.c, .int .i64 D.seq, .int .i64 D.win.top, .slice S.win.bits.a S.win.bits.n S.win.bits.c]) := KE4.out.later b
  have OX5 : Hid (EpRd x5 SX X) := OX4.out.later b
  have OF5 : Hid (FrRd x5 SR R) := OF4.out.later b
  have KX5 : Hid (Blk x5 gx 41 [.int .i64 X.n, .slice SX.key.a SX.key.n SX.key.c, .int .i64 X.seq, .int .i64 X.win.top, .slice SX.win.bits.a SX.win.bits.n SX.win.bits.c]) := KX4.out.later b
  have KR5 : Hid (Blk x5 gr 27 [.int .i64 R.kind, .int .i64 R.id, .slice SR.cn.a SR.cn.n SR.cn.c, .slice SR.sn.a SR.sn.n SR.sn.c, .int .i64 R.tick, .slice SR.cookie.a SR.cookie.n SR.cookie.c, .slice SR.proof.a SR.proof.n SR.proof.c, .int .i64 R.epoch, .int .i64 R.seq, .slice SR.body.a SR.body.n SR.body.c, .slice SR.tag.a SR.tag.n SR.tag.c]) := KR4.out.later b
  clear b B4 OE4 OQ4 OP4 KE4 OX4 OF4 KX4 KR4
  obtain ⟨x6, hx6⟩ : ∃ zz, (x5.alloc (.cells #[.int .i64 X.n, .slice SX2.key.a SX2.key.n SX2.key.c, .int .i64 X.seq, .int .i64 X.win.top, .slice SX2.win.bits.a SX2.win.bits.n SX2.win.bits.c] 41)).alloc (.cells #[.int .i64 R.kind, .int .i64 R.id, .slice SR2.cn.a SR2.cn.n SR2.cn.c, .slice SR2.sn.a SR2.sn.n SR2.sn.c, .int .i64 R.tick, .slice SR2.cookie.a SR2.cookie.n SR2.cookie.c, .slice SR2.proof.a SR2.proof.n SR2.proof.c, .int .i64 R.epoch, .int .i64 R.seq, .slice SR2.body.a SR2.body.n SR2.body.c, .slice SR2.tag.a SR2.tag.n SR2.tag.c] 27) = zz := ⟨_, rfl⟩
  have HW6 : Hid ((x5.alloc (.cells #[.int .i64 X.n, .slice SX2.key.a SX2.key.n SX2.key.c, .int .i64 X.seq, .int .i64 X.win.top, .slice SX2.win.bits.a SX2.win.bits.n SX2.win.bits.c] 41)).alloc (.cells #[.int .i64 R.kind, .int .i64 R.id, .slice SR2.cn.a SR2.cn.n SR2.cn.c, .slice SR2.sn.a SR2.sn.n SR2.sn.c, .int .i64 R.tick, .slice SR2.cookie.a SR2.cookie.n SR2.cookie.c, .slice SR2.proof.a SR2.proof.n SR2.proof.c, .int .i64 R.epoch, .int .i64 R.seq, .slice SR2.body.a SR2.body.n SR2.body.c, .slice SR2.tag.a SR2.tag.n SR2.tag.c] 27) = x6) := hx6
  have b6 : Below x5.heap.size x5 x6 := by rw [← hx6]; exact ((Below.refl _ _).alloc (Nat.le_refl _) _).alloc (by simp) _
  have KN1 : Blk x6 x5.heap.size 41 [.int .i64 X.n, .slice SX2.key.a SX2.key.n SX2.key.c, .int .i64 X.seq, .int .i64 X.win.top, .slice SX2.win.bits.a SX2.win.bits.n SX2.win.bits.c] := by rw [← hx6]; exact (Blk.new x5 _ _).alloc _
  have KN2 : Blk x6 (x5.heap.size + 1) 27 [.int .i64 R.kind, .int .i64 R.id, .slice SR2.cn.a SR2.cn.n SR2.cn.c, .slice SR2.sn.a SR2.sn.n SR2.sn.c, .int .i64 R.tick, .slice SR2.cookie.a SR2.cookie.n SR2.cookie.c, .slice SR2.proof.a SR2.proof.n SR2.proof.c, .int .i64 R.epoch, .int .i64 R.seq, .slice SR2.body.a SR2.body.n SR2.body.c, .slice SR2.tag.a SR2.tag.n SR2.tag.c] := by
    have q := Blk.new (x5.alloc (.cells #[.int .i64 X.n, .slice SX2.key.a SX2.key.n SX2.key.c, .int .i64 X.seq, .int .i64 X.win.top, .slice SX2.win.bits.a SX2.win.bits.n SX2.win.bits.c] 41)) 27 [.int .i64 R.kind, .int .i64 R.id, .slice SR2.cn.a SR2.cn.n SR2.cn.c, .slice SR2.sn.a SR2.sn.n SR2.sn.c, .int .i64 R.tick, .slice SR2.cookie.a SR2.cookie.n SR2.cookie.c, .slice SR2.proof.a SR2.proof.n SR2.proof.c, .int .i64 R.epoch, .int .i64 R.seq, .slice SR2.body.a SR2.body.n SR2.body.c, .slice SR2.tag.a SR2.tag.n SR2.tag.c]
    rw [World.size_alloc] at q
    rw [← hx6]; exact q
  clear hx6
  have L6 : Hid (x5.heap.size ≤ x6.heap.size) := b6.size
  have B6 : Hid (Below w.heap.size w x6) := B5.out.trans (b6.mono B5.out.size)
  have OE6 : Hid (EpRd x6 S D) := OE5.out.later b6
  have OQ6 : Hid (SRd x6 Q sn) := OQ5.out.later b6
  have OP6 : Hid (SRd x6 P lp) := OP5.out.later b6
  have KE6 : Hid (Blk x6 ge 41 [.int .i64 D.n, .slice S.key.a S.key.n S.key.c, .int .i64 D.seq, .int .i64 D.win.top, .slice S.win.bits.a S.win.bits.n S.win.bits.c]) := KE5.out.later b6
  have OX6 : Hid (EpRd x6 SX X) := OX5.out.later b6
  have OF6 : Hid (FrRd x6 SR R) := OF5.out.later b6
  have KX6 : Hid (Blk x6 gx 41 [.int .i64 X.n, .slice SX.key.a SX.key.n SX.key.c, .int .i64 X.seq, .int .i64 X.win.top, .slice SX.win.bits.a SX.win.bits.n SX.win.bits.c]) := KX5.out.later b6
  have KR6 : Hid (Blk x6 gr 27 [.int .i64 R.kind, .int .i64 R.id, .slice SR.cn.a SR.cn.n SR.cn.c, .slice SR.sn.a SR.sn.n SR.sn.c, .int .i64 R.tick, .slice SR.cookie.a SR.cookie.n SR.cookie.c, .slice SR.proof.a SR.proof.n SR.proof.c, .int .i64 R.epoch, .int .i64 R.seq, .slice SR.body.a SR.body.n SR.body.c, .slice SR.tag.a SR.tag.n SR.tag.c]) := KR5.out.later b6
  clear b6 B5 OE5 OQ5 OP5 KE5 OX5 OF5 KX5 KR5
  unfold epV frV
  go_upto_region 6 with fail
  rw [HW6.out]
  obtain ⟨gu, hgu⟩ : ∃ g, x5.heap.size = g := ⟨_, rfl⟩
  obtain ⟨gv, hgv⟩ : ∃ g, x5.heap.size + 1 = g := ⟨_, rfl⟩
  rw [hgu] at KN1
  rw [hgv] at KN2
  rw [hgv, hgu]
  clear HW6 hgu hgv
  have KU6 : Hid (Blk x6 gu 41 [.int .i64 X.n, .slice SX2.key.a SX2.key.n SX2.key.c, .int .i64 X.seq, .int .i64 X.win.top, .slice SX2.win.bits.a SX2.win.bits.n SX2.win.bits.c]) := KN1
  have KV6 : Hid (Blk x6 gv 27 [.int .i64 R.kind, .int .i64 R.id, .slice SR2.cn.a SR2.cn.n SR2.cn.c, .slice SR2.sn.a SR2.sn.n SR2.sn.c, .int .i64 R.tick, .slice SR2.cookie.a SR2.cookie.n SR2.cookie.c, .slice SR2.proof.a SR2.proof.n SR2.proof.c, .int .i64 R.epoch, .int .i64 R.seq, .slice SR2.body.a SR2.body.n SR2.body.c, .slice SR2.tag.a SR2.tag.n SR2.tag.c]) := KN2
  clear KN1 KN2
  clear KU6 KV6
  cases hc0 : (c != 0) with
  | true =>
    have hn : esCode D ro sn kd lp ≠ 0 := by rw [HC.out]; simpa using hc0
    have HXD : Hid (X = D) := by show _ = _; rw [← HX.out]; exact esE_no hn
    have HRZ : Hid (R = zeroF) := by show _ = _; rw [← HRF.out]; exact esF_no hn
    clear hn
    have da0 := KX6.out.cell 0 rfl
    have da1 := KX6.out.cell 1 rfl
    have da2 := KX6.out.cell 2 rfl
    have da3 := KX6.out.cell 3 rfl
    have da4 := KX6.out.cell 4 rfl
    have db0 := KE6.out.cell 0 rfl
    have db1 := KE6.out.cell 1 rfl
    have db2 := KE6.out.cell 2 rfl
    have db3 := KE6.out.cell 3 rfl
    have db4 := KE6.out.cell 4 rfl
    go_wp2_with fail
    refine (sameEpE SX S X D x6 OX6.out OE6.out HXD.out HLL.out).mono ?_
    rintro e x7 ⟨rfl, b⟩
    clear da0 da1 da2 da3 da4
    clear db0 db1 db2 db3 db4
    have L7 : Hid (x6.heap.size ≤ x7.heap.size) := b.size
    have B7 : Hid (Below w.heap.size w x7) := B6.out.trans (b.mono B6.out.size)
    have OE7 : Hid (EpRd x7 S D) := OE6.out.later b
    have OQ7 : Hid (SRd x7 Q sn) := OQ6.out.later b
    have OP7 : Hid (SRd x7 P lp) := OP6.out.later b
    have KE7 : Hid (Blk x7 ge 41 [.int .i64 D.n, .slice S.key.a S.key.n S.key.c, .int .i64 D.seq, .int .i64 D.win.top, .slice S.win.bits.a S.win.bits.n S.win.bits.c]) := KE6.out.later b
    have OX7 : Hid (EpRd x7 SX X) := OX6.out.later b
    have OF7 : Hid (FrRd x7 SR R) := OF6.out.later b
    have KX7 : Hid (Blk x7 gx 41 [.int .i64 X.n, .slice SX.key.a SX.key.n SX.key.c, .int .i64 X.seq, .int .i64 X.win.top, .slice SX.win.bits.a SX.win.bits.n SX.win.bits.c]) := KX6.out.later b
    have KR7 : Hid (Blk x7 gr 27 [.int .i64 R.kind, .int .i64 R.id, .slice SR.cn.a SR.cn.n SR.cn.c, .slice SR.sn.a SR.sn.n SR.sn.c, .int .i64 R.tick, .slice SR.cookie.a SR.cookie.n SR.cookie.c, .slice SR.proof.a SR.proof.n SR.proof.c, .int .i64 R.epoch, .int .i64 R.seq, .slice SR.body.a SR.body.n SR.body.c, .slice SR.tag.a SR.tag.n SR.tag.c]) := KR6.out.later b
    clear b B6 OE6 OQ6 OP6 KE6 OX6 OF6 KX6 KR6
    have da0 := KR7.out.cell 0 rfl
    have da1 := KR7.out.cell 1 rfl
    have da2 := KR7.out.cell 2 rfl
    have da3 := KR7.out.cell 3 rfl
    have da4 := KR7.out.cell 4 rfl
    have da5 := KR7.out.cell 5 rfl
    have da6 := KR7.out.cell 6 rfl
    have da7 := KR7.out.cell 7 rfl
    have da8 := KR7.out.cell 8 rfl
    have da9 := KR7.out.cell 9 rfl
    have da10 := KR7.out.cell 10 rfl
    go_wp2_with fail
    refine (sameFrameE SR ⟨⟨none, 0, 0⟩, ⟨none, 0, 0⟩, ⟨none, 0, 0⟩, ⟨none, 0, 0⟩, ⟨none, 0, 0⟩, ⟨none, 0, 0⟩⟩ R zeroF x7 OF7.out (SealS.own_nil _ 0 0).rd HRZ.out).mono ?_
    rintro e x8 ⟨rfl, b⟩
    clear da0 da1 da2 da3 da4 da5 da6 da7 da8 da9 da10
    have L8 : Hid (x7.heap.size ≤ x8.heap.size) := b.size
    have B8 : Hid (Below w.heap.size w x8) := B7.out.trans (b.mono B7.out.size)
    have OE8 : Hid (EpRd x8 S D) := OE7.out.later b
    have OQ8 : Hid (SRd x8 Q sn) := OQ7.out.later b
    have OP8 : Hid (SRd x8 P lp) := OP7.out.later b
    have KE8 : Hid (Blk x8 ge 41 [.int .i64 D.n, .slice S.key.a S.key.n S.key.c, .int .i64 D.seq, .int .i64 D.win.top, .slice S.win.bits.a S.win.bits.n S.win.bits.c]) := KE7.out.later b
    have OX8 : Hid (EpRd x8 SX X) := OX7.out.later b
    have OF8 : Hid (FrRd x8 SR R) := OF7.out.later b
    have KX8 : Hid (Blk x8 gx 41 [.int .i64 X.n, .slice SX.key.a SX.key.n SX.key.c, .int .i64 X.seq, .int .i64 X.win.top, .slice SX.win.bits.a SX.win.bits.n SX.win.bits.c]) := KX7.out.later b
    have KR8 : Hid (Blk x8 gr 27 [.int .i64 R.kind, .int .i64 R.id, .slice SR.cn.a SR.cn.n SR.cn.c, .slice SR.sn.a SR.sn.n SR.sn.c, .int .i64 R.tick, .slice SR.cookie.a SR.cookie.n SR.cookie.c, .slice SR.proof.a SR.proof.n SR.proof.c, .int .i64 R.epoch, .int .i64 R.seq, .slice SR.body.a SR.body.n SR.body.c, .slice SR.tag.a SR.tag.n SR.tag.c]) := KR7.out.later b
    clear b B7 OE7 OQ7 OP7 KE7 OX7 OF7 KX7 KR7
    go_wp2
    go_ret
    exact ⟨rfl, B8.out⟩
  | false =>
    obtain rfl : c = 0 := by simpa using hc0
    clear hcc
    have HSD := sealed HC.out
    have HPL : Hid (_ ∧ _) := HSD
    clear HSD
    have HXS : Hid (X.seq = D.seq + 1 ∧ X.win = D.win) := by show _ ∧ _; rw [← HX.out, esE_yes HC.out]; exact ⟨rfl, rfl⟩
    have HRS : Hid (R.seq = D.seq) := by show _ = _; rw [← HRF.out, HPL.out.2.2.1]; rfl
    have HXO : Hid (epOk X = true) := by show _ = _; rw [← HX.out, esE_yes HC.out]; exact next_ok HC.out
    have HDB : Hid (0 ≤ D.seq ∧ D.seq ≤ 281474976710655) := ⟨HPL.out.2.2.2.1, HPL.out.2.2.2.2⟩
    obtain ⟨O, hO⟩ : ∃ z : EpD, (⟨D.n, D.key, 0, ⟨-1, zeros⟩⟩ : EpD) = z := ⟨_, rfl⟩
    have HO : Hid ((⟨D.n, D.key, 0, ⟨-1, zeros⟩⟩ : EpD) = O) := hO
    clear hO
    have HON : Hid (newE D.n D.key = O) := by show _ = _; rw [← HO.out]; exact other_new HPL.out.1
    have HOC : Hid (eoCode O ro R = 0) := by show _ = _; rw [← HO.out, ← HRF.out]; exact opens HC.out
    have HOL : Hid (eoL O ro R = lp) := by show _ = _; rw [← HO.out, ← HRF.out]; exact opens_back OP6.out.bytes HC.out
    have HOS : Hid (EpShort O 4194304) := by rw [← HO.out]; exact ⟨HLL.out.key, short_big new_short⟩
    obtain ⟨Y, hY⟩ : ∃ z : EpD, eoE O ro R = z := ⟨_, rfl⟩
    have HY : Hid (eoE O ro R = Y) := hY
    clear hY
    have HYE : Hid (Y = { O with win := addD O.win R.seq }) := by show _ = _; rw [← HY.out]; exact eoE_yes HOC.out
    have HYO : Hid (epOk Y = true) := by show _ = _; rw [HYE.out]; exact took_epOk HOC.out
    have HYC : Hid (eoCode Y ro R = 3) := by show _ = _; rw [HYE.out]; exact again HOC.out
    have HYH : Hid (winHas Y.win.top Y.win.bits R.seq = true) := by show _ = _; rw [HYE.out]; exact took_has (opened HOC.out).2.2.1
    have HYS : Hid (EpShort Y 4194304) := by rw [HYE.out]; exact ⟨HOS.out.key, ⟨by show (addD O.win R.seq).bits.length ≤ _; have q := (add_short (D := O.win) R.seq (by rw [← HO.out]; exact short_mid new_short)).bits; omega⟩⟩
    have HZE : Hid (eoE Y ro R = Y) := eoE_no (by rw [HYC.out]; decide)
    have HZL : Hid (eoL Y ro R = []) := eoL_no (by rw [HYC.out]; decide)
    clear hc0
    have da0 := KE6.out.cell 0 rfl
    have da1 := KE6.out.cell 1 rfl
    have da2 := KE6.out.cell 2 rfl
    have da3 := KE6.out.cell 3 rfl
    have da4 := KE6.out.cell 4 rfl
    go_wp2_with fail
    refine (EpI.implEpNew D.n S.key D.key x6 OE6.out.key).mono ?_
    unfold AnsE
    rw [HON.out]
    rintro e x7 ⟨SO, rfl, oo, b⟩
    clear da0 da1 da2 da3 da4
    have L7 : Hid (x6.heap.size ≤ x7.heap.size) := b.size
    have B7 : Hid (Below w.heap.size w x7) := B6.out.trans (b.mono B6.out.size)
    have OE7 : Hid (EpRd x7 S D) := OE6.out.later b
    have OQ7 : Hid (SRd x7 Q sn) := OQ6.out.later b
    have OP7 : Hid (SRd x7 P lp) := OP6.out.later b
    have KE7 : Hid (Blk x7 ge 41 [.int .i64 D.n, .slice S.key.a S.key.n S.key.c, .int .i64 D.seq, .int .i64 D.win.top, .slice S.win.bits.a S.win.bits.n S.win.bits.c]) := KE6.out.later b
    have OX7 : Hid (EpRd x7 SX X) := OX6.out.later b
    have OF7 : Hid (FrRd x7 SR R) := OF6.out.later b
    have KX7 : Hid (Blk x7 gx 41 [.int .i64 X.n, .slice SX.key.a SX.key.n SX.key.c, .int .i64 X.seq, .int .i64 X.win.top, .slice SX.win.bits.a SX.win.bits.n SX.win.bits.c]) := KX6.out.later b
    have KR7 : Hid (Blk x7 gr 27 [.int .i64 R.kind, .int .i64 R.id, .slice SR.cn.a SR.cn.n SR.cn.c, .slice SR.sn.a SR.sn.n SR.sn.c, .int .i64 R.tick, .slice SR.cookie.a SR.cookie.n SR.cookie.c, .slice SR.proof.a SR.proof.n SR.proof.c, .int .i64 R.epoch, .int .i64 R.seq, .slice SR.body.a SR.body.n SR.body.c, .slice SR.tag.a SR.tag.n SR.tag.c]) := KR6.out.later b
    clear b B6 OE6 OQ6 OP6 KE6 OX6 OF6 KX6 KR6
    have OO7 : Hid (EpRd x7 SO O) := oo.rd
    clear oo
    obtain ⟨x8, hx8⟩ : ∃ x8, x7.alloc (.cells #[.int .i64 O.n, .slice SO.key.a SO.key.n SO.key.c, .int .i64 O.seq, .int .i64 O.win.top, .slice SO.win.bits.a SO.win.bits.n SO.win.bits.c] 41) = x8 := ⟨_, rfl⟩
    have HW8 : Hid (x7.alloc (.cells #[.int .i64 O.n, .slice SO.key.a SO.key.n SO.key.c, .int .i64 O.seq, .int .i64 O.win.top, .slice SO.win.bits.a SO.win.bits.n SO.win.bits.c] 41) = x8) := hx8
    have b8 : Below x7.heap.size x7 x8 := by rw [← hx8]; exact (Below.refl _ _).alloc (Nat.le_refl _) _
    have KN : Blk x8 x7.heap.size 41 [.int .i64 O.n, .slice SO.key.a SO.key.n SO.key.c, .int .i64 O.seq, .int .i64 O.win.top, .slice SO.win.bits.a SO.win.bits.n SO.win.bits.c] := by rw [← hx8]; exact Blk.new x7 _ _
    have HSZ8 : Hid (x8.heap.size = x7.heap.size + 1) := by rw [← hx8]; show _ = _; simp
    clear hx8
    have L8 : Hid (x7.heap.size ≤ x8.heap.size) := b8.size
    have B8 : Hid (Below w.heap.size w x8) := B7.out.trans (b8.mono B7.out.size)
    have OE8 : Hid (EpRd x8 S D) := OE7.out.later b8
    have OQ8 : Hid (SRd x8 Q sn) := OQ7.out.later b8
    have OP8 : Hid (SRd x8 P lp) := OP7.out.later b8
    have KE8 : Hid (Blk x8 ge 41 [.int .i64 D.n, .slice S.key.a S.key.n S.key.c, .int .i64 D.seq, .int .i64 D.win.top, .slice S.win.bits.a S.win.bits.n S.win.bits.c]) := KE7.out.later b8
    have OX8 : Hid (EpRd x8 SX X) := OX7.out.later b8
    have OF8 : Hid (FrRd x8 SR R) := OF7.out.later b8
    have KX8 : Hid (Blk x8 gx 41 [.int .i64 X.n, .slice SX.key.a SX.key.n SX.key.c, .int .i64 X.seq, .int .i64 X.win.top, .slice SX.win.bits.a SX.win.bits.n SX.win.bits.c]) := KX7.out.later b8
    have KR8 : Hid (Blk x8 gr 27 [.int .i64 R.kind, .int .i64 R.id, .slice SR.cn.a SR.cn.n SR.cn.c, .slice SR.sn.a SR.sn.n SR.sn.c, .int .i64 R.tick, .slice SR.cookie.a SR.cookie.n SR.cookie.c, .slice SR.proof.a SR.proof.n SR.proof.c, .int .i64 R.epoch, .int .i64 R.seq, .slice SR.body.a SR.body.n SR.body.c, .slice SR.tag.a SR.tag.n SR.tag.c]) := KR7.out.later b8
    have OO8 : Hid (EpRd x8 SO O) := OO7.out.later b8
    clear b8 B7 OE7 OQ7 OP7 KE7 OX7 OF7 KX7 KR7 OO7
    unfold epV
    go_upto_region 11 with fail
    rw [HW8.out]
    obtain ⟨go, hgo⟩ : ∃ g, x7.heap.size = g := ⟨_, rfl⟩
    have Ggo : Hid (x7.heap.size = go ∧ x8.heap.size = go + 1) := ⟨hgo, by rw [← hgo]; exact HSZ8.out⟩
    rw [hgo] at KN ⊢
    clear HW8 HSZ8 hgo
    have KO8 : Hid (Blk x8 go 41 [.int .i64 O.n, .slice SO.key.a SO.key.n SO.key.c, .int .i64 O.seq, .int .i64 O.win.top, .slice SO.win.bits.a SO.win.bits.n SO.win.bits.c]) := KN
    clear KN
    have da0 := KO8.out.cell 0 rfl
    have da1 := KO8.out.cell 1 rfl
    have da2 := KO8.out.cell 2 rfl
    have da3 := KO8.out.cell 3 rfl
    have da4 := KO8.out.cell 4 rfl
    have db0 := KR8.out.cell 0 rfl
    have db1 := KR8.out.cell 1 rfl
    have db2 := KR8.out.cell 2 rfl
    have db3 := KR8.out.cell 3 rfl
    have db4 := KR8.out.cell 4 rfl
    have db5 := KR8.out.cell 5 rfl
    have db6 := KR8.out.cell 6 rfl
    have db7 := KR8.out.cell 7 rfl
    have db8 := KR8.out.cell 8 rfl
    have db9 := KR8.out.cell 9 rfl
    have db10 := KR8.out.cell 10 rfl
    go_wp2_with fail
    refine (EpU.implEpOpen SO O SR R ro x8 (HT.out.later B8.out) (HER.out.later B8.out) OO8.out HOS.out OF8.out).mono ?_
    unfold EpO.AnsP
    rw [HY.out, HOL.out, HOC.out]
    rintro e x9 ⟨SY, SP, p2, q2, p3, q3, rfl, oy, o2, _, b⟩
    clear da0 da1 da2 da3 da4
    clear db0 db1 db2 db3 db4 db5 db6 db7 db8 db9 db10
    have L9 : Hid (x8.heap.size ≤ x9.heap.size) := b.size
    have B9 : Hid (Below w.heap.size w x9) := B8.out.trans (b.mono B8.out.size)
    have OE9 : Hid (EpRd x9 S D) := OE8.out.later b
    have OQ9 : Hid (SRd x9 Q sn) := OQ8.out.later b
    have OP9 : Hid (SRd x9 P lp) := OP8.out.later b
    have KE9 : Hid (Blk x9 ge 41 [.int .i64 D.n, .slice S.key.a S.key.n S.key.c, .int .i64 D.seq, .int .i64 D.win.top, .slice S.win.bits.a S.win.bits.n S.win.bits.c]) := KE8.out.later b
    have OX9 : Hid (EpRd x9 SX X) := OX8.out.later b
    have OF9 : Hid (FrRd x9 SR R) := OF8.out.later b
    have KX9 : Hid (Blk x9 gx 41 [.int .i64 X.n, .slice SX.key.a SX.key.n SX.key.c, .int .i64 X.seq, .int .i64 X.win.top, .slice SX.win.bits.a SX.win.bits.n SX.win.bits.c]) := KX8.out.later b
    have KR9 : Hid (Blk x9 gr 27 [.int .i64 R.kind, .int .i64 R.id, .slice SR.cn.a SR.cn.n SR.cn.c, .slice SR.sn.a SR.sn.n SR.sn.c, .int .i64 R.tick, .slice SR.cookie.a SR.cookie.n SR.cookie.c, .slice SR.proof.a SR.proof.n SR.proof.c, .int .i64 R.epoch, .int .i64 R.seq, .slice SR.body.a SR.body.n SR.body.c, .slice SR.tag.a SR.tag.n SR.tag.c]) := KR8.out.later b
    have OO9 : Hid (EpRd x9 SO O) := OO8.out.later b
    have KO9 : Hid (Blk x9 go 41 [.int .i64 O.n, .slice SO.key.a SO.key.n SO.key.c, .int .i64 O.seq, .int .i64 O.win.top, .slice SO.win.bits.a SO.win.bits.n SO.win.bits.c]) := KO8.out.later b
    clear b B8 OE8 OQ8 OP8 KE8 OX8 OF8 KX8 KR8 OO8 KO8
    have OY9 : Hid (EpRd x9 SY Y) := oy.rd
    have O29 : Hid (SRd x9 SP lp) := o2.rd
    clear oy o2
    obtain ⟨x10, hx10⟩ : ∃ x10, x9.alloc (.cells #[.int .i64 Y.n, .slice SY.key.a SY.key.n SY.key.c, .int .i64 Y.seq, .int .i64 Y.win.top, .slice SY.win.bits.a SY.win.bits.n SY.win.bits.c] 41) = x10 := ⟨_, rfl⟩
    have HW10 : Hid (x9.alloc (.cells #[.int .i64 Y.n, .slice SY.key.a SY.key.n SY.key.c, .int .i64 Y.seq, .int .i64 Y.win.top, .slice SY.win.bits.a SY.win.bits.n SY.win.bits.c] 41) = x10) := hx10
    have b10 : Below x9.heap.size x9 x10 := by rw [← hx10]; exact (Below.refl _ _).alloc (Nat.le_refl _) _
    have KN : Blk x10 x9.heap.size 41 [.int .i64 Y.n, .slice SY.key.a SY.key.n SY.key.c, .int .i64 Y.seq, .int .i64 Y.win.top, .slice SY.win.bits.a SY.win.bits.n SY.win.bits.c] := by rw [← hx10]; exact Blk.new x9 _ _
    have HSZ10 : Hid (x10.heap.size = x9.heap.size + 1) := by rw [← hx10]; show _ = _; simp
    clear hx10
    have L10 : Hid (x9.heap.size ≤ x10.heap.size) := b10.size
    have B10 : Hid (Below w.heap.size w x10) := B9.out.trans (b10.mono B9.out.size)
    have OE10 : Hid (EpRd x10 S D) := OE9.out.later b10
    have OQ10 : Hid (SRd x10 Q sn) := OQ9.out.later b10
    have OP10 : Hid (SRd x10 P lp) := OP9.out.later b10
    have KE10 : Hid (Blk x10 ge 41 [.int .i64 D.n, .slice S.key.a S.key.n S.key.c, .int .i64 D.seq, .int .i64 D.win.top, .slice S.win.bits.a S.win.bits.n S.win.bits.c]) := KE9.out.later b10
    have OX10 : Hid (EpRd x10 SX X) := OX9.out.later b10
    have OF10 : Hid (FrRd x10 SR R) := OF9.out.later b10
    have KX10 : Hid (Blk x10 gx 41 [.int .i64 X.n, .slice SX.key.a SX.key.n SX.key.c, .int .i64 X.seq, .int .i64 X.win.top, .slice SX.win.bits.a SX.win.bits.n SX.win.bits.c]) := KX9.out.later b10
    have KR10 : Hid (Blk x10 gr 27 [.int .i64 R.kind, .int .i64 R.id, .slice SR.cn.a SR.cn.n SR.cn.c, .slice SR.sn.a SR.sn.n SR.sn.c, .int .i64 R.tick, .slice SR.cookie.a SR.cookie.n SR.cookie.c, .slice SR.proof.a SR.proof.n SR.proof.c, .int .i64 R.epoch, .int .i64 R.seq, .slice SR.body.a SR.body.n SR.body.c, .slice SR.tag.a SR.tag.n SR.tag.c]) := KR9.out.later b10
    have OO10 : Hid (EpRd x10 SO O) := OO9.out.later b10
    have KO10 : Hid (Blk x10 go 41 [.int .i64 O.n, .slice SO.key.a SO.key.n SO.key.c, .int .i64 O.seq, .int .i64 O.win.top, .slice SO.win.bits.a SO.win.bits.n SO.win.bits.c]) := KO9.out.later b10
    have OY10 : Hid (EpRd x10 SY Y) := OY9.out.later b10
    have O210 : Hid (SRd x10 SP lp) := O29.out.later b10
    clear b10 B9 OE9 OQ9 OP9 KE9 OX9 OF9 KX9 KR9 OO9 KO9 OY9 O29
    unfold epV
    go_upto_region 12 with fail
    rw [HW10.out]
    obtain ⟨gy, hgy⟩ : ∃ g, x9.heap.size = g := ⟨_, rfl⟩
    have Ggy : Hid (x9.heap.size = gy ∧ x10.heap.size = gy + 1) := ⟨hgy, by rw [← hgy]; exact HSZ10.out⟩
    rw [hgy] at KN ⊢
    clear HW10 HSZ10 hgy
    have KY10 : Hid (Blk x10 gy 41 [.int .i64 Y.n, .slice SY.key.a SY.key.n SY.key.c, .int .i64 Y.seq, .int .i64 Y.win.top, .slice SY.win.bits.a SY.win.bits.n SY.win.bits.c]) := KN
    clear KN
    have da0 := KY10.out.cell 0 rfl
    have da1 := KY10.out.cell 1 rfl
    have da2 := KY10.out.cell 2 rfl
    have da3 := KY10.out.cell 3 rfl
    have da4 := KY10.out.cell 4 rfl
    have db0 := KR10.out.cell 0 rfl
    have db1 := KR10.out.cell 1 rfl
    have db2 := KR10.out.cell 2 rfl
    have db3 := KR10.out.cell 3 rfl
    have db4 := KR10.out.cell 4 rfl
    have db5 := KR10.out.cell 5 rfl
    have db6 := KR10.out.cell 6 rfl
    have db7 := KR10.out.cell 7 rfl
    have db8 := KR10.out.cell 8 rfl
    have db9 := KR10.out.cell 9 rfl
    have db10 := KR10.out.cell 10 rfl
    go_wp2_with fail
    refine (EpU.implEpOpen SY Y SR R ro x10 (HT.out.later B10.out) (HER.out.later B10.out) OY10.out HYS.out OF10.out).mono ?_
    unfold EpO.AnsP
    rw [HZE.out, HZL.out, HYC.out]
    rintro e x11 ⟨SZ, SW, p4, q4, p5, q5, rfl, oz, _, _, b⟩
    clear da0 da1 da2 da3 da4
    clear db0 db1 db2 db3 db4 db5 db6 db7 db8 db9 db10
    have L11 : Hid (x10.heap.size ≤ x11.heap.size) := b.size
    have B11 : Hid (Below w.heap.size w x11) := B10.out.trans (b.mono B10.out.size)
    have OE11 : Hid (EpRd x11 S D) := OE10.out.later b
    have OQ11 : Hid (SRd x11 Q sn) := OQ10.out.later b
    have OP11 : Hid (SRd x11 P lp) := OP10.out.later b
    have KE11 : Hid (Blk x11 ge 41 [.int .i64 D.n, .slice S.key.a S.key.n S.key.c, .int .i64 D.seq, .int .i64 D.win.top, .slice S.win.bits.a S.win.bits.n S.win.bits.c]) := KE10.out.later b
    have OX11 : Hid (EpRd x11 SX X) := OX10.out.later b
    have OF11 : Hid (FrRd x11 SR R) := OF10.out.later b
    have KX11 : Hid (Blk x11 gx 41 [.int .i64 X.n, .slice SX.key.a SX.key.n SX.key.c, .int .i64 X.seq, .int .i64 X.win.top, .slice SX.win.bits.a SX.win.bits.n SX.win.bits.c]) := KX10.out.later b
    have KR11 : Hid (Blk x11 gr 27 [.int .i64 R.kind, .int .i64 R.id, .slice SR.cn.a SR.cn.n SR.cn.c, .slice SR.sn.a SR.sn.n SR.sn.c, .int .i64 R.tick, .slice SR.cookie.a SR.cookie.n SR.cookie.c, .slice SR.proof.a SR.proof.n SR.proof.c, .int .i64 R.epoch, .int .i64 R.seq, .slice SR.body.a SR.body.n SR.body.c, .slice SR.tag.a SR.tag.n SR.tag.c]) := KR10.out.later b
    have OO11 : Hid (EpRd x11 SO O) := OO10.out.later b
    have KO11 : Hid (Blk x11 go 41 [.int .i64 O.n, .slice SO.key.a SO.key.n SO.key.c, .int .i64 O.seq, .int .i64 O.win.top, .slice SO.win.bits.a SO.win.bits.n SO.win.bits.c]) := KO10.out.later b
    have OY11 : Hid (EpRd x11 SY Y) := OY10.out.later b
    have O211 : Hid (SRd x11 SP lp) := O210.out.later b
    have KY11 : Hid (Blk x11 gy 41 [.int .i64 Y.n, .slice SY.key.a SY.key.n SY.key.c, .int .i64 Y.seq, .int .i64 Y.win.top, .slice SY.win.bits.a SY.win.bits.n SY.win.bits.c]) := KY10.out.later b
    clear b B10 OE10 OQ10 OP10 KE10 OX10 OF10 KX10 KR10 OO10 KO10 OY10 O210 KY10
    have OZ11 : Hid (EpRd x11 SZ Y) := oz.rd
    clear oz
    obtain ⟨x12, hx12⟩ : ∃ x12, x11.alloc (.cells #[.int .i64 Y.n, .slice SZ.key.a SZ.key.n SZ.key.c, .int .i64 Y.seq, .int .i64 Y.win.top, .slice SZ.win.bits.a SZ.win.bits.n SZ.win.bits.c] 41) = x12 := ⟨_, rfl⟩
    have HW12 : Hid (x11.alloc (.cells #[.int .i64 Y.n, .slice SZ.key.a SZ.key.n SZ.key.c, .int .i64 Y.seq, .int .i64 Y.win.top, .slice SZ.win.bits.a SZ.win.bits.n SZ.win.bits.c] 41) = x12) := hx12
    have b12 : Below x11.heap.size x11 x12 := by rw [← hx12]; exact (Below.refl _ _).alloc (Nat.le_refl _) _
    have KN : Blk x12 x11.heap.size 41 [.int .i64 Y.n, .slice SZ.key.a SZ.key.n SZ.key.c, .int .i64 Y.seq, .int .i64 Y.win.top, .slice SZ.win.bits.a SZ.win.bits.n SZ.win.bits.c] := by rw [← hx12]; exact Blk.new x11 _ _
    have HSZ12 : Hid (x12.heap.size = x11.heap.size + 1) := by rw [← hx12]; show _ = _; simp
    clear hx12
    have L12 : Hid (x11.heap.size ≤ x12.heap.size) := b12.size
    have B12 : Hid (Below w.heap.size w x12) := B11.out.trans (b12.mono B11.out.size)
    have OE12 : Hid (EpRd x12 S D) := OE11.out.later b12
    have OQ12 : Hid (SRd x12 Q sn) := OQ11.out.later b12
    have OP12 : Hid (SRd x12 P lp) := OP11.out.later b12
    have KE12 : Hid (Blk x12 ge 41 [.int .i64 D.n, .slice S.key.a S.key.n S.key.c, .int .i64 D.seq, .int .i64 D.win.top, .slice S.win.bits.a S.win.bits.n S.win.bits.c]) := KE11.out.later b12
    have OX12 : Hid (EpRd x12 SX X) := OX11.out.later b12
    have OF12 : Hid (FrRd x12 SR R) := OF11.out.later b12
    have KX12 : Hid (Blk x12 gx 41 [.int .i64 X.n, .slice SX.key.a SX.key.n SX.key.c, .int .i64 X.seq, .int .i64 X.win.top, .slice SX.win.bits.a SX.win.bits.n SX.win.bits.c]) := KX11.out.later b12
    have KR12 : Hid (Blk x12 gr 27 [.int .i64 R.kind, .int .i64 R.id, .slice SR.cn.a SR.cn.n SR.cn.c, .slice SR.sn.a SR.sn.n SR.sn.c, .int .i64 R.tick, .slice SR.cookie.a SR.cookie.n SR.cookie.c, .slice SR.proof.a SR.proof.n SR.proof.c, .int .i64 R.epoch, .int .i64 R.seq, .slice SR.body.a SR.body.n SR.body.c, .slice SR.tag.a SR.tag.n SR.tag.c]) := KR11.out.later b12
    have OO12 : Hid (EpRd x12 SO O) := OO11.out.later b12
    have KO12 : Hid (Blk x12 go 41 [.int .i64 O.n, .slice SO.key.a SO.key.n SO.key.c, .int .i64 O.seq, .int .i64 O.win.top, .slice SO.win.bits.a SO.win.bits.n SO.win.bits.c]) := KO11.out.later b12
    have OY12 : Hid (EpRd x12 SY Y) := OY11.out.later b12
    have O212 : Hid (SRd x12 SP lp) := O211.out.later b12
    have KY12 : Hid (Blk x12 gy 41 [.int .i64 Y.n, .slice SY.key.a SY.key.n SY.key.c, .int .i64 Y.seq, .int .i64 Y.win.top, .slice SY.win.bits.a SY.win.bits.n SY.win.bits.c]) := KY11.out.later b12
    have OZ12 : Hid (EpRd x12 SZ Y) := OZ11.out.later b12
    clear b12 B11 OE11 OQ11 OP11 KE11 OX11 OF11 KX11 KR11 OO11 KO11 OY11 O211 KY11 OZ11
    unfold epV
    go_upto_region 13 with fail
    rw [HW12.out]
    obtain ⟨gz, hgz⟩ : ∃ g, x11.heap.size = g := ⟨_, rfl⟩
    have Ggz : Hid (x11.heap.size = gz ∧ x12.heap.size = gz + 1) := ⟨hgz, by rw [← hgz]; exact HSZ12.out⟩
    rw [hgz] at KN ⊢
    clear HW12 HSZ12 hgz
    have KZ12 : Hid (Blk x12 gz 41 [.int .i64 Y.n, .slice SZ.key.a SZ.key.n SZ.key.c, .int .i64 Y.seq, .int .i64 Y.win.top, .slice SZ.win.bits.a SZ.win.bits.n SZ.win.bits.c]) := KN
    clear KN
    have hw1 : IntKind.i64.wrap (D.seq + 1) = D.seq + 1 := by rw [IntKind.wrap_i64]; have := HDB.out; omega
    have he1 : (X.seq == D.seq + 1) = true := by simpa using HXS.out.1
    have he2 : (R.seq == D.seq) = true := by simpa using HRS.out
    have da0 := KX12.out.cell 0 rfl
    have da1 := KX12.out.cell 1 rfl
    have da2 := KX12.out.cell 2 rfl
    have da3 := KX12.out.cell 3 rfl
    have da4 := KX12.out.cell 4 rfl
    have db0 := KE12.out.cell 0 rfl
    have db1 := KE12.out.cell 1 rfl
    have db2 := KE12.out.cell 2 rfl
    have db3 := KE12.out.cell 3 rfl
    have db4 := KE12.out.cell 4 rfl
    have dc0 := KR12.out.cell 0 rfl
    have dc1 := KR12.out.cell 1 rfl
    have dc2 := KR12.out.cell 2 rfl
    have dc3 := KR12.out.cell 3 rfl
    have dc4 := KR12.out.cell 4 rfl
    have dc5 := KR12.out.cell 5 rfl
    have dc6 := KR12.out.cell 6 rfl
    have dc7 := KR12.out.cell 7 rfl
    have dc8 := KR12.out.cell 8 rfl
    have dc9 := KR12.out.cell 9 rfl
    have dc10 := KR12.out.cell 10 rfl
    go_wp2_with fail
    refine (sameWinE SX.win S.win X.win D.win x12 OX12.out.win OE12.out.win HXS.out.2 HLL.out.win).mono ?_
    rintro e x13 ⟨rfl, b⟩
    clear da0 da1 da2 da3 da4
    clear db0 db1 db2 db3 db4
    clear dc0 dc1 dc2 dc3 dc4 dc5 dc6 dc7 dc8 dc9 dc10
    have L13 : Hid (x12.heap.size ≤ x13.heap.size) := b.size
    have B13 : Hid (Below w.heap.size w x13) := B12.out.trans (b.mono B12.out.size)
    have OE13 : Hid (EpRd x13 S D) := OE12.out.later b
    have OQ13 : Hid (SRd x13 Q sn) := OQ12.out.later b
    have OP13 : Hid (SRd x13 P lp) := OP12.out.later b
    have KE13 : Hid (Blk x13 ge 41 [.int .i64 D.n, .slice S.key.a S.key.n S.key.c, .int .i64 D.seq, .int .i64 D.win.top, .slice S.win.bits.a S.win.bits.n S.win.bits.c]) := KE12.out.later b
    have OX13 : Hid (EpRd x13 SX X) := OX12.out.later b
    have OF13 : Hid (FrRd x13 SR R) := OF12.out.later b
    have KX13 : Hid (Blk x13 gx 41 [.int .i64 X.n, .slice SX.key.a SX.key.n SX.key.c, .int .i64 X.seq, .int .i64 X.win.top, .slice SX.win.bits.a SX.win.bits.n SX.win.bits.c]) := KX12.out.later b
    have KR13 : Hid (Blk x13 gr 27 [.int .i64 R.kind, .int .i64 R.id, .slice SR.cn.a SR.cn.n SR.cn.c, .slice SR.sn.a SR.sn.n SR.sn.c, .int .i64 R.tick, .slice SR.cookie.a SR.cookie.n SR.cookie.c, .slice SR.proof.a SR.proof.n SR.proof.c, .int .i64 R.epoch, .int .i64 R.seq, .slice SR.body.a SR.body.n SR.body.c, .slice SR.tag.a SR.tag.n SR.tag.c]) := KR12.out.later b
    have OO13 : Hid (EpRd x13 SO O) := OO12.out.later b
    have KO13 : Hid (Blk x13 go 41 [.int .i64 O.n, .slice SO.key.a SO.key.n SO.key.c, .int .i64 O.seq, .int .i64 O.win.top, .slice SO.win.bits.a SO.win.bits.n SO.win.bits.c]) := KO12.out.later b
    have OY13 : Hid (EpRd x13 SY Y) := OY12.out.later b
    have O213 : Hid (SRd x13 SP lp) := O212.out.later b
    have KY13 : Hid (Blk x13 gy 41 [.int .i64 Y.n, .slice SY.key.a SY.key.n SY.key.c, .int .i64 Y.seq, .int .i64 Y.win.top, .slice SY.win.bits.a SY.win.bits.n SY.win.bits.c]) := KY12.out.later b
    have OZ13 : Hid (EpRd x13 SZ Y) := OZ12.out.later b
    have KZ13 : Hid (Blk x13 gz 41 [.int .i64 Y.n, .slice SZ.key.a SZ.key.n SZ.key.c, .int .i64 Y.seq, .int .i64 Y.win.top, .slice SZ.win.bits.a SZ.win.bits.n SZ.win.bits.c]) := KZ12.out.later b
    clear b B12 OE12 OQ12 OP12 KE12 OX12 OF12 KX12 KR12 OO12 KO12 OY12 O212 KY12 OZ12 KZ12
    clear hw1
    go_wp2_with fail
    refine (SameV.sameV SP P lp lp true x13 O213.out OP13.out (decide_eq_true rfl)).mono ?_
    rintro e y ⟨rfl, rfl⟩
    have da0 := KZ13.out.cell 0 rfl
    have da1 := KZ13.out.cell 1 rfl
    have da2 := KZ13.out.cell 2 rfl
    have da3 := KZ13.out.cell 3 rfl
    have da4 := KZ13.out.cell 4 rfl
    have db0 := KY13.out.cell 0 rfl
    have db1 := KY13.out.cell 1 rfl
    have db2 := KY13.out.cell 2 rfl
    have db3 := KY13.out.cell 3 rfl
    have db4 := KY13.out.cell 4 rfl
    go_wp2_with fail
    refine (sameEpE SZ SY Y Y x13 OZ13.out OY13.out rfl HYS.out).mono ?_
    rintro e x14 ⟨rfl, b⟩
    clear da0 da1 da2 da3 da4
    clear db0 db1 db2 db3 db4
    have L14 : Hid (x13.heap.size ≤ x14.heap.size) := b.size
    have B14 : Hid (Below w.heap.size w x14) := B13.out.trans (b.mono B13.out.size)
    have OE14 : Hid (EpRd x14 S D) := OE13.out.later b
    have OQ14 : Hid (SRd x14 Q sn) := OQ13.out.later b
    have OP14 : Hid (SRd x14 P lp) := OP13.out.later b
    have KE14 : Hid (Blk x14 ge 41 [.int .i64 D.n, .slice S.key.a S.key.n S.key.c, .int .i64 D.seq, .int .i64 D.win.top, .slice S.win.bits.a S.win.bits.n S.win.bits.c]) := KE13.out.later b
    have OX14 : Hid (EpRd x14 SX X) := OX13.out.later b
    have OF14 : Hid (FrRd x14 SR R) := OF13.out.later b
    have KX14 : Hid (Blk x14 gx 41 [.int .i64 X.n, .slice SX.key.a SX.key.n SX.key.c, .int .i64 X.seq, .int .i64 X.win.top, .slice SX.win.bits.a SX.win.bits.n SX.win.bits.c]) := KX13.out.later b
    have KR14 : Hid (Blk x14 gr 27 [.int .i64 R.kind, .int .i64 R.id, .slice SR.cn.a SR.cn.n SR.cn.c, .slice SR.sn.a SR.sn.n SR.sn.c, .int .i64 R.tick, .slice SR.cookie.a SR.cookie.n SR.cookie.c, .slice SR.proof.a SR.proof.n SR.proof.c, .int .i64 R.epoch, .int .i64 R.seq, .slice SR.body.a SR.body.n SR.body.c, .slice SR.tag.a SR.tag.n SR.tag.c]) := KR13.out.later b
    have OO14 : Hid (EpRd x14 SO O) := OO13.out.later b
    have KO14 : Hid (Blk x14 go 41 [.int .i64 O.n, .slice SO.key.a SO.key.n SO.key.c, .int .i64 O.seq, .int .i64 O.win.top, .slice SO.win.bits.a SO.win.bits.n SO.win.bits.c]) := KO13.out.later b
    have OY14 : Hid (EpRd x14 SY Y) := OY13.out.later b
    have O214 : Hid (SRd x14 SP lp) := O213.out.later b
    have KY14 : Hid (Blk x14 gy 41 [.int .i64 Y.n, .slice SY.key.a SY.key.n SY.key.c, .int .i64 Y.seq, .int .i64 Y.win.top, .slice SY.win.bits.a SY.win.bits.n SY.win.bits.c]) := KY13.out.later b
    have OZ14 : Hid (EpRd x14 SZ Y) := OZ13.out.later b
    have KZ14 : Hid (Blk x14 gz 41 [.int .i64 Y.n, .slice SZ.key.a SZ.key.n SZ.key.c, .int .i64 Y.seq, .int .i64 Y.win.top, .slice SZ.win.bits.a SZ.win.bits.n SZ.win.bits.c]) := KZ13.out.later b
    clear b B13 OE13 OQ13 OP13 KE13 OX13 OF13 KX13 KR13 OO13 KO13 OY13 O213 KY13 OZ13 KZ13
    have da0 := KX14.out.cell 0 rfl
    have da1 := KX14.out.cell 1 rfl
    have da2 := KX14.out.cell 2 rfl
    have da3 := KX14.out.cell 3 rfl
    have da4 := KX14.out.cell 4 rfl
    go_wp2_with fail
    refine (epOkV SX X true x14 OX14.out HXO.out).mono ?_
    rintro e x15 ⟨rfl, b⟩
    clear da0 da1 da2 da3 da4
    have L15 : Hid (x14.heap.size ≤ x15.heap.size) := b.size
    have B15 : Hid (Below w.heap.size w x15) := B14.out.trans (b.mono B14.out.size)
    have OE15 : Hid (EpRd x15 S D) := OE14.out.later b
    have OQ15 : Hid (SRd x15 Q sn) := OQ14.out.later b
    have OP15 : Hid (SRd x15 P lp) := OP14.out.later b
    have KE15 : Hid (Blk x15 ge 41 [.int .i64 D.n, .slice S.key.a S.key.n S.key.c, .int .i64 D.seq, .int .i64 D.win.top, .slice S.win.bits.a S.win.bits.n S.win.bits.c]) := KE14.out.later b
    have OX15 : Hid (EpRd x15 SX X) := OX14.out.later b
    have OF15 : Hid (FrRd x15 SR R) := OF14.out.later b
    have KX15 : Hid (Blk x15 gx 41 [.int .i64 X.n, .slice SX.key.a SX.key.n SX.key.c, .int .i64 X.seq, .int .i64 X.win.top, .slice SX.win.bits.a SX.win.bits.n SX.win.bits.c]) := KX14.out.later b
    have KR15 : Hid (Blk x15 gr 27 [.int .i64 R.kind, .int .i64 R.id, .slice SR.cn.a SR.cn.n SR.cn.c, .slice SR.sn.a SR.sn.n SR.sn.c, .int .i64 R.tick, .slice SR.cookie.a SR.cookie.n SR.cookie.c, .slice SR.proof.a SR.proof.n SR.proof.c, .int .i64 R.epoch, .int .i64 R.seq, .slice SR.body.a SR.body.n SR.body.c, .slice SR.tag.a SR.tag.n SR.tag.c]) := KR14.out.later b
    have OO15 : Hid (EpRd x15 SO O) := OO14.out.later b
    have KO15 : Hid (Blk x15 go 41 [.int .i64 O.n, .slice SO.key.a SO.key.n SO.key.c, .int .i64 O.seq, .int .i64 O.win.top, .slice SO.win.bits.a SO.win.bits.n SO.win.bits.c]) := KO14.out.later b
    have OY15 : Hid (EpRd x15 SY Y) := OY14.out.later b
    have O215 : Hid (SRd x15 SP lp) := O214.out.later b
    have KY15 : Hid (Blk x15 gy 41 [.int .i64 Y.n, .slice SY.key.a SY.key.n SY.key.c, .int .i64 Y.seq, .int .i64 Y.win.top, .slice SY.win.bits.a SY.win.bits.n SY.win.bits.c]) := KY14.out.later b
    have OZ15 : Hid (EpRd x15 SZ Y) := OZ14.out.later b
    have KZ15 : Hid (Blk x15 gz 41 [.int .i64 Y.n, .slice SZ.key.a SZ.key.n SZ.key.c, .int .i64 Y.seq, .int .i64 Y.win.top, .slice SZ.win.bits.a SZ.win.bits.n SZ.win.bits.c]) := KZ14.out.later b
    clear b B14 OE14 OQ14 OP14 KE14 OX14 OF14 KX14 KR14 OO14 KO14 OY14 O214 KY14 OZ14 KZ14
    have da0 := KY15.out.cell 0 rfl
    have da1 := KY15.out.cell 1 rfl
    have da2 := KY15.out.cell 2 rfl
    have da3 := KY15.out.cell 3 rfl
    have da4 := KY15.out.cell 4 rfl
    go_wp2_with fail
    refine (epOkV SY Y true x15 OY15.out HYO.out).mono ?_
    rintro e x16 ⟨rfl, b⟩
    clear da0 da1 da2 da3 da4
    have L16 : Hid (x15.heap.size ≤ x16.heap.size) := b.size
    have B16 : Hid (Below w.heap.size w x16) := B15.out.trans (b.mono B15.out.size)
    have OE16 : Hid (EpRd x16 S D) := OE15.out.later b
    have OQ16 : Hid (SRd x16 Q sn) := OQ15.out.later b
    have OP16 : Hid (SRd x16 P lp) := OP15.out.later b
    have KE16 : Hid (Blk x16 ge 41 [.int .i64 D.n, .slice S.key.a S.key.n S.key.c, .int .i64 D.seq, .int .i64 D.win.top, .slice S.win.bits.a S.win.bits.n S.win.bits.c]) := KE15.out.later b
    have OX16 : Hid (EpRd x16 SX X) := OX15.out.later b
    have OF16 : Hid (FrRd x16 SR R) := OF15.out.later b
    have KX16 : Hid (Blk x16 gx 41 [.int .i64 X.n, .slice SX.key.a SX.key.n SX.key.c, .int .i64 X.seq, .int .i64 X.win.top, .slice SX.win.bits.a SX.win.bits.n SX.win.bits.c]) := KX15.out.later b
    have KR16 : Hid (Blk x16 gr 27 [.int .i64 R.kind, .int .i64 R.id, .slice SR.cn.a SR.cn.n SR.cn.c, .slice SR.sn.a SR.sn.n SR.sn.c, .int .i64 R.tick, .slice SR.cookie.a SR.cookie.n SR.cookie.c, .slice SR.proof.a SR.proof.n SR.proof.c, .int .i64 R.epoch, .int .i64 R.seq, .slice SR.body.a SR.body.n SR.body.c, .slice SR.tag.a SR.tag.n SR.tag.c]) := KR15.out.later b
    have OO16 : Hid (EpRd x16 SO O) := OO15.out.later b
    have KO16 : Hid (Blk x16 go 41 [.int .i64 O.n, .slice SO.key.a SO.key.n SO.key.c, .int .i64 O.seq, .int .i64 O.win.top, .slice SO.win.bits.a SO.win.bits.n SO.win.bits.c]) := KO15.out.later b
    have OY16 : Hid (EpRd x16 SY Y) := OY15.out.later b
    have O216 : Hid (SRd x16 SP lp) := O215.out.later b
    have KY16 : Hid (Blk x16 gy 41 [.int .i64 Y.n, .slice SY.key.a SY.key.n SY.key.c, .int .i64 Y.seq, .int .i64 Y.win.top, .slice SY.win.bits.a SY.win.bits.n SY.win.bits.c]) := KY15.out.later b
    have OZ16 : Hid (EpRd x16 SZ Y) := OZ15.out.later b
    have KZ16 : Hid (Blk x16 gz 41 [.int .i64 Y.n, .slice SZ.key.a SZ.key.n SZ.key.c, .int .i64 Y.seq, .int .i64 Y.win.top, .slice SZ.win.bits.a SZ.win.bits.n SZ.win.bits.c]) := KZ15.out.later b
    clear b B15 OE15 OQ15 OP15 KE15 OX15 OF15 KX15 KR15 OO15 KO15 OY15 O215 KY15 OZ15 KZ15
    have da0 := KY16.out.cell 0 rfl
    have da1 := KY16.out.cell 1 rfl
    have da2 := KY16.out.cell 2 rfl
    have da3 := KY16.out.cell 3 rfl
    have da4 := KY16.out.cell 4 rfl
    have db0 := KR16.out.cell 0 rfl
    have db1 := KR16.out.cell 1 rfl
    have db2 := KR16.out.cell 2 rfl
    have db3 := KR16.out.cell 3 rfl
    have db4 := KR16.out.cell 4 rfl
    have db5 := KR16.out.cell 5 rfl
    have db6 := KR16.out.cell 6 rfl
    have db7 := KR16.out.cell 7 rfl
    have db8 := KR16.out.cell 8 rfl
    have db9 := KR16.out.cell 9 rfl
    have db10 := KR16.out.cell 10 rfl
    go_wp2_with fail
    refine (hasI SY.win Y.win R.seq true x16 OY16.out.win HYH.out).mono ?_
    rintro e x17 ⟨rfl, b⟩
    clear da0 da1 da2 da3 da4
    clear db0 db1 db2 db3 db4 db5 db6 db7 db8 db9 db10
    have L17 : Hid (x16.heap.size ≤ x17.heap.size) := b.size
    have B17 : Hid (Below w.heap.size w x17) := B16.out.trans (b.mono B16.out.size)
    have OE17 : Hid (EpRd x17 S D) := OE16.out.later b
    have OQ17 : Hid (SRd x17 Q sn) := OQ16.out.later b
    have OP17 : Hid (SRd x17 P lp) := OP16.out.later b
    have KE17 : Hid (Blk x17 ge 41 [.int .i64 D.n, .slice S.key.a S.key.n S.key.c, .int .i64 D.seq, .int .i64 D.win.top, .slice S.win.bits.a S.win.bits.n S.win.bits.c]) := KE16.out.later b
    have OX17 : Hid (EpRd x17 SX X) := OX16.out.later b
    have OF17 : Hid (FrRd x17 SR R) := OF16.out.later b
    have KX17 : Hid (Blk x17 gx 41 [.int .i64 X.n, .slice SX.key.a SX.key.n SX.key.c, .int .i64 X.seq, .int .i64 X.win.top, .slice SX.win.bits.a SX.win.bits.n SX.win.bits.c]) := KX16.out.later b
    have KR17 : Hid (Blk x17 gr 27 [.int .i64 R.kind, .int .i64 R.id, .slice SR.cn.a SR.cn.n SR.cn.c, .slice SR.sn.a SR.sn.n SR.sn.c, .int .i64 R.tick, .slice SR.cookie.a SR.cookie.n SR.cookie.c, .slice SR.proof.a SR.proof.n SR.proof.c, .int .i64 R.epoch, .int .i64 R.seq, .slice SR.body.a SR.body.n SR.body.c, .slice SR.tag.a SR.tag.n SR.tag.c]) := KR16.out.later b
    have OO17 : Hid (EpRd x17 SO O) := OO16.out.later b
    have KO17 : Hid (Blk x17 go 41 [.int .i64 O.n, .slice SO.key.a SO.key.n SO.key.c, .int .i64 O.seq, .int .i64 O.win.top, .slice SO.win.bits.a SO.win.bits.n SO.win.bits.c]) := KO16.out.later b
    have OY17 : Hid (EpRd x17 SY Y) := OY16.out.later b
    have O217 : Hid (SRd x17 SP lp) := O216.out.later b
    have KY17 : Hid (Blk x17 gy 41 [.int .i64 Y.n, .slice SY.key.a SY.key.n SY.key.c, .int .i64 Y.seq, .int .i64 Y.win.top, .slice SY.win.bits.a SY.win.bits.n SY.win.bits.c]) := KY16.out.later b
    have OZ17 : Hid (EpRd x17 SZ Y) := OZ16.out.later b
    have KZ17 : Hid (Blk x17 gz 41 [.int .i64 Y.n, .slice SZ.key.a SZ.key.n SZ.key.c, .int .i64 Y.seq, .int .i64 Y.win.top, .slice SZ.win.bits.a SZ.win.bits.n SZ.win.bits.c]) := KZ16.out.later b
    clear b B16 OE16 OQ16 OP16 KE16 OX16 OF16 KX16 KR16 OO16 KO16 OY16 O216 KY16 OZ16 KZ16
    go_wp2
    go_ret
    exact ⟨rfl, B17.out⟩

set_option maxRecDepth 100000 in
theorem walk (a : Option Addr) (len cap : Nat) (zs : List Int) (w : World) (hT : Tab w) (hE : ErrAt w) (h : IsRow .u8 w a len cap zs) :
    Calls Tryz.prog 4 #[.slice a len cap] w fun e w' => e = .returned (.bool true) ∧ Below w.heap.size w w' := by
  obtain ⟨l, h1, h2, _, h4⟩ := h.read
  by_cases hl : len ≤ 1048576
  · exact small a len cap l w hT hE h1 h2 h4 hl
  · clear h h1 h2 h4
    go_enter Tryz.func4, Tryz.ntmps4
    go_wp2_with fail
    refine (bigYes a len cap w (by omega)).mono ?_
    rintro e w0 ⟨rfl, rfl⟩
    go_wp2
    go_ret
    exact ⟨rfl, Below.refl _ _⟩
end Go.Proofs.YtmcflfpckpjphaaGreatDoor.LawOpens

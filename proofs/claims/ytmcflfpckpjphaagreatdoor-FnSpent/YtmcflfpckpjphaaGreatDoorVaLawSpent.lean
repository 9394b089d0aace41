/-
  The walk of the law FnSpent: at every code data is sealed up to a number, all else up to another one, none is used twice, and none beyond; where the table of round words and the variable that errors.As reads are as the text lays them.
-/
import Derived.Test.YtmcflfpckpjphaaGreatDoorVaDrEp
import Derived.Test.YtmcflfpckpjphaaGreatDoorVaOpP
import Derived.Test.YtmcflfpckpjphaaGreatDoorVaEpK
import Derived.Test.YtmcflfpckpjphaaGreatDoorVaBas8
import Derived.Test.YtmcflfpckpjphaaGreatDoorVaAppS
import Derived.Test.YtmcflfpckpjphaaGreatDoorVaBas7
set_option maxRecDepth 100000
namespace Go.Proofs.YtmcflfpckpjphaaGreatDoor.LawSpent
open Go.RowKit Mem App Blk Draw Zone Res Comp ZoneI WnZ WinP WnK WnG FrZ FrP FrG FrQ FrL SlP SlQ EpZ EpL EpP EpQ EpJ OpP DrEp AppS Bent Shp

theorem okS (S : EpS) (D : EpD) (w : World) (h : EpRd w S D) : Calls Tryz.prog 33 #[epV D S] w fun e w' => e = .returned (.bool (epOk D)) ∧ Below w.heap.size w w' := EpS.specEpOk S D w h
theorem bigNo (a : Option Addr) (len cap : Nat) (w : World) (h : len ≤ 1048576) :
  Calls Tryz.prog 11 #[.slice a len cap] w fun e w' => e = .returned (.bool false) ∧ w = w' := by
 have h' : ¬ ((1048576 : Int) < (len : Int)) := by omega
 go_enter Tryz.func11, Tryz.ntmps11
 go_wp2
 go_ret
 exact ⟨rfl, rfl⟩
theorem bigYes (a : Option Addr) (len cap : Nat) (w : World) (h : 1048576 < len) :
  Calls Tryz.prog 11 #[.slice a len cap] w fun e w' => e = .returned (.bool true) ∧ w = w' := by
 have h' : (1048576 : Int) < (len : Int) := by omega
 go_enter Tryz.func11, Tryz.ntmps11
 go_wp2
 go_ret
 exact ⟨rfl, rfl⟩
set_option maxHeartbeats 16000000 in
theorem small (a : Option Addr) (len cap : Nat) (l : List Int) (w : World) (hT : Tab w) (hE : ErrAt w) (hl : len = l.length) (hr : Rd w a l) (hb : Bytes l) (hlen : len ≤ 1048576) :
  Calls Tryz.prog 6 #[.slice a len cap] w fun e w' => e = .returned (.bool true) ∧ Below w.heap.size w w' := by
 have HR := hid (hr)
 have HL : Hid (len = l.length) := hl
 have HB := hid (hb)
 clear hr hl hb
 have HT := hid (hT)
 have HER := hid (hE)
 clear hT hE
 have B0 : Hid (Below w.heap.size w w) := Below.refl _ _
 go_enter Tryz.func6, Tryz.ntmps6
 go_wp2_with fail
 refine (bigNo a len cap w hlen).mono ?_
 rintro e w0 ⟨rfl, rfl⟩
 go_wp2_with fail
 refine (drawEpSeal a len cap l w HL.out (HR.out.later B0.out (Nat.le_refl _)) HB.out hlen).mono ?_
 rintro e x1 ⟨D, S, ro, Q, sn, kd, P, lp, rfl, sh, l40, oe, oq, op, b⟩
 have L1 := hid (b.size)
 have B1 := hid (B0.out.trans (b.mono B0.out.size))
 clear B0 b
 have HSH := hid (sh)
 have HP4 : Hid (lp.length ≤ 40) := l40
 clear sh l40
 have HLL : Hid (EpShort D 4194304) := ep_short_le HSH.out (by omega)
 have OE1 := hid (oe)
 have OQ1 := hid (oq)
 have OP1 := hid (op)
 clear oe oq op
 have SOE := hid (OE1.out)
 have SOP := hid (OP1.out)
 have BE1 : Hid (Below x1.heap.size x1 x1) := Below.refl _ _
 obtain ⟨x2, hx2⟩ : ∃ x2, x1.alloc (.cells #[.int .i64 D.n, .slice S.key.a S.key.n S.key.c, .int .i64 D.seq, .int .i64 D.win.top, .slice S.win.bits.a S.win.bits.n S.win.bits.c] 41) = x2 := ⟨_, rfl⟩
 have HW2 := hid (hx2)
 have b2 : Below x1.heap.size x1 x2 := by rw [← hx2]; exact (Below.refl _ _).alloc (Nat.le_refl _) _
 have KN : Blk x2 x1.heap.size 41 [.int .i64 D.n, .slice S.key.a S.key.n S.key.c, .int .i64 D.seq, .int .i64 D.win.top, .slice S.win.bits.a S.win.bits.n S.win.bits.c] := by rw [← hx2]; exact Blk.new x1 _ _
 have HSZ2 : Hid (x2.heap.size = x1.heap.size + 1) := by rw [← hx2]; show _ = _; simp
 clear hx2
 have L2 := hid (b2.size)
 have B2 := hid (B1.out.trans (b2.mono B1.out.size))
 have OE2 := hid (OE1.out.later b2)
 have OQ2 := hid (OQ1.out.later b2)
 have OP2 := hid (OP1.out.later b2)
 have BE2 := hid (BE1.out.trans (b2.mono BE1.out.size))
 clear B1 OE1 OQ1 OP1 BE1 b2
 unfold epV
 go_upto_region 4 with fail
 rw [HW2.out]
 obtain ⟨ge, hge⟩ : ∃ g, x1.heap.size = g := ⟨_, rfl⟩
 have Gge : Hid (x1.heap.size = ge ∧ x2.heap.size = ge + 1) := ⟨hge, by rw [← hge]; exact HSZ2.out⟩
 rw [hge] at KN ⊢
 clear HW2 HSZ2 hge
 have KE2 := hid (KN)
 clear KN
 obtain ⟨d0, d1, d2, d3, d4⟩ := cells5 KE2.out
 go_wp2_with fail
 refine (okS S D x2 OE2.out).mono ?_
 rintro e x3 ⟨rfl, b⟩
 have L3 := hid (b.size)
 have B3 := hid (B2.out.trans (b.mono B2.out.size))
 have OE3 := hid (OE2.out.later b)
 have OQ3 := hid (OQ2.out.later b)
 have OP3 := hid (OP2.out.later b)
 have BE3 := hid (BE2.out.trans (b.mono BE2.out.size))
 have KE3 := hid (KE2.out.later b)
 clear B2 OE2 OQ2 OP2 BE2 KE2 b
 clear d0 d1 d2 d3 d4
 cases h0 : epOk D with
 | false =>
  obtain ⟨X, hX⟩ : ∃ z : EpD, esE D ro sn kd lp = z := ⟨_, rfl⟩
  have HX : Hid (esE D ro sn kd lp = X) := hX
  clear hX
  obtain ⟨R, hR⟩ : ∃ z : FrD, esF D ro sn kd lp = z := ⟨_, rfl⟩
  have HR2 : Hid (esF D ro sn kd lp = R) := hR
  clear hR
  have HC1 : Hid (esCode D ro sn kd lp = 1) := noform h0
  obtain ⟨da0, da1, da2, da3, da4⟩ := cells5 KE3.out
  go_wp2_with fail
  refine (EpK.implEpSeal S D Q P sn lp ro kd x3 (HT.out.later B3.out) (HER.out.later B3.out) OE3.out HLL.out OQ3.out OP3.out).mono ?_
  unfold EpK.AnsQ
  rw [HX.out, HR2.out, HC1.out]
  rintro e x4 ⟨SX, SR, p0, q0, p1, q1, rfl, ox, of, oz, b⟩
  clear da0 da1 da2 da3 da4
  have L4 := hid (b.size)
  have B4 := hid (B3.out.trans (b.mono B3.out.size))
  have OE4 := hid (OE3.out.later b)
  have OQ4 := hid (OQ3.out.later b)
  have OP4 := hid (OP3.out.later b)
  have BE4 := hid (BE3.out.trans (b.mono BE3.out.size))
  have KE4 := hid (KE3.out.later b)
  clear B3 OE3 OQ3 OP3 BE3 KE3 b
  clear ox of oz
  obtain ⟨x5, hx5⟩ : ∃ zz, (x4.alloc (.cells #[.int .i64 X.n, .slice SX.key.a SX.key.n SX.key.c, .int .i64 X.seq, .int .i64 X.win.top, .slice SX.win.bits.a SX.win.bits.n SX.win.bits.c] 41)).alloc (.cells #[.int .i64 R.kind, .int .i64 R.id, .slice SR.cn.a SR.cn.n SR.cn.c, .slice SR.sn.a SR.sn.n SR.sn.c, .int .i64 R.tick, .slice SR.cookie.a SR.cookie.n SR.cookie.c, .slice SR.proof.a SR.proof.n SR.proof.c, .int .i64 R.epoch, .int .i64 R.seq, .slice SR.body.a SR.body.n SR.body.c, .slice SR.tag.a SR.tag.n SR.tag.c] 27) = zz := ⟨_, rfl⟩
  have HW5 := hid (hx5)
  have b5 : Below x4.heap.size x4 x5 := by rw [← hx5]; exact ((Below.refl _ _).alloc (Nat.le_refl _) _).alloc (by simp) _
  have KN1 : Blk x5 x4.heap.size 41 [.int .i64 X.n, .slice SX.key.a SX.key.n SX.key.c, .int .i64 X.seq, .int .i64 X.win.top, .slice SX.win.bits.a SX.win.bits.n SX.win.bits.c] := by rw [← hx5]; exact (Blk.new x4 _ _).alloc _
  have KN2 : Blk x5 (x4.heap.size + 1) 27 [.int .i64 R.kind, .int .i64 R.id, .slice SR.cn.a SR.cn.n SR.cn.c, .slice SR.sn.a SR.sn.n SR.sn.c, .int .i64 R.tick, .slice SR.cookie.a SR.cookie.n SR.cookie.c, .slice SR.proof.a SR.proof.n SR.proof.c, .int .i64 R.epoch, .int .i64 R.seq, .slice SR.body.a SR.body.n SR.body.c, .slice SR.tag.a SR.tag.n SR.tag.c] := by
   have q := Blk.new (x4.alloc (.cells #[.int .i64 X.n, .slice SX.key.a SX.key.n SX.key.c, .int .i64 X.seq, .int .i64 X.win.top, .slice SX.win.bits.a SX.win.bits.n SX.win.bits.c] 41)) 27 [.int .i64 R.kind, .int .i64 R.id, .slice SR.cn.a SR.cn.n SR.cn.c, .slice SR.sn.a SR.sn.n SR.sn.c, .int .i64 R.tick, .slice SR.cookie.a SR.cookie.n SR.cookie.c, .slice SR.proof.a SR.proof.n SR.proof.c, .int .i64 R.epoch, .int .i64 R.seq, .slice SR.body.a SR.body.n SR.body.c, .slice SR.tag.a SR.tag.n SR.tag.c]
   rw [World.size_alloc] at q
   rw [← hx5]; exact q
  clear hx5
  have L5 := hid (b5.size)
  have B5 := hid (B4.out.trans (b5.mono B4.out.size))
  have OE5 := hid (OE4.out.later b5)
  have OQ5 := hid (OQ4.out.later b5)
  have OP5 := hid (OP4.out.later b5)
  have BE5 := hid (BE4.out.trans (b5.mono BE4.out.size))
  have KE5 := hid (KE4.out.later b5)
  clear B4 OE4 OQ4 OP4 BE4 KE4 b5
  unfold epV frV
  go_upto_region 6 with fail
  rw [HW5.out]
  obtain ⟨gx, hgx⟩ : ∃ g, x4.heap.size = g := ⟨_, rfl⟩
  obtain ⟨gr, hgr⟩ : ∃ g, x4.heap.size + 1 = g := ⟨_, rfl⟩
  have Ggx : Hid (x4.heap.size = gx ∧ gx + 1 = gr ∧ gr + 1 ≤ x5.heap.size) := ⟨hgx, by omega, by have := KN2.lt; omega⟩
  rw [hgx] at KN1
  rw [hgr] at KN2
  rw [hgr, hgx]
  clear HW5 hgx hgr
  have KX5 := hid (KN1)
  have KR5 := hid (KN2)
  clear KN1 KN2
  go_wp2
  go_ret
  exact ⟨rfl, B5.out⟩
 | true =>
  have HOK : Hid (epOk D = true) := h0
  go_wp2_with fail
  refine (atN a len cap l 2 x3 HL.out (HR.out.later B3.out (Nat.le_refl _)) HB.out hlen (by omega)).mono ?_
  rintro e y ⟨e2, rfl, ea, eb, rfl⟩
  obtain ⟨m3, hm3⟩ : ∃ z, e2.tmod 3 = z := ⟨_, rfl⟩
  have hm0 : 0 ≤ m3 := by rw [← hm3, Int.tmod_eq_emod_of_nonneg ea]; omega
  have hm2 : m3 ≤ 2 := by rw [← hm3, Int.tmod_eq_emod_of_nonneg ea]; omega
  clear ea eb
  have z2 := KE3.out.cell 2 rfl
  have y2 := KE3.out.frozen 2
  obtain ⟨x4, hx4⟩ : ∃ zz, x3.setCell ⟨ge, 2, none⟩ (.int .i64 (281474976710656 - m3)) = zz := ⟨_, rfl⟩
  have HW4 := hid (hx4)
  have KS : Blk x4 ge 41 [.int .i64 D.n, .slice S.key.a S.key.n S.key.c, .int .i64 (281474976710656 - m3), .int .i64 D.win.top, .slice S.win.bits.a S.win.bits.n S.win.bits.c] := by rw [← hx4]; exact KE3.out.set 2 _ (by simp [maxLen])
  have LS : Hid (x4.heap.size = x3.heap.size) := by rw [← hx4]; show _ = _; simp
  have B4 : Hid (Below w.heap.size w x4) := by rw [← hx4]; exact B3.out.setCell (by show _ ≤ ge; have := hid4 L1 L2 Gge L3; omega) _
  have BE4 : Hid (Below x1.heap.size x1 x4) := by rw [← hx4]; exact BE3.out.setCell (by show _ ≤ ge; have := hid4 L1 L2 Gge L3; omega) _
  clear hx4 B3 OE3 OQ3 OP3 BE3 KE3
  go_upto_region 8 with fail
  rw [HW4.out]
  clear HW4 z2 y2
  obtain ⟨q, hq⟩ : ∃ z : Int, 281474976710656 - m3 = z := ⟨_, rfl⟩
  have HQ : Hid (281474976710654 ≤ q ∧ q ≤ 281474976710656) := by show _ ∧ _; omega
  rw [hq] at KS
  clear hq hm0 hm2 hm3
  obtain ⟨F, hF⟩ : ∃ z : EpD, z = { D with seq := q } := ⟨_, rfl⟩
  have HFD : Hid (F = { D with seq := q }) := hF
  have KT : Blk x4 ge 41 [.int .i64 F.n, .slice S.key.a S.key.n S.key.c, .int .i64 F.seq, .int .i64 F.win.top, .slice S.win.bits.a S.win.bits.n S.win.bits.c] := by rw [hF]; exact KS
  have HFL : Hid (EpShort F 4194304) := by rw [hF]; exact ⟨HLL.out.key, HLL.out.win⟩
  clear hF KS
  have OF4 : Hid (EpRd x4 S F) := (by rw [HFD.out]; exact ⟨(SOE.out.later BE4.out).key, (SOE.out.later BE4.out).win⟩)
  have OP4 := hid (SOP.out.later BE4.out)
  have KE4 := hid (KT)
  clear KT
  clear BE4
  go_wp2_with (at_builtin; refine wpList_appC _ rfl (.tmp 52) (.const _) rfl x4.heap.size x4.heap.size rfl (row_new x4 [] (by simp)) (Nat.le_refl _) _ rfl 12 [116, 119, 101, 108, 118, 101, 32, 98, 121, 116, 101, 115] rfl (by omega) rfl ?_; intro gt ct x5 rt bt lt grt)
  have b : Below x4.heap.size x4 x5 := ((Below.refl _ _).alloc (Nat.le_refl _) _).grown grt (((Below.refl _ _).alloc (Nat.le_refl _) _).size) (fun k h => by cases h; exact Nat.le_refl _)
  obtain ⟨tw, htw⟩ : ∃ z : List Int, [116, 119, 101, 108, 118, 101, 32, 98, 121, 116, 101, 115] = z := ⟨_, rfl⟩
  have HTW : Hid (tw.length = 12) := by rw [← htw]; rfl
  have ot : SOwn x5 gt (gt + 1) ⟨some ⟨gt, 0, none⟩, 12, ct⟩ tw := by rw [← htw]; exact SOwn.row rt rfl (by intro z hz; simp at hz; omega) (Nat.le_refl _) (by omega)
  have HGT : Hid (x4.heap.size ≤ gt ∧ gt < x5.heap.size) := ⟨bt, lt⟩
  clear htw rt bt lt grt
  have L5 := hid (b.size)
  have B5 := hid (B4.out.trans (b.mono B4.out.size))
  have OF5 := hid (OF4.out.later b)
  have OP5 := hid (OP4.out.later b)
  have KE5 := hid (KE4.out.later b)
  clear B4 OF4 OP4 KE4 b
  have OT5 := hid (ot)
  clear ot
  go_wp2_with fail
  refine (atN a len cap l 3 x5 HL.out (HR.out.later B5.out (Nat.le_refl _)) HB.out hlen (by omega)).mono ?_
  rintro e y ⟨e3, rfl, ea, eb, rfl⟩
  obtain ⟨r2, hr2⟩ : ∃ z, e3.tmod 2 = z := ⟨_, rfl⟩
  have HRO : Hid (0 ≤ r2 ∧ r2 ≤ 1) := by show _ ∧ _; rw [← hr2, Int.tmod_eq_emod_of_nonneg ea]; omega
  clear ea eb
  obtain ⟨X, hX⟩ : ∃ z : EpD, esE F r2 tw 4 lp = z := ⟨_, rfl⟩
  have HX : Hid (esE F r2 tw 4 lp = X) := hX
  clear hX
  obtain ⟨R, hR⟩ : ∃ z : FrD, esF F r2 tw 4 lp = z := ⟨_, rfl⟩
  have HR2 : Hid (esF F r2 tw 4 lp = R) := hR
  clear hR
  have HC4 : Hid (esCode F r2 tw 4 lp = 4) := by show _ = _; rw [HFD.out, spent_data HOK.out HRO.out HTW.out HQ.out, if_pos HP4.out]
  obtain ⟨da0, da1, da2, da3, da4⟩ := cells5 KE5.out
  go_wp2_with fail
  refine (EpK.implEpSeal S F ⟨some ⟨gt, 0, none⟩, 12, ct⟩ P tw lp r2 4 x5 (HT.out.later B5.out) (HER.out.later B5.out) OF5.out HFL.out OT5.out.rd OP5.out).mono ?_
  unfold EpK.AnsQ
  rw [HX.out, HR2.out, HC4.out]
  rintro e x6 ⟨SX, SR, p0, q0, p1, q1, rfl, ox, of, oz, b⟩
  clear da0 da1 da2 da3 da4
  have L6 := hid (b.size)
  have B6 := hid (B5.out.trans (b.mono B5.out.size))
  have OF6 := hid (OF5.out.later b)
  have OP6 := hid (OP5.out.later b)
  have KE6 := hid (KE5.out.later b)
  have OT6 := hid (OT5.out.later b)
  clear B5 OF5 OP5 KE5 OT5 b
  clear ox of oz hr2 HX HR2 HC4
  obtain ⟨x7, hx7⟩ : ∃ zz, (x6.alloc (.cells #[.int .i64 X.n, .slice SX.key.a SX.key.n SX.key.c, .int .i64 X.seq, .int .i64 X.win.top, .slice SX.win.bits.a SX.win.bits.n SX.win.bits.c] 41)).alloc (.cells #[.int .i64 R.kind, .int .i64 R.id, .slice SR.cn.a SR.cn.n SR.cn.c, .slice SR.sn.a SR.sn.n SR.sn.c, .int .i64 R.tick, .slice SR.cookie.a SR.cookie.n SR.cookie.c, .slice SR.proof.a SR.proof.n SR.proof.c, .int .i64 R.epoch, .int .i64 R.seq, .slice SR.body.a SR.body.n SR.body.c, .slice SR.tag.a SR.tag.n SR.tag.c] 27) = zz := ⟨_, rfl⟩
  have HW7 := hid (hx7)
  have b7 : Below x6.heap.size x6 x7 := by rw [← hx7]; exact ((Below.refl _ _).alloc (Nat.le_refl _) _).alloc (by simp) _
  have KN1 : Blk x7 x6.heap.size 41 [.int .i64 X.n, .slice SX.key.a SX.key.n SX.key.c, .int .i64 X.seq, .int .i64 X.win.top, .slice SX.win.bits.a SX.win.bits.n SX.win.bits.c] := by rw [← hx7]; exact (Blk.new x6 _ _).alloc _
  have KN2 : Blk x7 (x6.heap.size + 1) 27 [.int .i64 R.kind, .int .i64 R.id, .slice SR.cn.a SR.cn.n SR.cn.c, .slice SR.sn.a SR.sn.n SR.sn.c, .int .i64 R.tick, .slice SR.cookie.a SR.cookie.n SR.cookie.c, .slice SR.proof.a SR.proof.n SR.proof.c, .int .i64 R.epoch, .int .i64 R.seq, .slice SR.body.a SR.body.n SR.body.c, .slice SR.tag.a SR.tag.n SR.tag.c] := by
   have q := Blk.new (x6.alloc (.cells #[.int .i64 X.n, .slice SX.key.a SX.key.n SX.key.c, .int .i64 X.seq, .int .i64 X.win.top, .slice SX.win.bits.a SX.win.bits.n SX.win.bits.c] 41)) 27 [.int .i64 R.kind, .int .i64 R.id, .slice SR.cn.a SR.cn.n SR.cn.c, .slice SR.sn.a SR.sn.n SR.sn.c, .int .i64 R.tick, .slice SR.cookie.a SR.cookie.n SR.cookie.c, .slice SR.proof.a SR.proof.n SR.proof.c, .int .i64 R.epoch, .int .i64 R.seq, .slice SR.body.a SR.body.n SR.body.c, .slice SR.tag.a SR.tag.n SR.tag.c]
   rw [World.size_alloc] at q
   rw [← hx7]; exact q
  clear hx7
  have L7 := hid (b7.size)
  have B7 := hid (B6.out.trans (b7.mono B6.out.size))
  have OF7 := hid (OF6.out.later b7)
  have OP7 := hid (OP6.out.later b7)
  have KE7 := hid (KE6.out.later b7)
  have OT7 := hid (OT6.out.later b7)
  clear B6 OF6 OP6 KE6 OT6 b7
  unfold epV frV
  go_upto_region 11 with fail
  rw [HW7.out]
  obtain ⟨gA, hgA⟩ : ∃ g, x6.heap.size = g := ⟨_, rfl⟩
  obtain ⟨gB, hgB⟩ : ∃ g, x6.heap.size + 1 = g := ⟨_, rfl⟩
  have GgA : Hid (x6.heap.size = gA ∧ gA + 1 = gB ∧ gB + 1 ≤ x7.heap.size) := ⟨hgA, by omega, by have := KN2.lt; omega⟩
  rw [hgA] at KN1
  rw [hgB] at KN2
  rw [hgB, hgA]
  clear HW7 hgA hgB
  have KA7 := hid (KN1)
  have KB7 := hid (KN2)
  clear KN1 KN2
  clear KA7 KB7
  have hp : (P.n : Int) ≤ 40 := by have := OP7.out.len; have := HP4.out; omega
  obtain ⟨d0, d1, d2, d3, d4⟩ := cells5 KE7.out
  go_upto_region 13 with fail
  obtain ⟨x8, hx8⟩ : ∃ x8, x7.alloc (.cells #[.int .i64 F.n, .slice S.key.a S.key.n S.key.c, .int .i64 F.seq, .int .i64 F.win.top, .slice S.win.bits.a S.win.bits.n S.win.bits.c] 41) = x8 := ⟨_, rfl⟩
  have HW8 := hid (hx8)
  have b8 : Below x7.heap.size x7 x8 := by rw [← hx8]; exact (Below.refl _ _).alloc (Nat.le_refl _) _
  have KN : Blk x8 x7.heap.size 41 [.int .i64 F.n, .slice S.key.a S.key.n S.key.c, .int .i64 F.seq, .int .i64 F.win.top, .slice S.win.bits.a S.win.bits.n S.win.bits.c] := by rw [← hx8]; exact Blk.new x7 _ _
  have HSZ8 : Hid (x8.heap.size = x7.heap.size + 1) := by rw [← hx8]; show _ = _; simp
  clear hx8
  have L8 := hid (b8.size)
  have B8 := hid (B7.out.trans (b8.mono B7.out.size))
  have OF8 := hid (OF7.out.later b8)
  have OP8 := hid (OP7.out.later b8)
  have KE8 := hid (KE7.out.later b8)
  have OT8 := hid (OT7.out.later b8)
  clear B7 OF7 OP7 KE7 OT7 b8
  go_upto_region 14 with fail
  rw [HW8.out]
  obtain ⟨gx, hgx⟩ : ∃ g, x7.heap.size = g := ⟨_, rfl⟩
  have Ggx : Hid (x7.heap.size = gx ∧ x8.heap.size = gx + 1) := ⟨hgx, by rw [← hgx]; exact HSZ8.out⟩
  rw [hgx] at KN ⊢
  clear HW8 HSZ8 hgx
  have KX8 := hid (KN)
  clear KN
  clear d0 d1 d2 d3 d4 hp
  have INI : Hid (Blk x8 gx 41 [.int .i64 D.n, .slice S.key.a S.key.n S.key.c, .int .i64 q, .int .i64 D.win.top, .slice S.win.bits.a S.win.bits.n S.win.bits.c] ∧ EpRd x8 S { D with seq := q }) := by have k := KX8.out; have r := OF8.out; rw [HFD.out] at k r; exact ⟨k, r⟩
  have INQ : Hid (281474976710654 ≤ q ∧ q ≤ 281474976710656 ∧ (q = 281474976710656 ∨ 281474976710656 - q + ((0 : Nat) : Int) ≤ 2)) := by have := HQ.out; exact ⟨this.1, this.2, .inr (by omega)⟩
  have HGX : Hid (gt + 1 ≤ gx ∧ w.heap.size ≤ gx) := by have := B8.out.size; have := hid8 L1 L2 Gge L3 LS L5 HGT L6; have := hid4 L7 GgA L8 Ggx; show _ ∧ _; omega
  go_wp2
  go_loopw [15] (fun i wr => ∃ (k : Nat) (Sk : EpS) (sq : Int), k ≤ 3 ∧ i = .int .i64 k ∧ Blk wr gx 41 [.int .i64 D.n, .slice Sk.key.a Sk.key.n Sk.key.c, .int .i64 sq, .int .i64 D.win.top, .slice Sk.win.bits.a Sk.win.bits.n Sk.win.bits.c] ∧ EpRd wr Sk { D with seq := sq } ∧ SOwn wr gt (gt + 1) ⟨some ⟨gt, 0, none⟩, 12, ct⟩ tw ∧ (281474976710654 ≤ sq ∧ sq ≤ 281474976710656 ∧ (sq = 281474976710656 ∨ 281474976710656 - sq + (k : Int) ≤ 2)) ∧ Below w.heap.size w wr ∧ gx + 1 ≤ wr.heap.size) (fun i _ => 3 - (intOf i).toNat)
  case atStart => exact ⟨0, S, q, Nat.zero_le _, rfl, INI.out.1, INI.out.2, OT8.out, INQ.out, B8.out, KX8.out.lt⟩
  case round =>
   obtain ⟨k, Sk, sq, hk, rfl, kx, rx, tx, qx, bx, lx⟩ := hrel
   obtain ⟨G, hG⟩ : ∃ z : EpD, z = { D with seq := sq } := ⟨_, rfl⟩
   have HGD : Hid (G = { D with seq := sq }) := hG
   have KXr : Hid (Blk wr gx 41 [.int .i64 G.n, .slice Sk.key.a Sk.key.n Sk.key.c, .int .i64 G.seq, .int .i64 G.win.top, .slice Sk.win.bits.a Sk.win.bits.n Sk.win.bits.c]) := by rw [hG]; exact kx
   have RXr : Hid (EpRd wr Sk G) := by rw [hG]; exact rx
   have TXr := hid (tx)
   have QX : Hid (281474976710654 ≤ sq ∧ sq ≤ 281474976710656 ∧ (sq = 281474976710656 ∨ 281474976710656 - sq + (k : Int) ≤ 2)) := qx
   have BXr := hid (bx)
   have LXr : Hid (gx + 1 ≤ wr.heap.size ∧ w.heap.size ≤ wr.heap.size) := ⟨lx, bx.size⟩
   have HGO : Hid (epOk G = true) := by show _ = _; rw [hG]; obtain ⟨e1, e2, e3, e4⟩ := epOk_parts HOK.out; exact epOk_of e1 e2 ⟨by show 0 ≤ sq; omega, by show sq ≤ _; omega⟩ e4
   have HGL : Hid (EpShort G 4194304) := by rw [hG]; exact ⟨HLL.out.key, HLL.out.win⟩
   have HGS : Hid (G.seq = sq) := by rw [hG]; rfl
   clear hG kx rx tx qx bx lx
   clear B8 OF8 OP8 KE8 OT8 KX8 INI INQ
   by_cases hlt : k < 3
   ·
    by_cases hs : sq < 281474976710656
    ·
     skip
     obtain ⟨X, hX⟩ : ∃ z : EpD, esE G r2 tw 7 [0, 0, 0, 1] = z := ⟨_, rfl⟩
     have HX : Hid (esE G r2 tw 7 [0, 0, 0, 1] = X) := hX
     clear hX
     obtain ⟨R, hR⟩ : ∃ z : FrD, esF G r2 tw 7 [0, 0, 0, 1] = z := ⟨_, rfl⟩
     have HR2 : Hid (esF G r2 tw 7 [0, 0, 0, 1] = R) := hR
     clear hR
     have HC7 : Hid (esCode G r2 tw 7 [0, 0, 0, 1] = 0) := by show _ = _; rw [spent_rekey HGO.out HRO.out HTW.out rfl, HGS.out, if_pos hs]
     have HXD : Hid (X = { D with seq := (sq + 1) }) := by show _ = _; rw [← HX.out, esE_yes HC7.out, HGD.out]
     have HXQ : Hid (X.seq = (sq + 1)) := by rw [HXD.out]; rfl
     have HRQ : Hid (R.seq = G.seq) := by show _ = _; rw [← HR2.out, esF_yes HC7.out]; rfl
     have B90 := hid (BXr.out)
     have KX90 := hid (KXr.out)
     have RX90 := hid (RXr.out)
     have TX90 := hid (TXr.out)
     obtain ⟨d0, d1, d2, d3, d4⟩ := cells5 KX90.out
     go_wp2_with fail
     obtain ⟨x91, hx91⟩ : ∃ zz, wr.alloc (.cells #[.int .u8 0, .int .u8 0, .int .u8 0, .int .u8 1] 5) = zz := ⟨_, rfl⟩
     have HW91 := hid (hx91)
     have b : Below wr.heap.size wr x91 := by rw [← hx91]; exact (Below.refl _ _).alloc (Nat.le_refl _) _
     have o4 : SRd x91 ⟨some ⟨wr.heap.size, 0, none⟩, 4, 4⟩ [0, 0, 0, 1] := by rw [← hx91]; exact (SOwn.row (lo := 0) (hi := wr.heap.size + 1) (row_new wr [0, 0, 0, 1] (by simp [maxLen])) rfl (by intro z hz; simp at hz; omega) (Nat.zero_le _) (by omega)).rd
     clear hx91
     have L91 := hid (b.size)
     have B91 := hid (B90.out.trans (b.mono B90.out.size))
     have KX91 := hid (KX90.out.later b)
     have RX91 := hid (RX90.out.later b)
     have TX91 := hid (TX90.out.later b)
     clear B90 KX90 RX90 TX90 b
     rw [HW91.out]
     obtain ⟨g4, hg4⟩ : ∃ g, wr.heap.size = g := ⟨_, rfl⟩
     rw [hg4] at o4 ⊢
     clear HW91 hg4
     have O491 := hid (o4)
     clear o4
     refine (EpK.implEpSeal Sk G ⟨some ⟨gt, 0, none⟩, 12, ct⟩ ⟨some ⟨g4, 0, none⟩, 4, 4⟩ tw [0, 0, 0, 1] r2 7 x91 (HT.out.later B91.out) (HER.out.later B91.out) RX91.out HGL.out TX91.out.rd O491.out).mono ?_
     unfold EpK.AnsQ
     rw [HX.out, HR2.out, HC7.out]
     rintro e x92 ⟨SX, SR, p0, q0, p1, q1, rfl, ox, of, oz, b⟩
     clear d0 d1 d2 d3 d4
     have OZ : Hid (x91.heap.size ≤ p0 ∧ p0 ≤ p0) := ⟨oz.1, Nat.le_refl _⟩
     clear of oz
     have L92 := hid (b.size)
     have B92 := hid (B91.out.trans (b.mono B91.out.size))
     have KX92 := hid (KX91.out.later b)
     have RX92 := hid (RX91.out.later b)
     have TX92 := hid (TX91.out.later b)
     have O492 := hid (O491.out.later b)
     clear B91 KX91 RX91 TX91 O491 b
     have OX92 := hid (ox)
     clear ox
     obtain ⟨x93, hx93⟩ : ∃ zz, (x92.alloc (.cells #[.int .i64 X.n, .slice SX.key.a SX.key.n SX.key.c, .int .i64 X.seq, .int .i64 X.win.top, .slice SX.win.bits.a SX.win.bits.n SX.win.bits.c] 41)).alloc (.cells #[.int .i64 R.kind, .int .i64 R.id, .slice SR.cn.a SR.cn.n SR.cn.c, .slice SR.sn.a SR.sn.n SR.sn.c, .int .i64 R.tick, .slice SR.cookie.a SR.cookie.n SR.cookie.c, .slice SR.proof.a SR.proof.n SR.proof.c, .int .i64 R.epoch, .int .i64 R.seq, .slice SR.body.a SR.body.n SR.body.c, .slice SR.tag.a SR.tag.n SR.tag.c] 27) = zz := ⟨_, rfl⟩
     have HW93 := hid (hx93)
     have b93 : Below x92.heap.size x92 x93 := by rw [← hx93]; exact ((Below.refl _ _).alloc (Nat.le_refl _) _).alloc (by simp) _
     have KN1 : Blk x93 x92.heap.size 41 [.int .i64 X.n, .slice SX.key.a SX.key.n SX.key.c, .int .i64 X.seq, .int .i64 X.win.top, .slice SX.win.bits.a SX.win.bits.n SX.win.bits.c] := by rw [← hx93]; exact (Blk.new x92 _ _).alloc _
     have KN2 : Blk x93 (x92.heap.size + 1) 27 [.int .i64 R.kind, .int .i64 R.id, .slice SR.cn.a SR.cn.n SR.cn.c, .slice SR.sn.a SR.sn.n SR.sn.c, .int .i64 R.tick, .slice SR.cookie.a SR.cookie.n SR.cookie.c, .slice SR.proof.a SR.proof.n SR.proof.c, .int .i64 R.epoch, .int .i64 R.seq, .slice SR.body.a SR.body.n SR.body.c, .slice SR.tag.a SR.tag.n SR.tag.c] := by
      have q := Blk.new (x92.alloc (.cells #[.int .i64 X.n, .slice SX.key.a SX.key.n SX.key.c, .int .i64 X.seq, .int .i64 X.win.top, .slice SX.win.bits.a SX.win.bits.n SX.win.bits.c] 41)) 27 [.int .i64 R.kind, .int .i64 R.id, .slice SR.cn.a SR.cn.n SR.cn.c, .slice SR.sn.a SR.sn.n SR.sn.c, .int .i64 R.tick, .slice SR.cookie.a SR.cookie.n SR.cookie.c, .slice SR.proof.a SR.proof.n SR.proof.c, .int .i64 R.epoch, .int .i64 R.seq, .slice SR.body.a SR.body.n SR.body.c, .slice SR.tag.a SR.tag.n SR.tag.c]
      rw [World.size_alloc] at q
      rw [← hx93]; exact q
     clear hx93
     have L93 := hid (b93.size)
     have B93 := hid (B92.out.trans (b93.mono B92.out.size))
     have KX93 := hid (KX92.out.later b93)
     have RX93 := hid (RX92.out.later b93)
     have TX93 := hid (TX92.out.later b93)
     have O493 := hid (O492.out.later b93)
     have OX93 := hid (OX92.out.later b93)
     clear B92 KX92 RX92 TX92 O492 OX92 b93
     unfold epV frV
     go_upto_region 18 with fail
     rw [HW93.out]
     obtain ⟨gy, hgy⟩ : ∃ g, x92.heap.size = g := ⟨_, rfl⟩
     obtain ⟨gr, hgr⟩ : ∃ g, x92.heap.size + 1 = g := ⟨_, rfl⟩
     have Ggy : Hid (x92.heap.size = gy ∧ gy + 1 = gr ∧ gr + 1 ≤ x93.heap.size) := ⟨hgy, by omega, by have := KN2.lt; omega⟩
     rw [hgy] at KN1
     rw [hgr] at KN2
     rw [hgr, hgy]
     clear HW93 hgy hgr
     have KY93 := hid (KN1)
     have KR93 := hid (KN2)
     clear KN1 KN2
     have t1 : G.seq < 281474976710656 := by rw [HGS.out]; omega
     have t2 : ¬ (X.seq > 281474976710656) := by rw [HXQ.out]; have := QX.out; omega
     have t3 : (R.seq != G.seq) = false := by have := HRQ.out; simpa using this
     obtain ⟨a0, a1, a2, a3, a4⟩ := cells5 KX93.out
     obtain ⟨b0, b1, b2, b3, b4⟩ := cells5 KY93.out
     obtain ⟨e0, e1, e2, e3, e4, e5, e6, e7, e8, e9, e10⟩ := cells11 KR93.out
     go_upto_region 20 with fail
     clear a0 a1 a2 a3 a4 e0 e1 e2 e3 e4 e5 e6 e7 e8 e9 e10 t1 t2 t3
     have co0 := KX93.out.cell 0 rfl
     have fo0 := KX93.out.frozen 0
     have co1 := KX93.out.cell 1 rfl
     have fo1 := KX93.out.frozen 1
     have co2 := KX93.out.cell 2 rfl
     have fo2 := KX93.out.frozen 2
     have co3 := KX93.out.cell 3 rfl
     have fo3 := KX93.out.frozen 3
     have co4 := KX93.out.cell 4 rfl
     have fo4 := KX93.out.frozen 4
     obtain ⟨x94, hx94⟩ : ∃ y, (((((x93.setCell ⟨gx, 0, none⟩ (.int .i64 X.n)).setCell ⟨gx, 1, none⟩ (.slice SX.key.a SX.key.n SX.key.c)).setCell ⟨gx, 2, none⟩ (.int .i64 X.seq)).setCell ⟨gx, 3, none⟩ (.int .i64 X.win.top)).setCell ⟨gx, 4, none⟩ (.slice SX.win.bits.a SX.win.bits.n SX.win.bits.c)) = y := ⟨_, rfl⟩
     have HW94 := hid (hx94)
     have L94 : Hid (x94.heap.size = x93.heap.size) := by rw [← hx94]; show _ = _; simp
     have KS : Blk x94 gx 41 [.int .i64 X.n, .slice SX.key.a SX.key.n SX.key.c, .int .i64 X.seq, .int .i64 X.win.top, .slice SX.win.bits.a SX.win.bits.n SX.win.bits.c] := by rw [← hx94]; exact (((((KX93.out.set 0 _ (by simp [maxLen])).set 1 _ (by simp [maxLen])).set 2 _ (by simp [maxLen])).set 3 _ (by simp [maxLen])).set 4 _ (by simp [maxLen]))
     have KQ : Kept gx (gx + 1) x93 x94 := by rw [← hx94]; exact (((((Kept.setCell _ _ _ _).trans (Kept.setCell _ _ _ _)).trans (Kept.setCell _ _ _ _)).trans (Kept.setCell _ _ _ _)).trans (Kept.setCell _ _ _ _))
     clear hx94
     have B94 := hid (B93.out.trans (KQ.below (by have := hid8 HGT Ggx LXr HGX L91 L92 OZ L93; have := hid2 Ggy L94; omega) B93.out.size))
     have TX94 := hid (TX93.out.carry KQ (by have := hid8 HGT Ggx LXr HGX L91 L92 OZ L93; have := hid2 Ggy L94; omega))
     have OX94 := hid (OX93.out.carry KQ (by have := hid8 HGT Ggx LXr HGX L91 L92 OZ L93; have := hid2 Ggy L94; omega))
     have KY94 := hid (KY93.out.keep (KQ.block _ KY93.out.lt (by have := hid8 HGT Ggx LXr HGX L91 L92 OZ L93; have := hid2 Ggy L94; omega)))
     have KR94 := hid (KR93.out.keep (KQ.block _ KR93.out.lt (by have := hid8 HGT Ggx LXr HGX L91 L92 OZ L93; have := hid2 Ggy L94; omega)))
     clear B93 RX93 TX93 O493 OX93 KY93 KR93 KQ
     clear KX93
     have KX94 := hid (KS)
     clear KS
     go_upto_region 16 with fail
     rw [HW94.out]
     clear HW94 co0 fo0 co1 fo1 co2 fo2 co3 fo3 co4 fo4
     clear b0 b1 b2 b3 b4
     go_wp2
     go_roundw
     case rel =>
      have k9 := KX94.out
      have r9 := OX94.out.rd
      rw [HXD.out] at k9 r9
      exact ⟨k + 1, SX, (sq + 1), by omega, by go_num, k9, r9, TX94.out, (by have := QX.out; refine ⟨by omega, by omega, ?_⟩; omega), B94.out, k9.lt⟩
     case measure => simp [intOf]; omega
    ·
     skip
     obtain ⟨X, hX⟩ : ∃ z : EpD, esE G r2 tw 7 [0, 0, 0, 1] = z := ⟨_, rfl⟩
     have HX : Hid (esE G r2 tw 7 [0, 0, 0, 1] = X) := hX
     clear hX
     obtain ⟨R, hR⟩ : ∃ z : FrD, esF G r2 tw 7 [0, 0, 0, 1] = z := ⟨_, rfl⟩
     have HR2 : Hid (esF G r2 tw 7 [0, 0, 0, 1] = R) := hR
     clear hR
     have HC7 : Hid (esCode G r2 tw 7 [0, 0, 0, 1] = 5) := by show _ = _; rw [spent_rekey HGO.out HRO.out HTW.out rfl, HGS.out, if_neg hs]
     have HXD : Hid (X = { D with seq := sq }) := by show _ = _; rw [← HX.out, esE_no (by rw [HC7.out]; decide), HGD.out]
     have HXQ : Hid (X.seq = sq) := by rw [HXD.out]; rfl
     have B90 := hid (BXr.out)
     have KX90 := hid (KXr.out)
     have RX90 := hid (RXr.out)
     have TX90 := hid (TXr.out)
     obtain ⟨d0, d1, d2, d3, d4⟩ := cells5 KX90.out
     go_wp2_with fail
     obtain ⟨x91, hx91⟩ : ∃ zz, wr.alloc (.cells #[.int .u8 0, .int .u8 0, .int .u8 0, .int .u8 1] 5) = zz := ⟨_, rfl⟩
     have HW91 := hid (hx91)
     have b : Below wr.heap.size wr x91 := by rw [← hx91]; exact (Below.refl _ _).alloc (Nat.le_refl _) _
     have o4 : SRd x91 ⟨some ⟨wr.heap.size, 0, none⟩, 4, 4⟩ [0, 0, 0, 1] := by rw [← hx91]; exact (SOwn.row (lo := 0) (hi := wr.heap.size + 1) (row_new wr [0, 0, 0, 1] (by simp [maxLen])) rfl (by intro z hz; simp at hz; omega) (Nat.zero_le _) (by omega)).rd
     clear hx91
     have L91 := hid (b.size)
     have B91 := hid (B90.out.trans (b.mono B90.out.size))
     have KX91 := hid (KX90.out.later b)
     have RX91 := hid (RX90.out.later b)
     have TX91 := hid (TX90.out.later b)
     clear B90 KX90 RX90 TX90 b
     rw [HW91.out]
     obtain ⟨g4, hg4⟩ : ∃ g, wr.heap.size = g := ⟨_, rfl⟩
     rw [hg4] at o4 ⊢
     clear HW91 hg4
     have O491 := hid (o4)
     clear o4
     refine (EpK.implEpSeal Sk G ⟨some ⟨gt, 0, none⟩, 12, ct⟩ ⟨some ⟨g4, 0, none⟩, 4, 4⟩ tw [0, 0, 0, 1] r2 7 x91 (HT.out.later B91.out) (HER.out.later B91.out) RX91.out HGL.out TX91.out.rd O491.out).mono ?_
     unfold EpK.AnsQ
     rw [HX.out, HR2.out, HC7.out]
     rintro e x92 ⟨SX, SR, p0, q0, p1, q1, rfl, ox, of, oz, b⟩
     clear d0 d1 d2 d3 d4
     have OZ : Hid (x91.heap.size ≤ p0 ∧ p0 ≤ p0) := ⟨oz.1, Nat.le_refl _⟩
     clear of oz
     have L92 := hid (b.size)
     have B92 := hid (B91.out.trans (b.mono B91.out.size))
     have KX92 := hid (KX91.out.later b)
     have RX92 := hid (RX91.out.later b)
     have TX92 := hid (TX91.out.later b)
     have O492 := hid (O491.out.later b)
     clear B91 KX91 RX91 TX91 O491 b
     have OX92 := hid (ox)
     clear ox
     obtain ⟨x93, hx93⟩ : ∃ zz, (x92.alloc (.cells #[.int .i64 X.n, .slice SX.key.a SX.key.n SX.key.c, .int .i64 X.seq, .int .i64 X.win.top, .slice SX.win.bits.a SX.win.bits.n SX.win.bits.c] 41)).alloc (.cells #[.int .i64 R.kind, .int .i64 R.id, .slice SR.cn.a SR.cn.n SR.cn.c, .slice SR.sn.a SR.sn.n SR.sn.c, .int .i64 R.tick, .slice SR.cookie.a SR.cookie.n SR.cookie.c, .slice SR.proof.a SR.proof.n SR.proof.c, .int .i64 R.epoch, .int .i64 R.seq, .slice SR.body.a SR.body.n SR.body.c, .slice SR.tag.a SR.tag.n SR.tag.c] 27) = zz := ⟨_, rfl⟩
     have HW93 := hid (hx93)
     have b93 : Below x92.heap.size x92 x93 := by rw [← hx93]; exact ((Below.refl _ _).alloc (Nat.le_refl _) _).alloc (by simp) _
     have KN1 : Blk x93 x92.heap.size 41 [.int .i64 X.n, .slice SX.key.a SX.key.n SX.key.c, .int .i64 X.seq, .int .i64 X.win.top, .slice SX.win.bits.a SX.win.bits.n SX.win.bits.c] := by rw [← hx93]; exact (Blk.new x92 _ _).alloc _
     have KN2 : Blk x93 (x92.heap.size + 1) 27 [.int .i64 R.kind, .int .i64 R.id, .slice SR.cn.a SR.cn.n SR.cn.c, .slice SR.sn.a SR.sn.n SR.sn.c, .int .i64 R.tick, .slice SR.cookie.a SR.cookie.n SR.cookie.c, .slice SR.proof.a SR.proof.n SR.proof.c, .int .i64 R.epoch, .int .i64 R.seq, .slice SR.body.a SR.body.n SR.body.c, .slice SR.tag.a SR.tag.n SR.tag.c] := by
      have q := Blk.new (x92.alloc (.cells #[.int .i64 X.n, .slice SX.key.a SX.key.n SX.key.c, .int .i64 X.seq, .int .i64 X.win.top, .slice SX.win.bits.a SX.win.bits.n SX.win.bits.c] 41)) 27 [.int .i64 R.kind, .int .i64 R.id, .slice SR.cn.a SR.cn.n SR.cn.c, .slice SR.sn.a SR.sn.n SR.sn.c, .int .i64 R.tick, .slice SR.cookie.a SR.cookie.n SR.cookie.c, .slice SR.proof.a SR.proof.n SR.proof.c, .int .i64 R.epoch, .int .i64 R.seq, .slice SR.body.a SR.body.n SR.body.c, .slice SR.tag.a SR.tag.n SR.tag.c]
      rw [World.size_alloc] at q
      rw [← hx93]; exact q
     clear hx93
     have L93 := hid (b93.size)
     have B93 := hid (B92.out.trans (b93.mono B92.out.size))
     have KX93 := hid (KX92.out.later b93)
     have RX93 := hid (RX92.out.later b93)
     have TX93 := hid (TX92.out.later b93)
     have O493 := hid (O492.out.later b93)
     have OX93 := hid (OX92.out.later b93)
     clear B92 KX92 RX92 TX92 O492 OX92 b93
     unfold epV frV
     go_upto_region 18 with fail
     rw [HW93.out]
     obtain ⟨gy, hgy⟩ : ∃ g, x92.heap.size = g := ⟨_, rfl⟩
     obtain ⟨gr, hgr⟩ : ∃ g, x92.heap.size + 1 = g := ⟨_, rfl⟩
     have Ggy : Hid (x92.heap.size = gy ∧ gy + 1 = gr ∧ gr + 1 ≤ x93.heap.size) := ⟨hgy, by omega, by have := KN2.lt; omega⟩
     rw [hgy] at KN1
     rw [hgr] at KN2
     rw [hgr, hgy]
     clear HW93 hgy hgr
     have KY93 := hid (KN1)
     have KR93 := hid (KN2)
     clear KN1 KN2
     have t1 : ¬ (G.seq < 281474976710656) := by rw [HGS.out]; omega
     have t2 : ¬ (X.seq > 281474976710656) := by rw [HXQ.out]; have := QX.out; omega
     obtain ⟨a0, a1, a2, a3, a4⟩ := cells5 KX93.out
     obtain ⟨b0, b1, b2, b3, b4⟩ := cells5 KY93.out
     obtain ⟨e0, e1, e2, e3, e4, e5, e6, e7, e8, e9, e10⟩ := cells11 KR93.out
     go_upto_region 20 with fail
     clear a0 a1 a2 a3 a4 e0 e1 e2 e3 e4 e5 e6 e7 e8 e9 e10 t1 t2
     have co0 := KX93.out.cell 0 rfl
     have fo0 := KX93.out.frozen 0
     have co1 := KX93.out.cell 1 rfl
     have fo1 := KX93.out.frozen 1
     have co2 := KX93.out.cell 2 rfl
     have fo2 := KX93.out.frozen 2
     have co3 := KX93.out.cell 3 rfl
     have fo3 := KX93.out.frozen 3
     have co4 := KX93.out.cell 4 rfl
     have fo4 := KX93.out.frozen 4
     obtain ⟨x94, hx94⟩ : ∃ y, (((((x93.setCell ⟨gx, 0, none⟩ (.int .i64 X.n)).setCell ⟨gx, 1, none⟩ (.slice SX.key.a SX.key.n SX.key.c)).setCell ⟨gx, 2, none⟩ (.int .i64 X.seq)).setCell ⟨gx, 3, none⟩ (.int .i64 X.win.top)).setCell ⟨gx, 4, none⟩ (.slice SX.win.bits.a SX.win.bits.n SX.win.bits.c)) = y := ⟨_, rfl⟩
     have HW94 := hid (hx94)
     have L94 : Hid (x94.heap.size = x93.heap.size) := by rw [← hx94]; show _ = _; simp
     have KS : Blk x94 gx 41 [.int .i64 X.n, .slice SX.key.a SX.key.n SX.key.c, .int .i64 X.seq, .int .i64 X.win.top, .slice SX.win.bits.a SX.win.bits.n SX.win.bits.c] := by rw [← hx94]; exact (((((KX93.out.set 0 _ (by simp [maxLen])).set 1 _ (by simp [maxLen])).set 2 _ (by simp [maxLen])).set 3 _ (by simp [maxLen])).set 4 _ (by simp [maxLen]))
     have KQ : Kept gx (gx + 1) x93 x94 := by rw [← hx94]; exact (((((Kept.setCell _ _ _ _).trans (Kept.setCell _ _ _ _)).trans (Kept.setCell _ _ _ _)).trans (Kept.setCell _ _ _ _)).trans (Kept.setCell _ _ _ _))
     clear hx94
     have B94 := hid (B93.out.trans (KQ.below (by have := hid8 HGT Ggx LXr HGX L91 L92 OZ L93; have := hid2 Ggy L94; omega) B93.out.size))
     have TX94 := hid (TX93.out.carry KQ (by have := hid8 HGT Ggx LXr HGX L91 L92 OZ L93; have := hid2 Ggy L94; omega))
     have OX94 := hid (OX93.out.carry KQ (by have := hid8 HGT Ggx LXr HGX L91 L92 OZ L93; have := hid2 Ggy L94; omega))
     have KY94 := hid (KY93.out.keep (KQ.block _ KY93.out.lt (by have := hid8 HGT Ggx LXr HGX L91 L92 OZ L93; have := hid2 Ggy L94; omega)))
     have KR94 := hid (KR93.out.keep (KQ.block _ KR93.out.lt (by have := hid8 HGT Ggx LXr HGX L91 L92 OZ L93; have := hid2 Ggy L94; omega)))
     clear B93 RX93 TX93 O493 OX93 KY93 KR93 KQ
     clear KX93
     have KX94 := hid (KS)
     clear KS
     go_upto_region 16 with fail
     rw [HW94.out]
     clear HW94 co0 fo0 co1 fo1 co2 fo2 co3 fo3 co4 fo4
     clear b0 b1 b2 b3 b4
     go_wp2
     go_roundw
     case rel =>
      have k9 := KX94.out
      have r9 := OX94.out.rd
      rw [HXD.out] at k9 r9
      exact ⟨k + 1, SX, sq, by omega, by go_num, k9, r9, TX94.out, (by have := QX.out; refine ⟨by omega, by omega, ?_⟩; omega), B94.out, k9.lt⟩
     case measure => simp [intOf]; omega
   ·
    skip
    obtain rfl : k = 3 := by omega
    have HSE : Hid (sq = 281474976710656) := by have := QX.out; show _ = _; omega
    obtain ⟨X, hX⟩ : ∃ z : EpD, esE G r2 tw 7 [0, 0, 0, 1] = z := ⟨_, rfl⟩
    have HX : Hid (esE G r2 tw 7 [0, 0, 0, 1] = X) := hX
    clear hX
    obtain ⟨R, hR⟩ : ∃ z : FrD, esF G r2 tw 7 [0, 0, 0, 1] = z := ⟨_, rfl⟩
    have HR2 : Hid (esF G r2 tw 7 [0, 0, 0, 1] = R) := hR
    clear hR
    have HC7 : Hid (esCode G r2 tw 7 [0, 0, 0, 1] = 5) := by show _ = _; rw [spent_rekey HGO.out HRO.out HTW.out rfl, HGS.out, if_neg (by have := HSE.out; omega)]
    go_upto_region 21 with fail
    have B90 := hid (BXr.out)
    have KX90 := hid (KXr.out)
    have RX90 := hid (RXr.out)
    have TX90 := hid (TXr.out)
    obtain ⟨d0, d1, d2, d3, d4⟩ := cells5 KX90.out
    go_wp2_with fail
    obtain ⟨x91, hx91⟩ : ∃ zz, wr.alloc (.cells #[.int .u8 0, .int .u8 0, .int .u8 0, .int .u8 1] 5) = zz := ⟨_, rfl⟩
    have HW91 := hid (hx91)
    have b : Below wr.heap.size wr x91 := by rw [← hx91]; exact (Below.refl _ _).alloc (Nat.le_refl _) _
    have o4 : SRd x91 ⟨some ⟨wr.heap.size, 0, none⟩, 4, 4⟩ [0, 0, 0, 1] := by rw [← hx91]; exact (SOwn.row (lo := 0) (hi := wr.heap.size + 1) (row_new wr [0, 0, 0, 1] (by simp [maxLen])) rfl (by intro z hz; simp at hz; omega) (Nat.zero_le _) (by omega)).rd
    clear hx91
    have L91 := hid (b.size)
    have B91 := hid (B90.out.trans (b.mono B90.out.size))
    have KX91 := hid (KX90.out.later b)
    have RX91 := hid (RX90.out.later b)
    have TX91 := hid (TX90.out.later b)
    clear B90 KX90 RX90 TX90 b
    rw [HW91.out]
    obtain ⟨g4, hg4⟩ : ∃ g, wr.heap.size = g := ⟨_, rfl⟩
    rw [hg4] at o4 ⊢
    clear HW91 hg4
    have O491 := hid (o4)
    clear o4
    refine (EpK.implEpSeal Sk G ⟨some ⟨gt, 0, none⟩, 12, ct⟩ ⟨some ⟨g4, 0, none⟩, 4, 4⟩ tw [0, 0, 0, 1] r2 7 x91 (HT.out.later B91.out) (HER.out.later B91.out) RX91.out HGL.out TX91.out.rd O491.out).mono ?_
    unfold EpK.AnsQ
    rw [HX.out, HR2.out, HC7.out]
    rintro e x92 ⟨SX, SR, p0, q0, p1, q1, rfl, ox, of, oz, b⟩
    clear d0 d1 d2 d3 d4
    have OZ : Hid (x91.heap.size ≤ p0 ∧ p0 ≤ p0) := ⟨oz.1, Nat.le_refl _⟩
    clear of oz
    have L92 := hid (b.size)
    have B92 := hid (B91.out.trans (b.mono B91.out.size))
    have KX92 := hid (KX91.out.later b)
    have RX92 := hid (RX91.out.later b)
    have TX92 := hid (TX91.out.later b)
    have O492 := hid (O491.out.later b)
    clear B91 KX91 RX91 TX91 O491 b
    have OX92 := hid (ox)
    clear ox
    obtain ⟨x93, hx93⟩ : ∃ zz, (x92.alloc (.cells #[.int .i64 X.n, .slice SX.key.a SX.key.n SX.key.c, .int .i64 X.seq, .int .i64 X.win.top, .slice SX.win.bits.a SX.win.bits.n SX.win.bits.c] 41)).alloc (.cells #[.int .i64 R.kind, .int .i64 R.id, .slice SR.cn.a SR.cn.n SR.cn.c, .slice SR.sn.a SR.sn.n SR.sn.c, .int .i64 R.tick, .slice SR.cookie.a SR.cookie.n SR.cookie.c, .slice SR.proof.a SR.proof.n SR.proof.c, .int .i64 R.epoch, .int .i64 R.seq, .slice SR.body.a SR.body.n SR.body.c, .slice SR.tag.a SR.tag.n SR.tag.c] 27) = zz := ⟨_, rfl⟩
    have HW93 := hid (hx93)
    have b93 : Below x92.heap.size x92 x93 := by rw [← hx93]; exact ((Below.refl _ _).alloc (Nat.le_refl _) _).alloc (by simp) _
    have KN1 : Blk x93 x92.heap.size 41 [.int .i64 X.n, .slice SX.key.a SX.key.n SX.key.c, .int .i64 X.seq, .int .i64 X.win.top, .slice SX.win.bits.a SX.win.bits.n SX.win.bits.c] := by rw [← hx93]; exact (Blk.new x92 _ _).alloc _
    have KN2 : Blk x93 (x92.heap.size + 1) 27 [.int .i64 R.kind, .int .i64 R.id, .slice SR.cn.a SR.cn.n SR.cn.c, .slice SR.sn.a SR.sn.n SR.sn.c, .int .i64 R.tick, .slice SR.cookie.a SR.cookie.n SR.cookie.c, .slice SR.proof.a SR.proof.n SR.proof.c, .int .i64 R.epoch, .int .i64 R.seq, .slice SR.body.a SR.body.n SR.body.c, .slice SR.tag.a SR.tag.n SR.tag.c] := by
     have q := Blk.new (x92.alloc (.cells #[.int .i64 X.n, .slice SX.key.a SX.key.n SX.key.c, .int .i64 X.seq, .int .i64 X.win.top, .slice SX.win.bits.a SX.win.bits.n SX.win.bits.c] 41)) 27 [.int .i64 R.kind, .int .i64 R.id, .slice SR.cn.a SR.cn.n SR.cn.c, .slice SR.sn.a SR.sn.n SR.sn.c, .int .i64 R.tick, .slice SR.cookie.a SR.cookie.n SR.cookie.c, .slice SR.proof.a SR.proof.n SR.proof.c, .int .i64 R.epoch, .int .i64 R.seq, .slice SR.body.a SR.body.n SR.body.c, .slice SR.tag.a SR.tag.n SR.tag.c]
     rw [World.size_alloc] at q
     rw [← hx93]; exact q
    clear hx93
    have L93 := hid (b93.size)
    have B93 := hid (B92.out.trans (b93.mono B92.out.size))
    have KX93 := hid (KX92.out.later b93)
    have RX93 := hid (RX92.out.later b93)
    have TX93 := hid (TX92.out.later b93)
    have O493 := hid (O492.out.later b93)
    have OX93 := hid (OX92.out.later b93)
    clear B92 KX92 RX92 TX92 O492 OX92 b93
    unfold epV frV
    go_upto_region 22 with fail
    rw [HW93.out]
    obtain ⟨gy, hgy⟩ : ∃ g, x92.heap.size = g := ⟨_, rfl⟩
    obtain ⟨gr, hgr⟩ : ∃ g, x92.heap.size + 1 = g := ⟨_, rfl⟩
    have Ggy : Hid (x92.heap.size = gy ∧ gy + 1 = gr ∧ gr + 1 ≤ x93.heap.size) := ⟨hgy, by omega, by have := KN2.lt; omega⟩
    rw [hgy] at KN1
    rw [hgr] at KN2
    rw [hgr, hgy]
    clear HW93 hgy hgr
    have KY93 := hid (KN1)
    have KR93 := hid (KN2)
    clear KN1 KN2
    have t1 : (G.seq == 281474976710656) = true := by have := hid2 HGS HSE; simp; omega
    obtain ⟨a0, a1, a2, a3, a4⟩ := cells5 KX93.out
    go_wp2
    go_ret
    exact ⟨rfl, B93.out⟩

theorem walk (a : Option Addr) (len cap : Nat) (zs : List Int) (w : World) (hT : Tab w) (hE : ErrAt w) (h : IsRow .u8 w a len cap zs) :
  Calls Tryz.prog 6 #[.slice a len cap] w fun e w' => e = .returned (.bool true) ∧ Below w.heap.size w w' := by
 obtain ⟨l, h1, h2, _, h4⟩ := h.read
 by_cases hl : len ≤ 1048576
 ·
  exact small a len cap l w hT hE h1 h2 h4 hl
 ·
  clear h h1 h2 h4
  go_enter Tryz.func6, Tryz.ntmps6
  go_wp2_with fail
  refine (bigYes a len cap w (by omega)).mono ?_
  rintro e w0 ⟨rfl, rfl⟩
  go_wp2
  go_ret
  exact ⟨rfl, Below.refl _ _⟩
end Go.Proofs.YtmcflfpckpjphaaGreatDoor.LawSpent

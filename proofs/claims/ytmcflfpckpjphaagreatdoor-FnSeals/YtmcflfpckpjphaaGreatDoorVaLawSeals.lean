/-
  The walk of the law FnSeals: at every code what is sealed is opened as it was, and with a byte of its tag turned it is not; where the table of round words is as the text lays it.
-/
import Derived.Test.YtmcflfpckpjphaaGreatDoorVaDrKd
import Derived.Test.YtmcflfpckpjphaaGreatDoorVaSmFr
import Derived.Test.YtmcflfpckpjphaaGreatDoorVaSlR
import Derived.Test.YtmcflfpckpjphaaGreatDoorVaSealI
import Derived.Test.YtmcflfpckpjphaaGreatDoorVaSealS
import Derived.Test.YtmcflfpckpjphaaGreatDoorVaUnsI
import Derived.Test.YtmcflfpckpjphaaGreatDoorVaBas1
import Derived.Test.YtmcflfpckpjphaaGreatDoorVaBas7
set_option maxRecDepth 100000
namespace Go.Proofs.YtmcflfpckpjphaaGreatDoor.LawSeals
open Go.RowKit Mem App Blk Draw Zone Res Comp MacP FrZ FrP FrG FrQ FrL SlP SlQ SlR SealI DrKd Bent Shp Each Copy Ops Guard

theorem okV (S : FrS) (D : FrD) (v : Bool) (w : World) (h : FrRd w S D) (hv : frameOk D = v) : Calls Tryz.prog 18 #[frV D S] w fun e w' => e = .returned (.bool v) ∧ Below w.heap.size w w' := by
 subst hv; exact FrO2.implFrameOk S D w h
theorem sameN (s t : Sl) (x y : List Int) (w : World) (h : SRd w s x) (k : SRd w t y) (hv : x = y) : Calls Tryz.prog 19 #[.slice s.a s.n s.c, .slice t.a t.n t.c] w fun e w' => e = .returned (.bool true) ∧ Below w.heap.size w w' := by
 refine (SameV.sameV s t x y true w h k (decide_eq_true hv)).mono ?_
 rintro e w' ⟨rfl, rfl⟩
 exact ⟨rfl, Below.refl _ _⟩
theorem bigNo (a : Option Addr) (len cap : Nat) (w : World) (h : len ≤ 1048576) :
  Calls Tryz.prog 11 #[.slice a len cap] w fun e w' => e = .returned (.bool false) ∧ w = w' := by
 have h' : ¬ ((1048576 : Int) < (len : Int)) := by omega
 go_enter Tryz.func11, Tryz.ntmps11
 go_wp2
 go_ret
 exact ⟨rfl, rfl⟩
theorem bigYes (a : Option Addr) (len cap : Nat) (w : World) (h : 1048576 < len) :
  Calls Tryz.prog 11 #[.slice a len cap] w fun e w' => e = .returned (.bool true) ∧ w = w' := by
 have h' : (1048576 : Int) < (len : Int) := by omega
 go_enter Tryz.func11, Tryz.ntmps11
 go_wp2
 go_ret
 exact ⟨rfl, rfl⟩
abbrev DL1 : List Nat := [81, 82, 83, 84, 85, 86, 87, 88, 89, 90, 91, 92, 93, 94, 95, 96, 97, 98, 99, 100, 101, 102, 103, 104, 105, 106, 107, 108, 109, 110, 111, 112, 113, 114, 115, 116, 117, 118, 119, 120, 121, 122, 123, 124, 125, 126, 127, 128]
set_option maxHeartbeats 16000000 in
theorem small (a : Option Addr) (len cap : Nat) (l : List Int) (w : World) (hT : Tab w) (hl : len = l.length) (hr : Rd w a l) (hb : Bytes l) (hlen : len ≤ 1048576) :
  Calls Tryz.prog 3 #[.slice a len cap] w fun e w' => e = .returned (.bool true) ∧ Below w.heap.size w w' := by
 have HR := hid (hr)
 have HL : Hid (len = l.length) := hl
 have HB := hid (hb)
 clear hr hl hb
 have HT := hid (hT)
 clear hT
 have B0 : Hid (Below w.heap.size w w) := Below.refl _ _
 go_enter Tryz.func3, Tryz.ntmps3
 go_wp2_with fail
 refine (bigNo a len cap w hlen).mono ?_
 rintro e w0 ⟨rfl, rfl⟩
 go_wp2_with fail
 refine (drawSeal a len cap l w HL.out (HR.out.later B0.out (Nat.le_refl _)) HB.out hlen).mono ?_
 rintro e x1 ⟨K, lk, ro, S, ls, ep, sq, kd, P, lp, rfl, ok, os, op, b⟩
 have L1 := hid (b.size)
 have B1 := hid (B0.out.trans (b.mono B0.out.size))
 clear b B0
 have OK1 := hid (ok)
 have OS1 := hid (os)
 have OP1 := hid (op)
 clear ok os op
 obtain ⟨R, hR⟩ : ∃ z : FrD, sealF lk ro ls ep sq kd lp = z := ⟨_, rfl⟩
 have HRR : Hid (sealF lk ro ls ep sq kd lp = R) := hR
 clear hR
 obtain ⟨v, hv⟩ : ∃ z : Bool, sealB lk ro ls ep sq kd lp = z := ⟨_, rfl⟩
 have HV : Hid (sealB lk ro ls ep sq kd lp = v) := hv
 clear hv
 have hvv : (v != v) = false := by simp
 go_wp2_with fail
 refine (implSeal K S P lk ls lp ro ep sq kd x1 (HT.out.later B1.out) OK1.out OS1.out OP1.out).mono ?_
 unfold SealI.AnsS
 rw [HRR.out, HV.out]
 rintro e x2 ⟨S2, rfl, o, b⟩
 have L2 := hid (b.size)
 have B2 := hid (B1.out.trans (b.mono B1.out.size))
 have OK2 := hid (OK1.out.later b)
 have OS2 := hid (OS1.out.later b)
 have OP2 := hid (OP1.out.later b)
 clear b B1 OK1 OS1 OP1
 have OF2 := hid (o.rd)
 clear o
 obtain ⟨x3, hx3⟩ : ∃ x3, x2.alloc (.cells #[.int .i64 R.kind, .int .i64 R.id, .slice S2.cn.a S2.cn.n S2.cn.c, .slice S2.sn.a S2.sn.n S2.sn.c, .int .i64 R.tick, .slice S2.cookie.a S2.cookie.n S2.cookie.c, .slice S2.proof.a S2.proof.n S2.proof.c, .int .i64 R.epoch, .int .i64 R.seq, .slice S2.body.a S2.body.n S2.body.c, .slice S2.tag.a S2.tag.n S2.tag.c] 27) = x3 := ⟨_, rfl⟩
 have HW3 := hid (hx3)
 have b3 : Below x2.heap.size x2 x3 := by rw [← hx3]; exact (Below.refl _ _).alloc (Nat.le_refl _) _
 have KN : Blk x3 x2.heap.size 27 [.int .i64 R.kind, .int .i64 R.id, .slice S2.cn.a S2.cn.n S2.cn.c, .slice S2.sn.a S2.sn.n S2.sn.c, .int .i64 R.tick, .slice S2.cookie.a S2.cookie.n S2.cookie.c, .slice S2.proof.a S2.proof.n S2.proof.c, .int .i64 R.epoch, .int .i64 R.seq, .slice S2.body.a S2.body.n S2.body.c, .slice S2.tag.a S2.tag.n S2.tag.c] := by rw [← hx3]; exact Blk.new x2 _ _
 have HSZ3 : Hid (x3.heap.size = x2.heap.size + 1) := by rw [← hx3]; show _ = _; simp
 clear hx3
 have L3 := hid (b3.size)
 have B3 := hid (B2.out.trans (b3.mono B2.out.size))
 have OK3 := hid (OK2.out.later b3)
 have OS3 := hid (OS2.out.later b3)
 have OP3 := hid (OP2.out.later b3)
 have OF3 := hid (OF2.out.later b3)
 clear b3 B2 OK2 OS2 OP2 OF2
 unfold frV
 go_upto_region 5 with fail
 rw [HW3.out]
 obtain ⟨gf, hgf⟩ : ∃ g, x2.heap.size = g := ⟨_, rfl⟩
 have Ggf : Hid (x2.heap.size = gf ∧ x3.heap.size = gf + 1) := ⟨hgf, by rw [← hgf]; exact HSZ3.out⟩
 rw [hgf] at KN ⊢
 clear HW3 HSZ3 hgf
 have KF3 := hid (KN)
 clear KN
 go_wp2_with fail
 refine (SealS.specSeal K S P lk ls lp ro ep sq kd x3 OK3.out OS3.out OP3.out).mono ?_
 unfold SealS.AnsS
 rw [HRR.out, HV.out]
 rintro e x4 ⟨S3, rfl, _, b⟩
 have L4 := hid (b.size)
 have B4 := hid (B3.out.trans (b.mono B3.out.size))
 have OK4 := hid (OK3.out.later b)
 have OS4 := hid (OS3.out.later b)
 have OP4 := hid (OP3.out.later b)
 have OF4 := hid (OF3.out.later b)
 have KF4 := hid (KF3.out.later b)
 clear b B3 OK3 OS3 OP3 OF3 KF3
 obtain ⟨x5, hx5⟩ : ∃ x5, x4.alloc (.cells #[.int .i64 R.kind, .int .i64 R.id, .slice S3.cn.a S3.cn.n S3.cn.c, .slice S3.sn.a S3.sn.n S3.sn.c, .int .i64 R.tick, .slice S3.cookie.a S3.cookie.n S3.cookie.c, .slice S3.proof.a S3.proof.n S3.proof.c, .int .i64 R.epoch, .int .i64 R.seq, .slice S3.body.a S3.body.n S3.body.c, .slice S3.tag.a S3.tag.n S3.tag.c] 27) = x5 := ⟨_, rfl⟩
 have HW5 := hid (hx5)
 have b5 : Below x4.heap.size x4 x5 := by rw [← hx5]; exact (Below.refl _ _).alloc (Nat.le_refl _) _
 have KN : Blk x5 x4.heap.size 27 [.int .i64 R.kind, .int .i64 R.id, .slice S3.cn.a S3.cn.n S3.cn.c, .slice S3.sn.a S3.sn.n S3.sn.c, .int .i64 R.tick, .slice S3.cookie.a S3.cookie.n S3.cookie.c, .slice S3.proof.a S3.proof.n S3.proof.c, .int .i64 R.epoch, .int .i64 R.seq, .slice S3.body.a S3.body.n S3.body.c, .slice S3.tag.a S3.tag.n S3.tag.c] := by rw [← hx5]; exact Blk.new x4 _ _
 have HSZ5 : Hid (x5.heap.size = x4.heap.size + 1) := by rw [← hx5]; show _ = _; simp
 clear hx5
 have L5 := hid (b5.size)
 have B5 := hid (B4.out.trans (b5.mono B4.out.size))
 have OK5 := hid (OK4.out.later b5)
 have OS5 := hid (OS4.out.later b5)
 have OP5 := hid (OP4.out.later b5)
 have OF5 := hid (OF4.out.later b5)
 have KF5 := hid (KF4.out.later b5)
 clear b5 B4 OK4 OS4 OP4 OF4 KF4
 unfold frV
 go_upto_region 6 with fail
 rw [HW5.out]
 obtain ⟨gg, hgg⟩ : ∃ g, x4.heap.size = g := ⟨_, rfl⟩
 have Ggg : Hid (x4.heap.size = gg ∧ x5.heap.size = gg + 1) := ⟨hgg, by rw [← hgg]; exact HSZ5.out⟩
 rw [hgg] at KN ⊢
 clear HW5 HSZ5 hgg
 have KG5 := hid (KN)
 clear KN
 clear KG5
 cases v with
 | false =>
  obtain rfl : R = zeroF := by rw [← HRR.out]; exact sealF_no HV.out
  clear hvv
  obtain ⟨d0, d1, d2, d3, d4, d5, d6, d7, d8, d9, d10⟩ := cells11 KF5.out
  go_wp2_with fail
  refine (SmFr.sameFrame S2 ⟨⟨none, 0, 0⟩, ⟨none, 0, 0⟩, ⟨none, 0, 0⟩, ⟨none, 0, 0⟩, ⟨none, 0, 0⟩, ⟨none, 0, 0⟩⟩ zeroF x5 OF5.out (SealS.own_nil _ 0 0).rd).mono ?_
  rintro e x6 ⟨rfl, b⟩
  clear d0 d1 d2 d3 d4 d5 d6 d7 d8 d9 d10
  have L6 := hid (b.size)
  have B6 := hid (B5.out.trans (b.mono B5.out.size))
  have OK6 := hid (OK5.out.later b)
  have OS6 := hid (OS5.out.later b)
  have OP6 := hid (OP5.out.later b)
  have OF6 := hid (OF5.out.later b)
  have KF6 := hid (KF5.out.later b)
  clear b B5 OK5 OS5 OP5 OF5 KF5
  go_wp2
  go_ret
  exact ⟨rfl, B6.out⟩
 | true =>
  have HRD : Hid (R = sealD lk ro ls ep sq kd lp) := by show _ = _; rw [← HRR.out]; exact sealF_yes HV.out
  have HKL : Hid (lk.length = 32) := (seal_may HV.out).1
  clear hvv
  have HU1 : Hid (unsealB lk ro R = true) := by show _ = _; rw [HRD.out]; exact seal_unseal HV.out
  have HU2 : Hid (unsealL lk ro R = lp) := by show _ = _; rw [HRD.out]; exact seal_back OP5.out.bytes HV.out
  have HTG : Hid (R.tag = tagI lk (tagIn ro R)) := by show _ = _; rw [HRD.out]; exact seal_tag HV.out
  have HTL : Hid (R.tag.length = 16) := by show _ = _; rw [HRD.out]; exact seal_tag_len HV.out
  have HOK : Hid (frameOk R = true) := by show _ = _; rw [HRD.out]; exact seal_ok HV.out
  have HPR : Hid (R.epoch = ep ∧ R.seq = sq ∧ R.kind = kd ∧ R.sn = ls) := by show _ ∧ _; rw [HRD.out]; exact parts _ _ _ _ _ _ _
  have HTN : Hid (∀ y : List Int, y.length = 16 → y ≠ R.tag → unsealB lk ro { R with tag := y } = false) := by intro y h1 h2; rw [HRD.out] at h2 ⊢; exact turned HV.out h1 h2
  clear HRD
  obtain ⟨d0, d1, d2, d3, d4, d5, d6, d7, d8, d9, d10⟩ := cells11 KF5.out
  go_wp2_with fail
  refine (UnsI.implUnseal K lk ro S2 R x5 (HT.out.later B5.out) OK5.out OF5.out (by have := HKL.out; omega)).mono ?_
  unfold UnsI.AnsBb
  rw [HU1.out, HU2.out]
  rintro e x6 ⟨S4, rfl, o, b⟩
  clear d0 d1 d2 d3 d4 d5 d6 d7 d8 d9 d10
  have L6 := hid (b.size)
  have B6 := hid (B5.out.trans (b.mono B5.out.size))
  have OK6 := hid (OK5.out.later b)
  have OS6 := hid (OS5.out.later b)
  have OP6 := hid (OP5.out.later b)
  have OF6 := hid (OF5.out.later b)
  have KF6 := hid (KF5.out.later b)
  clear b B5 OK5 OS5 OP5 OF5 KF5
  have O46 := hid (o.rd)
  clear o
  have SOK := hid (OK6.out)
  have SOS := hid (OS6.out)
  have SOP := hid (OP6.out)
  have SOF := hid (OF6.out)
  have SO4 := hid (O46.out)
  have SKF := hid (KF6.out)
  have BE6 : Hid (Below x6.heap.size x6 x6) := Below.refl _ _
  obtain ⟨d0, d1, d2, d3, d4, d5, d6, d7, d8, d9, d10⟩ := cells11 KF6.out
  go_upto_region 11 with fail
  obtain ⟨x7, hx7⟩ : ∃ x7, x6.alloc (.cells #[.int .i64 R.kind, .int .i64 R.id, .slice S2.cn.a S2.cn.n S2.cn.c, .slice S2.sn.a S2.sn.n S2.sn.c, .int .i64 R.tick, .slice S2.cookie.a S2.cookie.n S2.cookie.c, .slice S2.proof.a S2.proof.n S2.proof.c, .int .i64 R.epoch, .int .i64 R.seq, .slice S2.body.a S2.body.n S2.body.c, .slice S2.tag.a S2.tag.n S2.tag.c] 27) = x7 := ⟨_, rfl⟩
  have HW7 := hid (hx7)
  have b7 : Below x6.heap.size x6 x7 := by rw [← hx7]; exact (Below.refl _ _).alloc (Nat.le_refl _) _
  have KN : Blk x7 x6.heap.size 27 [.int .i64 R.kind, .int .i64 R.id, .slice S2.cn.a S2.cn.n S2.cn.c, .slice S2.sn.a S2.sn.n S2.sn.c, .int .i64 R.tick, .slice S2.cookie.a S2.cookie.n S2.cookie.c, .slice S2.proof.a S2.proof.n S2.proof.c, .int .i64 R.epoch, .int .i64 R.seq, .slice S2.body.a S2.body.n S2.body.c, .slice S2.tag.a S2.tag.n S2.tag.c] := by rw [← hx7]; exact Blk.new x6 _ _
  have HSZ7 : Hid (x7.heap.size = x6.heap.size + 1) := by rw [← hx7]; show _ = _; simp
  clear hx7
  have L7 := hid (b7.size)
  have B7 := hid (B6.out.trans (b7.mono B6.out.size))
  have OK7 := hid (OK6.out.later b7)
  have OS7 := hid (OS6.out.later b7)
  have OP7 := hid (OP6.out.later b7)
  have OF7 := hid (OF6.out.later b7)
  have KF7 := hid (KF6.out.later b7)
  have O47 := hid (O46.out.later b7)
  have BE7 := hid (BE6.out.trans (b7.mono BE6.out.size))
  clear b7 B6 OK6 OS6 OP6 OF6 KF6 O46 BE6
  go_upto_region 12 with fail
  rw [HW7.out]
  obtain ⟨g2, hg2⟩ : ∃ g, x6.heap.size = g := ⟨_, rfl⟩
  have Gg2 : Hid (x6.heap.size = g2 ∧ x7.heap.size = g2 + 1) := ⟨hg2, by rw [← hg2]; exact HSZ7.out⟩
  rw [hg2] at KN ⊢
  clear HW7 HSZ7 hg2
  have K27 := hid (KN)
  clear KN
  clear d0 d1 d2 d3 d4 d5 d6 d7 d8 d9 d10
  have d10 := KF7.out.cell 10 rfl
  go_wp2_with fail
  refine (bent a len cap l S2.tag.a S2.tag.n S2.tag.c R.tag x7 HL.out (HR.out.later B7.out (Nat.le_refl _)) HB.out hlen OF7.out.tag.len OF7.out.tag.rd OF7.out.tag.nil OF7.out.tag.bytes (by have := OF7.out.tag.len; have := HTL.out; omega)).mono ?_
  rintro e x8 ⟨gy, cy, y, rfl, ey, hy, ney, ky, rw, b⟩
  clear d10
  have oy : SRd x8 ⟨some ⟨gy, 0, none⟩, S2.tag.n, cy⟩ y := (SOwn.row (lo := 0) (hi := x8.heap.size) rw ey hy (Nat.zero_le _) rw.lt).rd
  have HYL : Hid (y.length = 16 ∧ y ≠ R.tag ∧ S2.tag.n = 16 ∧ x7.heap.size ≤ gy) := by have q := OF7.out.tag.len; have := HTL.out; exact ⟨by omega, ney (by omega), by omega, ky⟩
  clear ey hy ney ky
  have L8 := hid (b.size)
  have B8 := hid (B7.out.trans (b.mono B7.out.size))
  have OK8 := hid (OK7.out.later b)
  have OS8 := hid (OS7.out.later b)
  have OP8 := hid (OP7.out.later b)
  have OF8 := hid (OF7.out.later b)
  have KF8 := hid (KF7.out.later b)
  have O48 := hid (O47.out.later b)
  have BE8 := hid (BE7.out.trans (b.mono BE7.out.size))
  have K28 := hid (K27.out.later b)
  clear b B7 OK7 OS7 OP7 OF7 KF7 O47 BE7 K27
  have OY8 := hid (oy)
  have RY := hid (rw)
  clear oy rw
  have z10 := K28.out.cell 10 rfl
  have y10 := K28.out.frozen 10
  obtain ⟨x9, hx9⟩ : ∃ zz, x8.setCell ⟨g2, 10, none⟩ (.slice (some ⟨gy, 0, none⟩) S2.tag.n cy) = zz := ⟨_, rfl⟩
  have HW9 := hid (hx9)
  have KS : Blk x9 g2 27 [.int .i64 R.kind, .int .i64 R.id, .slice S2.cn.a S2.cn.n S2.cn.c, .slice S2.sn.a S2.sn.n S2.sn.c, .int .i64 R.tick, .slice S2.cookie.a S2.cookie.n S2.cookie.c, .slice S2.proof.a S2.proof.n S2.proof.c, .int .i64 R.epoch, .int .i64 R.seq, .slice S2.body.a S2.body.n S2.body.c, .slice (some ⟨gy, 0, none⟩) S2.tag.n cy] := by rw [← hx9]; exact K28.out.set 10 _ (by simp [maxLen])
  have LS : Hid (x9.heap.size = x8.heap.size) := by rw [← hx9]; show _ = _; simp
  have B9 : Hid (Below w.heap.size w x9) := by rw [← hx9]; exact B8.out.setCell (by show _ ≤ g2; have := hid8 L1 L2 L3 Ggf L4 L5 Ggg L6; have := hid3 L7 Gg2 L8; omega) _
  have BE9 : Hid (Below x6.heap.size x6 x9) := by rw [← hx9]; exact BE8.out.setCell (by show _ ≤ g2; have := hid8 L1 L2 L3 Ggf L4 L5 Ggg L6; have := hid3 L7 Gg2 L8; omega) _
  have RY9 : Row x9 gy cy y := by rw [← hx9]; exact RY.out.keep (Below.heap_setCell _ _ _ _ (by show gy ≠ g2; have := hid8 HYL L1 L2 L3 Ggf L4 L5 Ggg; have := hid4 L6 L7 Gg2 L8; omega))
  have oy : SRd x9 ⟨some ⟨gy, 0, none⟩, S2.tag.n, cy⟩ y := (SOwn.row (lo := 0) (hi := x9.heap.size) RY9 OY8.out.len OY8.out.bytes (Nat.zero_le _) RY9.lt).rd
  clear hx9 RY RY9
  clear B8 OK8 OS8 OP8 OF8 KF8 O48 BE8 K28 OY8
  have OK9 := hid (SOK.out.later BE9.out)
  have OS9 := hid (SOS.out.later BE9.out)
  have OP9 := hid (SOP.out.later BE9.out)
  have OF9 := hid (SOF.out.later BE9.out)
  have O49 := hid (SO4.out.later BE9.out)
  have KF9 := hid (SKF.out.later BE9.out)
  have OG9 : Hid (FrRd x9 { S2 with tag := ⟨some ⟨gy, 0, none⟩, S2.tag.n, cy⟩ } { R with tag := y }) := ⟨OF9.out.cn, OF9.out.sn, OF9.out.cookie, OF9.out.proof, OF9.out.body, oy⟩
  have K29 := hid (KS)
  clear KS oy
  clear BE9
  go_upto_region 13 with fail
  rw [HW9.out]
  clear HW9 z10 y10
  obtain ⟨d0, d1, d2, d3, d4, d5, d6, d7, d8, d9, d10⟩ := cells11 K29.out
  have HUF : Hid (unsealB lk ro { R with tag := y } = false) := HTN.out y HYL.out.1 HYL.out.2.1
  go_wp2_with fail
  refine (UnsI.implUnseal K lk ro { S2 with tag := ⟨some ⟨gy, 0, none⟩, S2.tag.n, cy⟩ } { R with tag := y } x9 (HT.out.later B9.out) OK9.out OG9.out (by have := HKL.out; omega)).mono ?_
  unfold UnsI.AnsBb
  rw [HUF.out]
  rintro e x10 ⟨S5, rfl, _, b⟩
  clear d0 d1 d2 d3 d4 d5 d6 d7 d8 d9 d10
  have L10 := hid (b.size)
  have B10 := hid (B9.out.trans (b.mono B9.out.size))
  have OK10 := hid (OK9.out.later b)
  have OS10 := hid (OS9.out.later b)
  have OP10 := hid (OP9.out.later b)
  have OF10 := hid (OF9.out.later b)
  have O410 := hid (O49.out.later b)
  have KF10 := hid (KF9.out.later b)
  have OG10 := hid (OG9.out.later b)
  have K210 := hid (K29.out.later b)
  clear b B9 OK9 OS9 OP9 OF9 O49 KF9 OG9 K29
  clear K210 OG10
  have he1 : (R.epoch == ep) = true := by simpa using HPR.out.1
  have he2 : (R.seq == sq) = true := by simpa using HPR.out.2.1
  have he3 : (R.kind == kd) = true := by simpa using HPR.out.2.2.1
  go_upto_region 14 with fail
  go_cut [2] from 81 to 128 (fun sv wx => sv = .bool true ∧ Below x10.heap.size x10 wx)
  case first =>
   rename_i J K' hRJ hMet
   generalize hA : Act.mk _ _ = A
   have a10' : A.eval (.tmp 10) = .pointer (some ⟨gf, 0, none⟩) := by rw [← hA]; rfl
   have a3' : A.eval (.tmp 3) = .slice K.a K.n K.c := by rw [← hA]; rfl
   have a4' : A.eval (.tmp 4) = .int .i64 ro := by rw [← hA]; rfl
   have a5' : A.eval (.tmp 5) = .slice S.a S.n S.c := by rw [← hA]; rfl
   have a6' : A.eval (.tmp 6) = .int .i64 ep := by rw [← hA]; rfl
   have a7' : A.eval (.tmp 7) = .int .i64 sq := by rw [← hA]; rfl
   have a8' : A.eval (.tmp 8) = .int .i64 kd := by rw [← hA]; rfl
   have a9' : A.eval (.tmp 9) = .slice P.a P.n P.c := by rw [← hA]; rfl
   have a14' : A.eval (.tmp 14) = .slice S4.a S4.n S4.c := by rw [← hA]; rfl
   have a15' : A.eval (.tmp 15) = .bool true := by rw [← hA]; rfl
   have a18' : A.eval (.tmp 18) = .bool false := by rw [← hA]; rfl
   have asz : A.tmps.size = 129 := by rw [← hA]; rfl
   have hKF : ∀ wx, Below x10.heap.size x10 wx → Blk wx gf 27 [.int .i64 R.kind, .int .i64 R.id, .slice S2.cn.a S2.cn.n S2.cn.c, .slice S2.sn.a S2.sn.n S2.sn.c, .int .i64 R.tick, .slice S2.cookie.a S2.cookie.n S2.cookie.c, .slice S2.proof.a S2.proof.n S2.proof.c, .int .i64 R.epoch, .int .i64 R.seq, .slice S2.body.a S2.body.n S2.body.c, .slice S2.tag.a S2.tag.n S2.tag.c] := fun wx hb => KF10.out.later hb
   have hOF : ∀ wx, Below x10.heap.size x10 wx → FrRd wx S2 R := fun wx hb => OF10.out.later hb
   have hO4 : ∀ wx, Below x10.heap.size x10 wx → SRd wx S4 lp := fun wx hb => O410.out.later hb
   have hOP : ∀ wx, Below x10.heap.size x10 wx → SRd wx P lp := fun wx hb => OP10.out.later hb
   have hOS : ∀ wx, Below x10.heap.size x10 wx → SRd wx S ls := fun wx hb => OS10.out.later hb
   have hOK : ∀ wx, Below x10.heap.size x10 wx → SRd wx K lk := fun wx hb => OK10.out.later hb
   have hTT : ∀ wx, Below x10.heap.size x10 wx → Tab wx := fun wx hb => HT.out.later (B10.out.trans (hb.mono B10.out.size))
   refine region_each (by kernel_rfl) DL1 48 (fun i => DL1.getD i 0) (fun _ => 0)
    (fun i gB v wx => match i with
     | 0 => v = .agg #[.int .i64 R.kind, .int .i64 R.id, .slice S2.cn.a S2.cn.n S2.cn.c, .slice S2.sn.a S2.sn.n S2.sn.c, .int .i64 R.tick, .slice S2.cookie.a S2.cookie.n S2.cookie.c, .slice S2.proof.a S2.proof.n S2.proof.c, .int .i64 R.epoch, .int .i64 R.seq, .slice S2.body.a S2.body.n S2.body.c, .slice S2.tag.a S2.tag.n S2.tag.c]
     | 1 => v = .bool true
     | 2 => v = .bool true
     | 3 => v = .bool true
     | 4 => v = .bool true
     | 5 => v = .bool true
     | 6 => v = .slice S4.a S4.n S4.c
     | 7 => v = .slice P.a P.n P.c
     | 8 => v = .bool true
     | 9 => v = .bool true
     | 10 => v = .bool true
     | 11 => v = .bool false
     | 12 => v = .bool true
     | 13 => v = .bool true
     | 14 => v = .bool true
     | 15 => v = .pointer (some ⟨gf, 7, none⟩)
     | 16 => v = .int .i64 R.epoch
     | 17 => v = .int .i64 ep
     | 18 => v = .bool true
     | 19 => v = .bool true
     | 20 => v = .bool true
     | 21 => v = .pointer (some ⟨gf, 8, none⟩)
     | 22 => v = .int .i64 R.seq
     | 23 => v = .int .i64 sq
     | 24 => v = .bool true
     | 25 => v = .bool true
     | 26 => v = .bool true
     | 27 => v = .pointer (some ⟨gf, 0, none⟩)
     | 28 => v = .int .i64 R.kind
     | 29 => v = .int .i64 kd
     | 30 => v = .bool true
     | 31 => v = .bool true
     | 32 => v = .bool true
     | 33 => v = .pointer (some ⟨gf, 3, none⟩)
     | 34 => v = .slice S2.sn.a S2.sn.n S2.sn.c
     | 35 => v = .slice S.a S.n S.c
     | 36 => v = .bool true
     | 37 => v = .bool true
     | 38 => v = .bool true
     | 39 => v = .pointer (some ⟨gf, 10, none⟩)
     | 40 => v = .slice S2.tag.a S2.tag.n S2.tag.c
     | 41 => v = .slice K.a K.n K.c
     | 42 => v = .int .i64 ro
     | 43 => v = .agg #[.int .i64 R.kind, .int .i64 R.id, .slice S2.cn.a S2.cn.n S2.cn.c, .slice S2.sn.a S2.sn.n S2.sn.c, .int .i64 R.tick, .slice S2.cookie.a S2.cookie.n S2.cookie.c, .slice S2.proof.a S2.proof.n S2.proof.c, .int .i64 R.epoch, .int .i64 R.seq, .slice S2.body.a S2.body.n S2.body.c, .slice S2.tag.a S2.tag.n S2.tag.c]
     | 44 => ∃ s2, v = .slice s2.a s2.n s2.c ∧ SRd wx s2 (tagIn ro R)
     | 45 => ∃ s3, v = .slice s3.a s3.n s3.c ∧ SRd wx s3 (tagI lk (tagIn ro R))
     | 46 => v = .bool true
     | 47 => v = .bool true
     | _ => False) (fun wx => Below x10.heap.size x10 wx) (by kernel_rfl) (Below.refl _ _).drew ?_ ?_ ?_
   ·
    intro i gB v wx wy hi hF hb _
    match i, hi with
    | 0, _ => exact hF
    | 1, _ => exact hF
    | 2, _ => exact hF
    | 3, _ => exact hF
    | 4, _ => exact hF
    | 5, _ => exact hF
    | 6, _ => exact hF
    | 7, _ => exact hF
    | 8, _ => exact hF
    | 9, _ => exact hF
    | 10, _ => exact hF
    | 11, _ => exact hF
    | 12, _ => exact hF
    | 13, _ => exact hF
    | 14, _ => exact hF
    | 15, _ => exact hF
    | 16, _ => exact hF
    | 17, _ => exact hF
    | 18, _ => exact hF
    | 19, _ => exact hF
    | 20, _ => exact hF
    | 21, _ => exact hF
    | 22, _ => exact hF
    | 23, _ => exact hF
    | 24, _ => exact hF
    | 25, _ => exact hF
    | 26, _ => exact hF
    | 27, _ => exact hF
    | 28, _ => exact hF
    | 29, _ => exact hF
    | 30, _ => exact hF
    | 31, _ => exact hF
    | 32, _ => exact hF
    | 33, _ => exact hF
    | 34, _ => exact hF
    | 35, _ => exact hF
    | 36, _ => exact hF
    | 37, _ => exact hF
    | 38, _ => exact hF
    | 39, _ => exact hF
    | 40, _ => exact hF
    | 41, _ => exact hF
    | 42, _ => exact hF
    | 43, _ => exact hF
    | 44, _ => obtain ⟨s2, h0, h1⟩ := hF; exact ⟨s2, h0, h1.later hb⟩
    | 45, _ => obtain ⟨s3, h0, h1⟩ := hF; exact ⟨s3, h0, h1.later hb⟩
    | 46, _ => exact hF
    | 47, _ => exact hF
    | n + 48, hi => exact absurd hi (by omega)
   ·
    intro i hi t ρ wx hB hp hd
    match i, hi with
    | 0, _ =>
     have e10 : (fr DL1 A t).eval (.tmp 10) = .pointer (some ⟨gf, 0, none⟩) := (fr_eval_old _ _ _ 10 rfl).trans a10'
     obtain ⟨hc0, hc1, hc2, hc3, hc4, hc5, hc6, hc7, hc8, hc9, hc10⟩ := cells11 (hKF wx hB)
     refine op_run (v := .agg #[.int .i64 R.kind, .int .i64 R.id, .slice S2.cn.a S2.cn.n S2.cn.c, .slice S2.sn.a S2.sn.n S2.sn.c, .int .i64 R.tick, .slice S2.cookie.a S2.cookie.n S2.cookie.c, .slice S2.proof.a S2.proof.n S2.proof.c, .int .i64 R.epoch, .int .i64 R.seq, .slice S2.body.a S2.body.n S2.body.c, .slice S2.tag.a S2.tag.n S2.tag.c]) (w' := wx) rfl rfl ?_ ?_
     ·
      clear hp hd; have ec : ∀ v, (fr DL1 A t).eval (.const v) = v := fun _ => rfl; generalize (fr DL1 A t).eval = ev at ec e10 ⊢; go_simp
     ·
      exact ⟨_, 0, rfl, hB, Below.refl _ _, rfl, .inl rfl⟩
    | 1, _ =>
     have e81 : (fr DL1 A t).eval (.tmp 81) = .agg #[.int .i64 R.kind, .int .i64 R.id, .slice S2.cn.a S2.cn.n S2.cn.c, .slice S2.sn.a S2.sn.n S2.sn.c, .int .i64 R.tick, .slice S2.cookie.a S2.cookie.n S2.cookie.c, .slice S2.proof.a S2.proof.n S2.proof.c, .int .i64 R.epoch, .int .i64 R.seq, .slice S2.body.a S2.body.n S2.body.c, .slice S2.tag.a S2.tag.n S2.tag.c] := (fr_eval _ _ _ 81 rfl (by rw [asz]; decide)).trans (hp 0 (pre_mem (by kernel_rfl)))
     refine op_call (f := 18) (args := #[.agg #[.int .i64 R.kind, .int .i64 R.id, .slice S2.cn.a S2.cn.n S2.cn.c, .slice S2.sn.a S2.sn.n S2.sn.c, .int .i64 R.tick, .slice S2.cookie.a S2.cookie.n S2.cookie.c, .slice S2.proof.a S2.proof.n S2.proof.c, .int .i64 R.epoch, .int .i64 R.seq, .slice S2.body.a S2.body.n S2.body.c, .slice S2.tag.a S2.tag.n S2.tag.c]]) rfl rfl ?_ (okV S2 R true wx (hOF wx hB) HOK.out) ?_
     ·
      have ef : (fr DL1 A t).eval (.func 18) = .func (.func 18) #[] #[] := rfl; clear hp hd; have ec : ∀ v, (fr DL1 A t).eval (.const v) = v := fun _ => rfl; generalize (fr DL1 A t).eval = ev at ec e81 ef ⊢; go_simp
     ·
      rintro e wy ⟨rfl, b1⟩
      exact ⟨_, rfl, _, 0, rfl, hB.trans (b1.mono hB.size), b1, rfl, .inl rfl⟩
    | 2, _ =>
     have hv1 := hp 1 (pre_mem (by kernel_rfl))
     have e82 : (fr DL1 A t).eval (.tmp 82) = .bool true := (fr_eval _ _ _ 82 rfl (by rw [asz]; decide)).trans hv1
     refine op_run (v := .bool true) (w' := wx) rfl rfl ?_ ?_
     ·
      clear hp hd; have ec : ∀ v, (fr DL1 A t).eval (.const v) = v := fun _ => rfl; generalize (fr DL1 A t).eval = ev at ec e82 ⊢; go_simp
     ·
      exact ⟨_, 0, rfl, hB, Below.refl _ _, rfl, .inl rfl⟩
    | 3, _ =>
     have e15 : (fr DL1 A t).eval (.tmp 15) = .bool true := (fr_eval_old _ _ _ 15 rfl).trans a15'
     have e83 : (fr DL1 A t).eval (.tmp 83) = .bool true := (fr_eval _ _ _ 83 rfl (by rw [asz]; decide)).trans (hp 2 (pre_mem (by kernel_rfl)))
     refine op_run_g (v := .bool true) (w' := wx) rfl (wanted_true rfl rfl e83) ?_ ?_
     ·
      clear hp hd; have ec : ∀ v, (fr DL1 A t).eval (.const v) = v := fun _ => rfl; generalize (fr DL1 A t).eval = ev at ec e15 e83 ⊢; go_simp
     ·
      exact ⟨_, 0, rfl, hB, Below.refl _ _, rfl, .inl rfl⟩
    | 4, _ =>
     have e83 : (fr DL1 A t).eval (.tmp 83) = .bool true := (fr_eval _ _ _ 83 rfl (by rw [asz]; decide)).trans (hp 2 (pre_mem (by kernel_rfl)))
     have e84 : (fr DL1 A t).eval (.tmp 84) = .bool true := (fr_eval _ _ _ 84 rfl (by rw [asz]; decide)).trans (hp 3 (pre_mem (by kernel_rfl)))
     refine op_run (v := .bool true) (w' := wx) rfl rfl ?_ ?_
     ·
      clear hp hd; have ec : ∀ v, (fr DL1 A t).eval (.const v) = v := fun _ => rfl; generalize (fr DL1 A t).eval = ev at ec e83 e84 ⊢; go_simp
     ·
      exact ⟨_, 0, rfl, hB, Below.refl _ _, rfl, .inl rfl⟩
    | 5, _ =>
     have e85 : (fr DL1 A t).eval (.tmp 85) = .bool true := (fr_eval _ _ _ 85 rfl (by rw [asz]; decide)).trans (hp 4 (pre_mem (by kernel_rfl)))
     refine op_run (v := .bool true) (w' := wx) rfl rfl ?_ ?_
     ·
      clear hp hd; have ec : ∀ v, (fr DL1 A t).eval (.const v) = v := fun _ => rfl; generalize (fr DL1 A t).eval = ev at ec e85 ⊢; go_simp
     ·
      exact ⟨_, 0, rfl, hB, Below.refl _ _, rfl, .inl rfl⟩
    | 6, _ =>
     have e14 : (fr DL1 A t).eval (.tmp 14) = .slice S4.a S4.n S4.c := (fr_eval_old _ _ _ 14 rfl).trans a14'
     have e86 : (fr DL1 A t).eval (.tmp 86) = .bool true := (fr_eval _ _ _ 86 rfl (by rw [asz]; decide)).trans (hp 5 (pre_mem (by kernel_rfl)))
     refine op_run_g (v := .slice S4.a S4.n S4.c) (w' := wx) rfl (wanted_true rfl rfl e86) ?_ ?_
     ·
      clear hp hd; have ec : ∀ v, (fr DL1 A t).eval (.const v) = v := fun _ => rfl; generalize (fr DL1 A t).eval = ev at ec e14 e86 ⊢; go_simp
     ·
      exact ⟨_, 0, rfl, hB, Below.refl _ _, rfl, .inl rfl⟩
    | 7, _ =>
     have e9 : (fr DL1 A t).eval (.tmp 9) = .slice P.a P.n P.c := (fr_eval_old _ _ _ 9 rfl).trans a9'
     have e86 : (fr DL1 A t).eval (.tmp 86) = .bool true := (fr_eval _ _ _ 86 rfl (by rw [asz]; decide)).trans (hp 5 (pre_mem (by kernel_rfl)))
     refine op_run_g (v := .slice P.a P.n P.c) (w' := wx) rfl (wanted_true rfl rfl e86) ?_ ?_
     ·
      clear hp hd; have ec : ∀ v, (fr DL1 A t).eval (.const v) = v := fun _ => rfl; generalize (fr DL1 A t).eval = ev at ec e9 e86 ⊢; go_simp
     ·
      exact ⟨_, 0, rfl, hB, Below.refl _ _, rfl, .inl rfl⟩
    | 8, _ =>
     have e87 : (fr DL1 A t).eval (.tmp 87) = .slice S4.a S4.n S4.c := (fr_eval _ _ _ 87 rfl (by rw [asz]; decide)).trans (hp 6 (pre_mem (by kernel_rfl)))
     have e88 : (fr DL1 A t).eval (.tmp 88) = .slice P.a P.n P.c := (fr_eval _ _ _ 88 rfl (by rw [asz]; decide)).trans (hp 7 (pre_mem (by kernel_rfl)))
     have e86 : (fr DL1 A t).eval (.tmp 86) = .bool true := (fr_eval _ _ _ 86 rfl (by rw [asz]; decide)).trans (hp 5 (pre_mem (by kernel_rfl)))
     refine op_call_g (f := 19) (args := #[.slice S4.a S4.n S4.c, .slice P.a P.n P.c]) rfl (wanted_true rfl rfl e86) ?_ (sameN S4 P lp lp wx (hO4 wx hB) (hOP wx hB) rfl) ?_
     ·
      have ef : (fr DL1 A t).eval (.func 19) = .func (.func 19) #[] #[] := rfl; clear hp hd; have ec : ∀ v, (fr DL1 A t).eval (.const v) = v := fun _ => rfl; generalize (fr DL1 A t).eval = ev at ec e87 e88 e86 ef ⊢; go_simp
     ·
      rintro e wy ⟨rfl, b1⟩
      exact ⟨_, rfl, _, 0, rfl, hB.trans (b1.mono hB.size), b1, rfl, .inl rfl⟩
    | 9, _ =>
     have e86 : (fr DL1 A t).eval (.tmp 86) = .bool true := (fr_eval _ _ _ 86 rfl (by rw [asz]; decide)).trans (hp 5 (pre_mem (by kernel_rfl)))
     have hv8 := hp 8 (pre_mem (by kernel_rfl))
     have e89 : (fr DL1 A t).eval (.tmp 89) = .bool true := (fr_eval _ _ _ 89 rfl (by rw [asz]; decide)).trans hv8
     refine op_run (v := .bool true) (w' := wx) rfl rfl ?_ ?_
     ·
      clear hp hd; have ec : ∀ v, (fr DL1 A t).eval (.const v) = v := fun _ => rfl; generalize (fr DL1 A t).eval = ev at ec e86 e89 ⊢; go_simp
     ·
      exact ⟨_, 0, rfl, hB, Below.refl _ _, rfl, .inl rfl⟩
    | 10, _ =>
     have e90 : (fr DL1 A t).eval (.tmp 90) = .bool true := (fr_eval _ _ _ 90 rfl (by rw [asz]; decide)).trans (hp 9 (pre_mem (by kernel_rfl)))
     refine op_run (v := .bool true) (w' := wx) rfl rfl ?_ ?_
     ·
      clear hp hd; have ec : ∀ v, (fr DL1 A t).eval (.const v) = v := fun _ => rfl; generalize (fr DL1 A t).eval = ev at ec e90 ⊢; go_simp
     ·
      exact ⟨_, 0, rfl, hB, Below.refl _ _, rfl, .inl rfl⟩
    | 11, _ =>
     have e18 : (fr DL1 A t).eval (.tmp 18) = .bool false := (fr_eval_old _ _ _ 18 rfl).trans a18'
     have e91 : (fr DL1 A t).eval (.tmp 91) = .bool true := (fr_eval _ _ _ 91 rfl (by rw [asz]; decide)).trans (hp 10 (pre_mem (by kernel_rfl)))
     refine op_run_g (v := .bool false) (w' := wx) rfl (wanted_true rfl rfl e91) ?_ ?_
     ·
      clear hp hd; have ec : ∀ v, (fr DL1 A t).eval (.const v) = v := fun _ => rfl; generalize (fr DL1 A t).eval = ev at ec e18 e91 ⊢; go_simp
     ·
      exact ⟨_, 0, rfl, hB, Below.refl _ _, rfl, .inl rfl⟩
    | 12, _ =>
     have e92 : (fr DL1 A t).eval (.tmp 92) = .bool false := (fr_eval _ _ _ 92 rfl (by rw [asz]; decide)).trans (hp 11 (pre_mem (by kernel_rfl)))
     have e91 : (fr DL1 A t).eval (.tmp 91) = .bool true := (fr_eval _ _ _ 91 rfl (by rw [asz]; decide)).trans (hp 10 (pre_mem (by kernel_rfl)))
     refine op_run_g (v := .bool true) (w' := wx) rfl (wanted_true rfl rfl e91) ?_ ?_
     ·
      clear hp hd; have ec : ∀ v, (fr DL1 A t).eval (.const v) = v := fun _ => rfl; generalize (fr DL1 A t).eval = ev at ec e92 e91 ⊢; go_simp
     ·
      exact ⟨_, 0, rfl, hB, Below.refl _ _, rfl, .inl rfl⟩
    | 13, _ =>
     have e91 : (fr DL1 A t).eval (.tmp 91) = .bool true := (fr_eval _ _ _ 91 rfl (by rw [asz]; decide)).trans (hp 10 (pre_mem (by kernel_rfl)))
     have e93 : (fr DL1 A t).eval (.tmp 93) = .bool true := (fr_eval _ _ _ 93 rfl (by rw [asz]; decide)).trans (hp 12 (pre_mem (by kernel_rfl)))
     refine op_run (v := .bool true) (w' := wx) rfl rfl ?_ ?_
     ·
      clear hp hd; have ec : ∀ v, (fr DL1 A t).eval (.const v) = v := fun _ => rfl; generalize (fr DL1 A t).eval = ev at ec e91 e93 ⊢; go_simp
     ·
      exact ⟨_, 0, rfl, hB, Below.refl _ _, rfl, .inl rfl⟩
    | 14, _ =>
     have e94 : (fr DL1 A t).eval (.tmp 94) = .bool true := (fr_eval _ _ _ 94 rfl (by rw [asz]; decide)).trans (hp 13 (pre_mem (by kernel_rfl)))
     refine op_run (v := .bool true) (w' := wx) rfl rfl ?_ ?_
     ·
      clear hp hd; have ec : ∀ v, (fr DL1 A t).eval (.const v) = v := fun _ => rfl; generalize (fr DL1 A t).eval = ev at ec e94 ⊢; go_simp
     ·
      exact ⟨_, 0, rfl, hB, Below.refl _ _, rfl, .inl rfl⟩
    | 15, _ =>
     have e10 : (fr DL1 A t).eval (.tmp 10) = .pointer (some ⟨gf, 0, none⟩) := (fr_eval_old _ _ _ 10 rfl).trans a10'
     have e95 : (fr DL1 A t).eval (.tmp 95) = .bool true := (fr_eval _ _ _ 95 rfl (by rw [asz]; decide)).trans (hp 14 (pre_mem (by kernel_rfl)))
     refine op_run_g (v := .pointer (some ⟨gf, 7, none⟩)) (w' := wx) rfl (wanted_true rfl rfl e95) ?_ ?_
     ·
      clear hp hd; have ec : ∀ v, (fr DL1 A t).eval (.const v) = v := fun _ => rfl; generalize (fr DL1 A t).eval = ev at ec e10 e95 ⊢; go_simp
     ·
      exact ⟨_, 0, rfl, hB, Below.refl _ _, rfl, .inl rfl⟩
    | 16, _ =>
     have e96 : (fr DL1 A t).eval (.tmp 96) = .pointer (some ⟨gf, 7, none⟩) := (fr_eval _ _ _ 96 rfl (by rw [asz]; decide)).trans (hp 15 (pre_mem (by kernel_rfl)))
     have e95 : (fr DL1 A t).eval (.tmp 95) = .bool true := (fr_eval _ _ _ 95 rfl (by rw [asz]; decide)).trans (hp 14 (pre_mem (by kernel_rfl)))
     obtain ⟨hc0, hc1, hc2, hc3, hc4, hc5, hc6, hc7, hc8, hc9, hc10⟩ := cells11 (hKF wx hB)
     refine op_run_g (v := .int .i64 R.epoch) (w' := wx) rfl (wanted_true rfl rfl e95) ?_ ?_
     ·
      clear hp hd; have ec : ∀ v, (fr DL1 A t).eval (.const v) = v := fun _ => rfl; generalize (fr DL1 A t).eval = ev at ec e96 e95 ⊢; go_simp
     ·
      exact ⟨_, 0, rfl, hB, Below.refl _ _, rfl, .inl rfl⟩
    | 17, _ =>
     have e6 : (fr DL1 A t).eval (.tmp 6) = .int .i64 ep := (fr_eval_old _ _ _ 6 rfl).trans a6'
     have e95 : (fr DL1 A t).eval (.tmp 95) = .bool true := (fr_eval _ _ _ 95 rfl (by rw [asz]; decide)).trans (hp 14 (pre_mem (by kernel_rfl)))
     refine op_run_g (v := .int .i64 ep) (w' := wx) rfl (wanted_true rfl rfl e95) ?_ ?_
     ·
      clear hp hd; have ec : ∀ v, (fr DL1 A t).eval (.const v) = v := fun _ => rfl; generalize (fr DL1 A t).eval = ev at ec e6 e95 ⊢; go_simp
     ·
      exact ⟨_, 0, rfl, hB, Below.refl _ _, rfl, .inl rfl⟩
    | 18, _ =>
     have e97 : (fr DL1 A t).eval (.tmp 97) = .int .i64 R.epoch := (fr_eval _ _ _ 97 rfl (by rw [asz]; decide)).trans (hp 16 (pre_mem (by kernel_rfl)))
     have e98 : (fr DL1 A t).eval (.tmp 98) = .int .i64 ep := (fr_eval _ _ _ 98 rfl (by rw [asz]; decide)).trans (hp 17 (pre_mem (by kernel_rfl)))
     have e95 : (fr DL1 A t).eval (.tmp 95) = .bool true := (fr_eval _ _ _ 95 rfl (by rw [asz]; decide)).trans (hp 14 (pre_mem (by kernel_rfl)))
     have hh := he1
     refine op_run_g (v := .bool true) (w' := wx) rfl (wanted_true rfl rfl e95) ?_ ?_
     ·
      clear hp hd; have ec : ∀ v, (fr DL1 A t).eval (.const v) = v := fun _ => rfl; generalize (fr DL1 A t).eval = ev at ec e97 e98 e95 ⊢; go_simp
     ·
      exact ⟨_, 0, rfl, hB, Below.refl _ _, rfl, .inl rfl⟩
    | 19, _ =>
     have e95 : (fr DL1 A t).eval (.tmp 95) = .bool true := (fr_eval _ _ _ 95 rfl (by rw [asz]; decide)).trans (hp 14 (pre_mem (by kernel_rfl)))
     have e99 : (fr DL1 A t).eval (.tmp 99) = .bool true := (fr_eval _ _ _ 99 rfl (by rw [asz]; decide)).trans (hp 18 (pre_mem (by kernel_rfl)))
     refine op_run (v := .bool true) (w' := wx) rfl rfl ?_ ?_
     ·
      clear hp hd; have ec : ∀ v, (fr DL1 A t).eval (.const v) = v := fun _ => rfl; generalize (fr DL1 A t).eval = ev at ec e95 e99 ⊢; go_simp
     ·
      exact ⟨_, 0, rfl, hB, Below.refl _ _, rfl, .inl rfl⟩
    | 20, _ =>
     have e100 : (fr DL1 A t).eval (.tmp 100) = .bool true := (fr_eval _ _ _ 100 rfl (by rw [asz]; decide)).trans (hp 19 (pre_mem (by kernel_rfl)))
     refine op_run (v := .bool true) (w' := wx) rfl rfl ?_ ?_
     ·
      clear hp hd; have ec : ∀ v, (fr DL1 A t).eval (.const v) = v := fun _ => rfl; generalize (fr DL1 A t).eval = ev at ec e100 ⊢; go_simp
     ·
      exact ⟨_, 0, rfl, hB, Below.refl _ _, rfl, .inl rfl⟩
    | 21, _ =>
     have e10 : (fr DL1 A t).eval (.tmp 10) = .pointer (some ⟨gf, 0, none⟩) := (fr_eval_old _ _ _ 10 rfl).trans a10'
     have e101 : (fr DL1 A t).eval (.tmp 101) = .bool true := (fr_eval _ _ _ 101 rfl (by rw [asz]; decide)).trans (hp 20 (pre_mem (by kernel_rfl)))
     refine op_run_g (v := .pointer (some ⟨gf, 8, none⟩)) (w' := wx) rfl (wanted_true rfl rfl e101) ?_ ?_
     ·
      clear hp hd; have ec : ∀ v, (fr DL1 A t).eval (.const v) = v := fun _ => rfl; generalize (fr DL1 A t).eval = ev at ec e10 e101 ⊢; go_simp
     ·
      exact ⟨_, 0, rfl, hB, Below.refl _ _, rfl, .inl rfl⟩
    | 22, _ =>
     have e102 : (fr DL1 A t).eval (.tmp 102) = .pointer (some ⟨gf, 8, none⟩) := (fr_eval _ _ _ 102 rfl (by rw [asz]; decide)).trans (hp 21 (pre_mem (by kernel_rfl)))
     have e101 : (fr DL1 A t).eval (.tmp 101) = .bool true := (fr_eval _ _ _ 101 rfl (by rw [asz]; decide)).trans (hp 20 (pre_mem (by kernel_rfl)))
     obtain ⟨hc0, hc1, hc2, hc3, hc4, hc5, hc6, hc7, hc8, hc9, hc10⟩ := cells11 (hKF wx hB)
     refine op_run_g (v := .int .i64 R.seq) (w' := wx) rfl (wanted_true rfl rfl e101) ?_ ?_
     ·
      clear hp hd; have ec : ∀ v, (fr DL1 A t).eval (.const v) = v := fun _ => rfl; generalize (fr DL1 A t).eval = ev at ec e102 e101 ⊢; go_simp
     ·
      exact ⟨_, 0, rfl, hB, Below.refl _ _, rfl, .inl rfl⟩
    | 23, _ =>
     have e7 : (fr DL1 A t).eval (.tmp 7) = .int .i64 sq := (fr_eval_old _ _ _ 7 rfl).trans a7'
     have e101 : (fr DL1 A t).eval (.tmp 101) = .bool true := (fr_eval _ _ _ 101 rfl (by rw [asz]; decide)).trans (hp 20 (pre_mem (by kernel_rfl)))
     refine op_run_g (v := .int .i64 sq) (w' := wx) rfl (wanted_true rfl rfl e101) ?_ ?_
     ·
      clear hp hd; have ec : ∀ v, (fr DL1 A t).eval (.const v) = v := fun _ => rfl; generalize (fr DL1 A t).eval = ev at ec e7 e101 ⊢; go_simp
     ·
      exact ⟨_, 0, rfl, hB, Below.refl _ _, rfl, .inl rfl⟩
    | 24, _ =>
     have e103 : (fr DL1 A t).eval (.tmp 103) = .int .i64 R.seq := (fr_eval _ _ _ 103 rfl (by rw [asz]; decide)).trans (hp 22 (pre_mem (by kernel_rfl)))
     have e104 : (fr DL1 A t).eval (.tmp 104) = .int .i64 sq := (fr_eval _ _ _ 104 rfl (by rw [asz]; decide)).trans (hp 23 (pre_mem (by kernel_rfl)))
     have e101 : (fr DL1 A t).eval (.tmp 101) = .bool true := (fr_eval _ _ _ 101 rfl (by rw [asz]; decide)).trans (hp 20 (pre_mem (by kernel_rfl)))
     have hh := he2
     refine op_run_g (v := .bool true) (w' := wx) rfl (wanted_true rfl rfl e101) ?_ ?_
     ·
      clear hp hd; have ec : ∀ v, (fr DL1 A t).eval (.const v) = v := fun _ => rfl; generalize (fr DL1 A t).eval = ev at ec e103 e104 e101 ⊢; go_simp
     ·
      exact ⟨_, 0, rfl, hB, Below.refl _ _, rfl, .inl rfl⟩
    | 25, _ =>
     have e101 : (fr DL1 A t).eval (.tmp 101) = .bool true := (fr_eval _ _ _ 101 rfl (by rw [asz]; decide)).trans (hp 20 (pre_mem (by kernel_rfl)))
     have e105 : (fr DL1 A t).eval (.tmp 105) = .bool true := (fr_eval _ _ _ 105 rfl (by rw [asz]; decide)).trans (hp 24 (pre_mem (by kernel_rfl)))
     refine op_run (v := .bool true) (w' := wx) rfl rfl ?_ ?_
     ·
      clear hp hd; have ec : ∀ v, (fr DL1 A t).eval (.const v) = v := fun _ => rfl; generalize (fr DL1 A t).eval = ev at ec e101 e105 ⊢; go_simp
     ·
      exact ⟨_, 0, rfl, hB, Below.refl _ _, rfl, .inl rfl⟩
    | 26, _ =>
     have e106 : (fr DL1 A t).eval (.tmp 106) = .bool true := (fr_eval _ _ _ 106 rfl (by rw [asz]; decide)).trans (hp 25 (pre_mem (by kernel_rfl)))
     refine op_run (v := .bool true) (w' := wx) rfl rfl ?_ ?_
     ·
      clear hp hd; have ec : ∀ v, (fr DL1 A t).eval (.const v) = v := fun _ => rfl; generalize (fr DL1 A t).eval = ev at ec e106 ⊢; go_simp
     ·
      exact ⟨_, 0, rfl, hB, Below.refl _ _, rfl, .inl rfl⟩
    | 27, _ =>
     have e10 : (fr DL1 A t).eval (.tmp 10) = .pointer (some ⟨gf, 0, none⟩) := (fr_eval_old _ _ _ 10 rfl).trans a10'
     have e107 : (fr DL1 A t).eval (.tmp 107) = .bool true := (fr_eval _ _ _ 107 rfl (by rw [asz]; decide)).trans (hp 26 (pre_mem (by kernel_rfl)))
     refine op_run_g (v := .pointer (some ⟨gf, 0, none⟩)) (w' := wx) rfl (wanted_true rfl rfl e107) ?_ ?_
     ·
      clear hp hd; have ec : ∀ v, (fr DL1 A t).eval (.const v) = v := fun _ => rfl; generalize (fr DL1 A t).eval = ev at ec e10 e107 ⊢; go_simp
     ·
      exact ⟨_, 0, rfl, hB, Below.refl _ _, rfl, .inl rfl⟩
    | 28, _ =>
     have e108 : (fr DL1 A t).eval (.tmp 108) = .pointer (some ⟨gf, 0, none⟩) := (fr_eval _ _ _ 108 rfl (by rw [asz]; decide)).trans (hp 27 (pre_mem (by kernel_rfl)))
     have e107 : (fr DL1 A t).eval (.tmp 107) = .bool true := (fr_eval _ _ _ 107 rfl (by rw [asz]; decide)).trans (hp 26 (pre_mem (by kernel_rfl)))
     obtain ⟨hc0, hc1, hc2, hc3, hc4, hc5, hc6, hc7, hc8, hc9, hc10⟩ := cells11 (hKF wx hB)
     refine op_run_g (v := .int .i64 R.kind) (w' := wx) rfl (wanted_true rfl rfl e107) ?_ ?_
     ·
      clear hp hd; have ec : ∀ v, (fr DL1 A t).eval (.const v) = v := fun _ => rfl; generalize (fr DL1 A t).eval = ev at ec e108 e107 ⊢; go_simp
     ·
      exact ⟨_, 0, rfl, hB, Below.refl _ _, rfl, .inl rfl⟩
    | 29, _ =>
     have e8 : (fr DL1 A t).eval (.tmp 8) = .int .i64 kd := (fr_eval_old _ _ _ 8 rfl).trans a8'
     have e107 : (fr DL1 A t).eval (.tmp 107) = .bool true := (fr_eval _ _ _ 107 rfl (by rw [asz]; decide)).trans (hp 26 (pre_mem (by kernel_rfl)))
     refine op_run_g (v := .int .i64 kd) (w' := wx) rfl (wanted_true rfl rfl e107) ?_ ?_
     ·
      clear hp hd; have ec : ∀ v, (fr DL1 A t).eval (.const v) = v := fun _ => rfl; generalize (fr DL1 A t).eval = ev at ec e8 e107 ⊢; go_simp
     ·
      exact ⟨_, 0, rfl, hB, Below.refl _ _, rfl, .inl rfl⟩
    | 30, _ =>
     have e109 : (fr DL1 A t).eval (.tmp 109) = .int .i64 R.kind := (fr_eval _ _ _ 109 rfl (by rw [asz]; decide)).trans (hp 28 (pre_mem (by kernel_rfl)))
     have e110 : (fr DL1 A t).eval (.tmp 110) = .int .i64 kd := (fr_eval _ _ _ 110 rfl (by rw [asz]; decide)).trans (hp 29 (pre_mem (by kernel_rfl)))
     have e107 : (fr DL1 A t).eval (.tmp 107) = .bool true := (fr_eval _ _ _ 107 rfl (by rw [asz]; decide)).trans (hp 26 (pre_mem (by kernel_rfl)))
     have hh := he3
     refine op_run_g (v := .bool true) (w' := wx) rfl (wanted_true rfl rfl e107) ?_ ?_
     ·
      clear hp hd; have ec : ∀ v, (fr DL1 A t).eval (.const v) = v := fun _ => rfl; generalize (fr DL1 A t).eval = ev at ec e109 e110 e107 ⊢; go_simp
     ·
      exact ⟨_, 0, rfl, hB, Below.refl _ _, rfl, .inl rfl⟩
    | 31, _ =>
     have e107 : (fr DL1 A t).eval (.tmp 107) = .bool true := (fr_eval _ _ _ 107 rfl (by rw [asz]; decide)).trans (hp 26 (pre_mem (by kernel_rfl)))
     have e111 : (fr DL1 A t).eval (.tmp 111) = .bool true := (fr_eval _ _ _ 111 rfl (by rw [asz]; decide)).trans (hp 30 (pre_mem (by kernel_rfl)))
     refine op_run (v := .bool true) (w' := wx) rfl rfl ?_ ?_
     ·
      clear hp hd; have ec : ∀ v, (fr DL1 A t).eval (.const v) = v := fun _ => rfl; generalize (fr DL1 A t).eval = ev at ec e107 e111 ⊢; go_simp
     ·
      exact ⟨_, 0, rfl, hB, Below.refl _ _, rfl, .inl rfl⟩
    | 32, _ =>
     have e112 : (fr DL1 A t).eval (.tmp 112) = .bool true := (fr_eval _ _ _ 112 rfl (by rw [asz]; decide)).trans (hp 31 (pre_mem (by kernel_rfl)))
     refine op_run (v := .bool true) (w' := wx) rfl rfl ?_ ?_
     ·
      clear hp hd; have ec : ∀ v, (fr DL1 A t).eval (.const v) = v := fun _ => rfl; generalize (fr DL1 A t).eval = ev at ec e112 ⊢; go_simp
     ·
      exact ⟨_, 0, rfl, hB, Below.refl _ _, rfl, .inl rfl⟩
    | 33, _ =>
     have e10 : (fr DL1 A t).eval (.tmp 10) = .pointer (some ⟨gf, 0, none⟩) := (fr_eval_old _ _ _ 10 rfl).trans a10'
     have e113 : (fr DL1 A t).eval (.tmp 113) = .bool true := (fr_eval _ _ _ 113 rfl (by rw [asz]; decide)).trans (hp 32 (pre_mem (by kernel_rfl)))
     refine op_run_g (v := .pointer (some ⟨gf, 3, none⟩)) (w' := wx) rfl (wanted_true rfl rfl e113) ?_ ?_
     ·
      clear hp hd; have ec : ∀ v, (fr DL1 A t).eval (.const v) = v := fun _ => rfl; generalize (fr DL1 A t).eval = ev at ec e10 e113 ⊢; go_simp
     ·
      exact ⟨_, 0, rfl, hB, Below.refl _ _, rfl, .inl rfl⟩
    | 34, _ =>
     have e114 : (fr DL1 A t).eval (.tmp 114) = .pointer (some ⟨gf, 3, none⟩) := (fr_eval _ _ _ 114 rfl (by rw [asz]; decide)).trans (hp 33 (pre_mem (by kernel_rfl)))
     have e113 : (fr DL1 A t).eval (.tmp 113) = .bool true := (fr_eval _ _ _ 113 rfl (by rw [asz]; decide)).trans (hp 32 (pre_mem (by kernel_rfl)))
     obtain ⟨hc0, hc1, hc2, hc3, hc4, hc5, hc6, hc7, hc8, hc9, hc10⟩ := cells11 (hKF wx hB)
     refine op_run_g (v := .slice S2.sn.a S2.sn.n S2.sn.c) (w' := wx) rfl (wanted_true rfl rfl e113) ?_ ?_
     ·
      clear hp hd; have ec : ∀ v, (fr DL1 A t).eval (.const v) = v := fun _ => rfl; generalize (fr DL1 A t).eval = ev at ec e114 e113 ⊢; go_simp
     ·
      exact ⟨_, 0, rfl, hB, Below.refl _ _, rfl, .inl rfl⟩
    | 35, _ =>
     have e5 : (fr DL1 A t).eval (.tmp 5) = .slice S.a S.n S.c := (fr_eval_old _ _ _ 5 rfl).trans a5'
     have e113 : (fr DL1 A t).eval (.tmp 113) = .bool true := (fr_eval _ _ _ 113 rfl (by rw [asz]; decide)).trans (hp 32 (pre_mem (by kernel_rfl)))
     refine op_run_g (v := .slice S.a S.n S.c) (w' := wx) rfl (wanted_true rfl rfl e113) ?_ ?_
     ·
      clear hp hd; have ec : ∀ v, (fr DL1 A t).eval (.const v) = v := fun _ => rfl; generalize (fr DL1 A t).eval = ev at ec e5 e113 ⊢; go_simp
     ·
      exact ⟨_, 0, rfl, hB, Below.refl _ _, rfl, .inl rfl⟩
    | 36, _ =>
     have e115 : (fr DL1 A t).eval (.tmp 115) = .slice S2.sn.a S2.sn.n S2.sn.c := (fr_eval _ _ _ 115 rfl (by rw [asz]; decide)).trans (hp 34 (pre_mem (by kernel_rfl)))
     have e116 : (fr DL1 A t).eval (.tmp 116) = .slice S.a S.n S.c := (fr_eval _ _ _ 116 rfl (by rw [asz]; decide)).trans (hp 35 (pre_mem (by kernel_rfl)))
     have e113 : (fr DL1 A t).eval (.tmp 113) = .bool true := (fr_eval _ _ _ 113 rfl (by rw [asz]; decide)).trans (hp 32 (pre_mem (by kernel_rfl)))
     refine op_call_g (f := 19) (args := #[.slice S2.sn.a S2.sn.n S2.sn.c, .slice S.a S.n S.c]) rfl (wanted_true rfl rfl e113) ?_ (sameN S2.sn S R.sn ls wx (hOF wx hB).sn (hOS wx hB) HPR.out.2.2.2) ?_
     ·
      have ef : (fr DL1 A t).eval (.func 19) = .func (.func 19) #[] #[] := rfl; clear hp hd; have ec : ∀ v, (fr DL1 A t).eval (.const v) = v := fun _ => rfl; generalize (fr DL1 A t).eval = ev at ec e115 e116 e113 ef ⊢; go_simp
     ·
      rintro e wy ⟨rfl, b1⟩
      exact ⟨_, rfl, _, 0, rfl, hB.trans (b1.mono hB.size), b1, rfl, .inl rfl⟩
    | 37, _ =>
     have e113 : (fr DL1 A t).eval (.tmp 113) = .bool true := (fr_eval _ _ _ 113 rfl (by rw [asz]; decide)).trans (hp 32 (pre_mem (by kernel_rfl)))
     have hv36 := hp 36 (pre_mem (by kernel_rfl))
     have e117 : (fr DL1 A t).eval (.tmp 117) = .bool true := (fr_eval _ _ _ 117 rfl (by rw [asz]; decide)).trans hv36
     refine op_run (v := .bool true) (w' := wx) rfl rfl ?_ ?_
     ·
      clear hp hd; have ec : ∀ v, (fr DL1 A t).eval (.const v) = v := fun _ => rfl; generalize (fr DL1 A t).eval = ev at ec e113 e117 ⊢; go_simp
     ·
      exact ⟨_, 0, rfl, hB, Below.refl _ _, rfl, .inl rfl⟩
    | 38, _ =>
     have e118 : (fr DL1 A t).eval (.tmp 118) = .bool true := (fr_eval _ _ _ 118 rfl (by rw [asz]; decide)).trans (hp 37 (pre_mem (by kernel_rfl)))
     refine op_run (v := .bool true) (w' := wx) rfl rfl ?_ ?_
     ·
      clear hp hd; have ec : ∀ v, (fr DL1 A t).eval (.const v) = v := fun _ => rfl; generalize (fr DL1 A t).eval = ev at ec e118 ⊢; go_simp
     ·
      exact ⟨_, 0, rfl, hB, Below.refl _ _, rfl, .inl rfl⟩
    | 39, _ =>
     have e10 : (fr DL1 A t).eval (.tmp 10) = .pointer (some ⟨gf, 0, none⟩) := (fr_eval_old _ _ _ 10 rfl).trans a10'
     have e119 : (fr DL1 A t).eval (.tmp 119) = .bool true := (fr_eval _ _ _ 119 rfl (by rw [asz]; decide)).trans (hp 38 (pre_mem (by kernel_rfl)))
     refine op_run_g (v := .pointer (some ⟨gf, 10, none⟩)) (w' := wx) rfl (wanted_true rfl rfl e119) ?_ ?_
     ·
      clear hp hd; have ec : ∀ v, (fr DL1 A t).eval (.const v) = v := fun _ => rfl; generalize (fr DL1 A t).eval = ev at ec e10 e119 ⊢; go_simp
     ·
      exact ⟨_, 0, rfl, hB, Below.refl _ _, rfl, .inl rfl⟩
    | 40, _ =>
     have e120 : (fr DL1 A t).eval (.tmp 120) = .pointer (some ⟨gf, 10, none⟩) := (fr_eval _ _ _ 120 rfl (by rw [asz]; decide)).trans (hp 39 (pre_mem (by kernel_rfl)))
     have e119 : (fr DL1 A t).eval (.tmp 119) = .bool true := (fr_eval _ _ _ 119 rfl (by rw [asz]; decide)).trans (hp 38 (pre_mem (by kernel_rfl)))
     obtain ⟨hc0, hc1, hc2, hc3, hc4, hc5, hc6, hc7, hc8, hc9, hc10⟩ := cells11 (hKF wx hB)
     refine op_run_g (v := .slice S2.tag.a S2.tag.n S2.tag.c) (w' := wx) rfl (wanted_true rfl rfl e119) ?_ ?_
     ·
      clear hp hd; have ec : ∀ v, (fr DL1 A t).eval (.const v) = v := fun _ => rfl; generalize (fr DL1 A t).eval = ev at ec e120 e119 ⊢; go_simp
     ·
      exact ⟨_, 0, rfl, hB, Below.refl _ _, rfl, .inl rfl⟩
    | 41, _ =>
     have e3 : (fr DL1 A t).eval (.tmp 3) = .slice K.a K.n K.c := (fr_eval_old _ _ _ 3 rfl).trans a3'
     have e119 : (fr DL1 A t).eval (.tmp 119) = .bool true := (fr_eval _ _ _ 119 rfl (by rw [asz]; decide)).trans (hp 38 (pre_mem (by kernel_rfl)))
     refine op_run_g (v := .slice K.a K.n K.c) (w' := wx) rfl (wanted_true rfl rfl e119) ?_ ?_
     ·
      clear hp hd; have ec : ∀ v, (fr DL1 A t).eval (.const v) = v := fun _ => rfl; generalize (fr DL1 A t).eval = ev at ec e3 e119 ⊢; go_simp
     ·
      exact ⟨_, 0, rfl, hB, Below.refl _ _, rfl, .inl rfl⟩
    | 42, _ =>
     have e4 : (fr DL1 A t).eval (.tmp 4) = .int .i64 ro := (fr_eval_old _ _ _ 4 rfl).trans a4'
     have e119 : (fr DL1 A t).eval (.tmp 119) = .bool true := (fr_eval _ _ _ 119 rfl (by rw [asz]; decide)).trans (hp 38 (pre_mem (by kernel_rfl)))
     refine op_run_g (v := .int .i64 ro) (w' := wx) rfl (wanted_true rfl rfl e119) ?_ ?_
     ·
      clear hp hd; have ec : ∀ v, (fr DL1 A t).eval (.const v) = v := fun _ => rfl; generalize (fr DL1 A t).eval = ev at ec e4 e119 ⊢; go_simp
     ·
      exact ⟨_, 0, rfl, hB, Below.refl _ _, rfl, .inl rfl⟩
    | 43, _ =>
     have e10 : (fr DL1 A t).eval (.tmp 10) = .pointer (some ⟨gf, 0, none⟩) := (fr_eval_old _ _ _ 10 rfl).trans a10'
     have e119 : (fr DL1 A t).eval (.tmp 119) = .bool true := (fr_eval _ _ _ 119 rfl (by rw [asz]; decide)).trans (hp 38 (pre_mem (by kernel_rfl)))
     obtain ⟨hc0, hc1, hc2, hc3, hc4, hc5, hc6, hc7, hc8, hc9, hc10⟩ := cells11 (hKF wx hB)
     refine op_run_g (v := .agg #[.int .i64 R.kind, .int .i64 R.id, .slice S2.cn.a S2.cn.n S2.cn.c, .slice S2.sn.a S2.sn.n S2.sn.c, .int .i64 R.tick, .slice S2.cookie.a S2.cookie.n S2.cookie.c, .slice S2.proof.a S2.proof.n S2.proof.c, .int .i64 R.epoch, .int .i64 R.seq, .slice S2.body.a S2.body.n S2.body.c, .slice S2.tag.a S2.tag.n S2.tag.c]) (w' := wx) rfl (wanted_true rfl rfl e119) ?_ ?_
     ·
      clear hp hd; have ec : ∀ v, (fr DL1 A t).eval (.const v) = v := fun _ => rfl; generalize (fr DL1 A t).eval = ev at ec e10 e119 ⊢; go_simp
     ·
      exact ⟨_, 0, rfl, hB, Below.refl _ _, rfl, .inl rfl⟩
    | 44, _ =>
     have e123 : (fr DL1 A t).eval (.tmp 123) = .int .i64 ro := (fr_eval _ _ _ 123 rfl (by rw [asz]; decide)).trans (hp 42 (pre_mem (by kernel_rfl)))
     have e124 : (fr DL1 A t).eval (.tmp 124) = .agg #[.int .i64 R.kind, .int .i64 R.id, .slice S2.cn.a S2.cn.n S2.cn.c, .slice S2.sn.a S2.sn.n S2.sn.c, .int .i64 R.tick, .slice S2.cookie.a S2.cookie.n S2.cookie.c, .slice S2.proof.a S2.proof.n S2.proof.c, .int .i64 R.epoch, .int .i64 R.seq, .slice S2.body.a S2.body.n S2.body.c, .slice S2.tag.a S2.tag.n S2.tag.c] := (fr_eval _ _ _ 124 rfl (by rw [asz]; decide)).trans (hp 43 (pre_mem (by kernel_rfl)))
     have e119 : (fr DL1 A t).eval (.tmp 119) = .bool true := (fr_eval _ _ _ 119 rfl (by rw [asz]; decide)).trans (hp 38 (pre_mem (by kernel_rfl)))
     refine op_call_g (f := 21) (args := #[.int .i64 ro, .agg #[.int .i64 R.kind, .int .i64 R.id, .slice S2.cn.a S2.cn.n S2.cn.c, .slice S2.sn.a S2.sn.n S2.sn.c, .int .i64 R.tick, .slice S2.cookie.a S2.cookie.n S2.cookie.c, .slice S2.proof.a S2.proof.n S2.proof.c, .int .i64 R.epoch, .int .i64 R.seq, .slice S2.body.a S2.body.n S2.body.c, .slice S2.tag.a S2.tag.n S2.tag.c]]) rfl (wanted_true rfl rfl e119) ?_ (UnsI.inputN ro S2 R wx (hOF wx hB)) ?_
     ·
      have ef : (fr DL1 A t).eval (.func 21) = .func (.func 21) #[] #[] := rfl; clear hp hd; have ec : ∀ v, (fr DL1 A t).eval (.const v) = v := fun _ => rfl; generalize (fr DL1 A t).eval = ev at ec e123 e124 e119 ef ⊢; go_simp
     ·
      rintro e wy ⟨s2, rfl, o2, b1⟩
      exact ⟨_, rfl, _, 0, rfl, hB.trans (b1.mono hB.size), b1, ⟨s2, rfl, o2.rd⟩, .inl rfl⟩
    | 45, _ =>
     have e122 : (fr DL1 A t).eval (.tmp 122) = .slice K.a K.n K.c := (fr_eval _ _ _ 122 rfl (by rw [asz]; decide)).trans (hp 41 (pre_mem (by kernel_rfl)))
     obtain ⟨s244, hv44, q44_0⟩ := hp 44 (pre_mem (by kernel_rfl))
     have e125 : (fr DL1 A t).eval (.tmp 125) = .slice s244.a s244.n s244.c := (fr_eval _ _ _ 125 rfl (by rw [asz]; decide)).trans hv44
     have e119 : (fr DL1 A t).eval (.tmp 119) = .bool true := (fr_eval _ _ _ 119 rfl (by rw [asz]; decide)).trans (hp 38 (pre_mem (by kernel_rfl)))
     refine op_call_g (f := 20) (args := #[.slice K.a K.n K.c, .slice s244.a s244.n s244.c]) rfl (wanted_true rfl rfl e119) ?_ (UnsI.tagN K s244 lk (tagIn ro R) wx (hTT wx hB) (hOK wx hB) q44_0 (by have := HKL.out; omega) (by have := tagIn_le ro R; omega)) ?_
     ·
      have ef : (fr DL1 A t).eval (.func 20) = .func (.func 20) #[] #[] := rfl; clear hp hd q44_0; have ec : ∀ v, (fr DL1 A t).eval (.const v) = v := fun _ => rfl; generalize (fr DL1 A t).eval = ev at ec e122 e125 e119 ef ⊢; go_simp
     ·
      rintro e wy ⟨s3, rfl, o3, b1⟩
      exact ⟨_, rfl, _, 0, rfl, hB.trans (b1.mono hB.size), b1, ⟨s3, rfl, o3.rd⟩, .inl rfl⟩
    | 46, _ =>
     have e121 : (fr DL1 A t).eval (.tmp 121) = .slice S2.tag.a S2.tag.n S2.tag.c := (fr_eval _ _ _ 121 rfl (by rw [asz]; decide)).trans (hp 40 (pre_mem (by kernel_rfl)))
     obtain ⟨s345, hv45, q45_0⟩ := hp 45 (pre_mem (by kernel_rfl))
     have e126 : (fr DL1 A t).eval (.tmp 126) = .slice s345.a s345.n s345.c := (fr_eval _ _ _ 126 rfl (by rw [asz]; decide)).trans hv45
     have e119 : (fr DL1 A t).eval (.tmp 119) = .bool true := (fr_eval _ _ _ 119 rfl (by rw [asz]; decide)).trans (hp 38 (pre_mem (by kernel_rfl)))
     refine op_call_g (f := 19) (args := #[.slice S2.tag.a S2.tag.n S2.tag.c, .slice s345.a s345.n s345.c]) rfl (wanted_true rfl rfl e119) ?_ (sameN S2.tag s345 R.tag (tagI lk (tagIn ro R)) wx (hOF wx hB).tag q45_0 HTG.out) ?_
     ·
      have ef : (fr DL1 A t).eval (.func 19) = .func (.func 19) #[] #[] := rfl; clear hp hd q45_0; have ec : ∀ v, (fr DL1 A t).eval (.const v) = v := fun _ => rfl; generalize (fr DL1 A t).eval = ev at ec e121 e126 e119 ef ⊢; go_simp
     ·
      rintro e wy ⟨rfl, b1⟩
      exact ⟨_, rfl, _, 0, rfl, hB.trans (b1.mono hB.size), b1, rfl, .inl rfl⟩
    | 47, _ =>
     have e119 : (fr DL1 A t).eval (.tmp 119) = .bool true := (fr_eval _ _ _ 119 rfl (by rw [asz]; decide)).trans (hp 38 (pre_mem (by kernel_rfl)))
     have hv46 := hp 46 (pre_mem (by kernel_rfl))
     have e127 : (fr DL1 A t).eval (.tmp 127) = .bool true := (fr_eval _ _ _ 127 rfl (by rw [asz]; decide)).trans hv46
     refine op_run (v := .bool true) (w' := wx) rfl rfl ?_ ?_
     ·
      clear hp hd; have ec : ∀ v, (fr DL1 A t).eval (.const v) = v := fun _ => rfl; generalize (fr DL1 A t).eval = ev at ec e119 e127 ⊢; go_simp
     ·
      exact ⟨_, 0, rfl, hB, Below.refl _ _, rfl, .inl rfl⟩
    | n + 48, hi => exact absurd hi (by omega)
   ·
    intro t ρ wx hB hF hne
    have e128 : (fr DL1 A t).eval (.tmp 128) = .bool true := (fr_eval _ _ _ 128 rfl (by rw [asz]; decide)).trans (hF 47 (by decide))
    clear hne
    refine op_wp rfl rfl ?_
    generalize hE : (fr DL1 A t).eval = ev at e128
    unfold Oper.wp
    rw [hE]
    go_simp
    refine hMet _ _ (Met.intro (hRJ _ _ ⟨_, t 81, t 82, t 83, t 84, t 85, t 86, t 87, t 88, t 89, t 90, t 91, t 92, t 93, t 94, t 95, t 96, t 97, t 98, t 99, t 100, t 101, t 102, t 103, t 104, t 105, t 106, t 107, t 108, t 109, t 110, t 111, t 112, t 113, t 114, t 115, t 116, t 117, t 118, t 119, t 120, t 121, t 122, t 123, t 124, t 125, t 126, t 127, t 128, ⟨rfl, hB⟩, ?_⟩))
    rw [← hA]; rfl
  case rest =>
   obtain ⟨x11, hxc⟩ : ∃ zz, zz = wc := ⟨_, rfl⟩
   subst hxc
   obtain ⟨rfl, b⟩ := hcut
   go_wp2
   go_ret
   exact ⟨rfl, B10.out.trans (b.mono B10.out.size)⟩

theorem walk (a : Option Addr) (len cap : Nat) (zs : List Int) (w : World) (hT : Tab w) (h : IsRow .u8 w a len cap zs) :
  Calls Tryz.prog 3 #[.slice a len cap] w fun e w' => e = .returned (.bool true) ∧ Below w.heap.size w w' := by
 obtain ⟨l, h1, h2, _, h4⟩ := h.read
 by_cases hl : len ≤ 1048576
 ·
  exact small a len cap l w hT h1 h2 h4 hl
 ·
  clear h h1 h2 h4
  go_enter Tryz.func3, Tryz.ntmps3
  go_wp2_with fail
  refine (bigYes a len cap w (by omega)).mono ?_
  rintro e w0 ⟨rfl, rfl⟩
  go_wp2
  go_ret
  exact ⟨rfl, Below.refl _ _⟩
end Go.Proofs.YtmcflfpckpjphaaGreatDoor.LawSeals

/-
  The walk of the law FnProofs: at every code what finishes a cookie has its parts and a right proof, and with a byte of the proof turned it is not right; where the table of round words is as the text lays it.
-/
import Derived.Test.YtpenhliaelhnoaaGreatDoorVaDrKf
import Derived.Test.YtpenhliaelhnoaaGreatDoorVaDrKg
import Derived.Test.YtpenhliaelhnoaaGreatDoorVaKeY
import Derived.Test.YtpenhliaelhnoaaGreatDoorVaKeX
import Derived.Test.YtpenhliaelhnoaaGreatDoorVaKeV
import Derived.Test.YtpenhliaelhnoaaGreatDoorVaKeU
import Derived.Test.YtpenhliaelhnoaaGreatDoorVaKeZ
import Derived.Test.YtpenhliaelhnoaaGreatDoorVaSmFr
import Derived.Test.YtpenhliaelhnoaaGreatDoorVaSameV
import Derived.Test.YtpenhliaelhnoaaGreatDoorVaUnsS
import Derived.Test.YtpenhliaelhnoaaGreatDoorVaGz8
import Derived.Test.YtpenhliaelhnoaaGreatDoorVaGz16
import Derived.Test.YtpenhliaelhnoaaGreatDoorVaGz15
set_option maxRecDepth 100000
namespace Go.Proofs.YtpenhliaelhnoaaGreatDoor.LawProofs
open Go.RowKit Mem App Blk Draw Zone Res Comp MacP FrZ FrP FrG FrL KeW KeZ DrKf DrKg Bent Shp Each Copy Ops Guard

theorem okV (S : FrS) (D : FrD) (v : Bool) (w : World) (h : FrRd w S D) (hv : frameOk D = v) : Calls Tryz.prog 15 #[frV D S] w fun e w' => e = .returned (.bool v) ∧ Below w.heap.size w w' := by
 subst hv; exact FrO2.implFrameOk S D w h
theorem pokI (q : Sl) (l : List Int) (S : FrS) (D : FrD) (v : Bool) (w : World) (hT : Tab w) (hq : SRd w q l) (h : FrRd w S D) (hv : pOk l D = v) : Calls Tryz.prog 12 #[.slice q.a q.n q.c, frV D S] w fun e w' => e = .returned (.bool v) ∧ Below w.heap.size w w' := by
 subst hv; exact KeV.implProofOk q l S D w hT hq h
theorem pokS (q : Sl) (l : List Int) (S : FrS) (D : FrD) (v : Bool) (w : World) (hq : SRd w q l) (h : FrRd w S D) (hv : pOk l D = v) : Calls Tryz.prog 13 #[.slice q.a q.n q.c, frV D S] w fun e w' => e = .returned (.bool v) ∧ Below w.heap.size w w' := by
 subst hv; exact KeU.specProofOk q l S D w hq h
theorem sameN (s t : Sl) (x y : List Int) (w : World) (h : SRd w s x) (k : SRd w t y) (hv : x = y) : Calls Tryz.prog 16 #[.slice s.a s.n s.c, .slice t.a t.n t.c] w fun e w' => e = .returned (.bool true) ∧ Below w.heap.size w w' := by
 refine (SameV.sameV s t x y true w h k (decide_eq_true hv)).mono ?_
 rintro e w' ⟨rfl, rfl⟩
 exact ⟨rfl, Below.refl _ _⟩
theorem bigNo (a : Option Addr) (len cap : Nat) (w : World) (h : len ≤ 1048576) :
  Calls Tryz.prog 6 #[.slice a len cap] w fun e w' => e = .returned (.bool false) ∧ w = w' := by
 have h' : ¬ ((1048576 : Int) < (len : Int)) := by omega
 go_enter Tryz.func6, Tryz.ntmps6
 go_wp2
 go_ret
 exact ⟨rfl, rfl⟩
theorem bigYes (a : Option Addr) (len cap : Nat) (w : World) (h : 1048576 < len) :
  Calls Tryz.prog 6 #[.slice a len cap] w fun e w' => e = .returned (.bool true) ∧ w = w' := by
 have h' : (1048576 : Int) < (len : Int) := by omega
 go_enter Tryz.func6, Tryz.ntmps6
 go_wp2
 go_ret
 exact ⟨rfl, rfl⟩
abbrev DL1 : List Nat := [40, 41, 42, 43, 44, 45, 46, 47, 48, 49, 50, 51, 52, 53, 54, 55, 56]
set_option maxHeartbeats 16000000 in
theorem small (a : Option Addr) (len cap : Nat) (l : List Int) (w : World) (hT : Tab w) (hl : len = l.length) (hr : Rd w a l) (hb : Bytes l) (hlen : len ≤ 1048576) :
  Calls Tryz.prog 3 #[.slice a len cap] w fun e w' => e = .returned (.bool true) ∧ Below w.heap.size w w' := by
 have HR := hid (hr)
 have HL : Hid (len = l.length) := hl
 have HB := hid (hb)
 clear hr hl hb
 have HT := hid (hT)
 clear hT
 have B0 : Hid (Below w.heap.size w w) := Below.refl _ _
 go_enter Tryz.func3, Tryz.ntmps3
 go_wp2_with fail
 refine (bigNo a len cap w hlen).mono ?_
 rintro e w0 ⟨rfl, rfl⟩
 go_wp2_with fail
 refine (drawFinishOf a len cap l w HL.out (HR.out.later B0.out (Nat.le_refl _)) HB.out hlen).mono ?_
 rintro e x1 ⟨P, lp, id, SF, F, rfl, _, op, of, b⟩
 have L1 := hid (b.size)
 have B1 := hid (B0.out.trans (b.mono B0.out.size))
 clear b B0
 have OP1 := hid (op)
 have OF1 := hid (of)
 clear op of
 obtain ⟨x2, hx2⟩ : ∃ x2, x1.alloc (.cells #[.int .i64 F.kind, .int .i64 F.id, .slice SF.cn.a SF.cn.n SF.cn.c, .slice SF.sn.a SF.sn.n SF.sn.c, .int .i64 F.tick, .slice SF.cookie.a SF.cookie.n SF.cookie.c, .slice SF.proof.a SF.proof.n SF.proof.c, .int .i64 F.epoch, .int .i64 F.seq, .slice SF.body.a SF.body.n SF.body.c, .slice SF.tag.a SF.tag.n SF.tag.c] 25) = x2 := ⟨_, rfl⟩
 have HW2 := hid (hx2)
 have b2 : Below x1.heap.size x1 x2 := by rw [← hx2]; exact (Below.refl _ _).alloc (Nat.le_refl _) _
 have KN : Blk x2 x1.heap.size 25 [.int .i64 F.kind, .int .i64 F.id, .slice SF.cn.a SF.cn.n SF.cn.c, .slice SF.sn.a SF.sn.n SF.sn.c, .int .i64 F.tick, .slice SF.cookie.a SF.cookie.n SF.cookie.c, .slice SF.proof.a SF.proof.n SF.proof.c, .int .i64 F.epoch, .int .i64 F.seq, .slice SF.body.a SF.body.n SF.body.c, .slice SF.tag.a SF.tag.n SF.tag.c] := by rw [← hx2]; exact Blk.new x1 _ _
 have HSZ2 : Hid (x2.heap.size = x1.heap.size + 1) := by rw [← hx2]; show _ = _; simp
 clear hx2
 have L2 := hid (b2.size)
 have B2 := hid (B1.out.trans (b2.mono B1.out.size))
 have OP2 := hid (OP1.out.later b2)
 have OF2 := hid (OF1.out.later b2)
 clear b2 B1 OP1 OF1
 unfold frV
 go_upto_region 4 with fail
 rw [HW2.out]
 obtain ⟨gf, hgf⟩ : ∃ g, x1.heap.size = g := ⟨_, rfl⟩
 have Ggf : Hid (x1.heap.size = gf ∧ x2.heap.size = gf + 1) := ⟨hgf, by rw [← hgf]; exact HSZ2.out⟩
 rw [hgf] at KN ⊢
 clear HW2 HSZ2 hgf
 have KF2 := hid (KN)
 clear KN
 obtain ⟨G, hG⟩ : ∃ z : FrD, finD lp id F = z := ⟨_, rfl⟩
 have HG : Hid (finD lp id F = G) := hG
 clear hG
 obtain ⟨vv, hvv⟩ : ∃ z : Bool, finF lp id F = z := ⟨_, rfl⟩
 have HV : Hid (finF lp id F = vv) := hvv
 clear hvv
 have hvv : (vv != vv) = false := by simp
 obtain ⟨d0, d1, d2, d3, d4, d5, d6, d7, d8, d9, d10⟩ := cells11 KF2.out
 go_wp2_with fail
 refine (KeY.implFinishOf P lp id SF F x2 (HT.out.later B2.out) OP2.out OF2.out).mono ?_
 unfold KeY.AnsF
 rw [HG.out, HV.out]
 rintro e x3 ⟨S2, rfl, o, b⟩
 clear d0 d1 d2 d3 d4 d5 d6 d7 d8 d9 d10
 have L3 := hid (b.size)
 have B3 := hid (B2.out.trans (b.mono B2.out.size))
 have OP3 := hid (OP2.out.later b)
 have OF3 := hid (OF2.out.later b)
 have KF3 := hid (KF2.out.later b)
 clear b B2 OP2 OF2 KF2
 have OG3 := hid (o.rd)
 clear o
 obtain ⟨x4, hx4⟩ : ∃ x4, x3.alloc (.cells #[.int .i64 G.kind, .int .i64 G.id, .slice S2.cn.a S2.cn.n S2.cn.c, .slice S2.sn.a S2.sn.n S2.sn.c, .int .i64 G.tick, .slice S2.cookie.a S2.cookie.n S2.cookie.c, .slice S2.proof.a S2.proof.n S2.proof.c, .int .i64 G.epoch, .int .i64 G.seq, .slice S2.body.a S2.body.n S2.body.c, .slice S2.tag.a S2.tag.n S2.tag.c] 25) = x4 := ⟨_, rfl⟩
 have HW4 := hid (hx4)
 have b4 : Below x3.heap.size x3 x4 := by rw [← hx4]; exact (Below.refl _ _).alloc (Nat.le_refl _) _
 have KN : Blk x4 x3.heap.size 25 [.int .i64 G.kind, .int .i64 G.id, .slice S2.cn.a S2.cn.n S2.cn.c, .slice S2.sn.a S2.sn.n S2.sn.c, .int .i64 G.tick, .slice S2.cookie.a S2.cookie.n S2.cookie.c, .slice S2.proof.a S2.proof.n S2.proof.c, .int .i64 G.epoch, .int .i64 G.seq, .slice S2.body.a S2.body.n S2.body.c, .slice S2.tag.a S2.tag.n S2.tag.c] := by rw [← hx4]; exact Blk.new x3 _ _
 have HSZ4 : Hid (x4.heap.size = x3.heap.size + 1) := by rw [← hx4]; show _ = _; simp
 clear hx4
 have L4 := hid (b4.size)
 have B4 := hid (B3.out.trans (b4.mono B3.out.size))
 have OP4 := hid (OP3.out.later b4)
 have OF4 := hid (OF3.out.later b4)
 have KF4 := hid (KF3.out.later b4)
 have OG4 := hid (OG3.out.later b4)
 clear b4 B3 OP3 OF3 KF3 OG3
 unfold frV
 go_upto_region 5 with fail
 rw [HW4.out]
 obtain ⟨gg, hgg⟩ : ∃ g, x3.heap.size = g := ⟨_, rfl⟩
 have Ggg : Hid (x3.heap.size = gg ∧ x4.heap.size = gg + 1) := ⟨hgg, by rw [← hgg]; exact HSZ4.out⟩
 rw [hgg] at KN ⊢
 clear HW4 HSZ4 hgg
 have KG4 := hid (KN)
 clear KN
 obtain ⟨d0, d1, d2, d3, d4, d5, d6, d7, d8, d9, d10⟩ := cells11 KF4.out
 go_wp2_with fail
 refine (KeX.specFinishOf P lp id SF F x4 OP4.out OF4.out).mono ?_
 unfold KeX.AnsF
 rw [HG.out, HV.out]
 rintro e x5 ⟨S3, rfl, o, b⟩
 clear d0 d1 d2 d3 d4 d5 d6 d7 d8 d9 d10
 have L5 := hid (b.size)
 have B5 := hid (B4.out.trans (b.mono B4.out.size))
 have OP5 := hid (OP4.out.later b)
 have OF5 := hid (OF4.out.later b)
 have KF5 := hid (KF4.out.later b)
 have OG5 := hid (OG4.out.later b)
 have KG5 := hid (KG4.out.later b)
 clear b B4 OP4 OF4 KF4 OG4 KG4
 have OH5 := hid (o.rd)
 clear o
 obtain ⟨x6, hx6⟩ : ∃ x6, x5.alloc (.cells #[.int .i64 G.kind, .int .i64 G.id, .slice S3.cn.a S3.cn.n S3.cn.c, .slice S3.sn.a S3.sn.n S3.sn.c, .int .i64 G.tick, .slice S3.cookie.a S3.cookie.n S3.cookie.c, .slice S3.proof.a S3.proof.n S3.proof.c, .int .i64 G.epoch, .int .i64 G.seq, .slice S3.body.a S3.body.n S3.body.c, .slice S3.tag.a S3.tag.n S3.tag.c] 25) = x6 := ⟨_, rfl⟩
 have HW6 := hid (hx6)
 have b6 : Below x5.heap.size x5 x6 := by rw [← hx6]; exact (Below.refl _ _).alloc (Nat.le_refl _) _
 have KN : Blk x6 x5.heap.size 25 [.int .i64 G.kind, .int .i64 G.id, .slice S3.cn.a S3.cn.n S3.cn.c, .slice S3.sn.a S3.sn.n S3.sn.c, .int .i64 G.tick, .slice S3.cookie.a S3.cookie.n S3.cookie.c, .slice S3.proof.a S3.proof.n S3.proof.c, .int .i64 G.epoch, .int .i64 G.seq, .slice S3.body.a S3.body.n S3.body.c, .slice S3.tag.a S3.tag.n S3.tag.c] := by rw [← hx6]; exact Blk.new x5 _ _
 have HSZ6 : Hid (x6.heap.size = x5.heap.size + 1) := by rw [← hx6]; show _ = _; simp
 clear hx6
 have L6 := hid (b6.size)
 have B6 := hid (B5.out.trans (b6.mono B5.out.size))
 have OP6 := hid (OP5.out.later b6)
 have OF6 := hid (OF5.out.later b6)
 have KF6 := hid (KF5.out.later b6)
 have OG6 := hid (OG5.out.later b6)
 have KG6 := hid (KG5.out.later b6)
 have OH6 := hid (OH5.out.later b6)
 clear b6 B5 OP5 OF5 KF5 OG5 KG5 OH5
 unfold frV
 go_upto_region 6 with fail
 rw [HW6.out]
 obtain ⟨gh, hgh⟩ : ∃ g, x5.heap.size = g := ⟨_, rfl⟩
 have Ggh : Hid (x5.heap.size = gh ∧ x6.heap.size = gh + 1) := ⟨hgh, by rw [← hgh]; exact HSZ6.out⟩
 rw [hgh] at KN ⊢
 clear HW6 HSZ6 hgh
 have KH6 := hid (KN)
 clear KN
 go_wp2_with fail
 refine (drawProofOk a len cap l x6 HL.out (HR.out.later B6.out (Nat.le_refl _)) HB.out hlen).mono ?_
 rintro e x7 ⟨Q, lq, SK, K, rfl, _, oq, ok, b⟩
 have L7 := hid (b.size)
 have B7 := hid (B6.out.trans (b.mono B6.out.size))
 have OP7 := hid (OP6.out.later b)
 have OF7 := hid (OF6.out.later b)
 have KF7 := hid (KF6.out.later b)
 have OG7 := hid (OG6.out.later b)
 have KG7 := hid (KG6.out.later b)
 have OH7 := hid (OH6.out.later b)
 have KH7 := hid (KH6.out.later b)
 clear b B6 OP6 OF6 KF6 OG6 KG6 OH6 KH6
 have OQ7 := hid (oq)
 have OK7 := hid (ok)
 clear oq ok
 obtain ⟨x8, hx8⟩ : ∃ x8, x7.alloc (.cells #[.int .i64 K.kind, .int .i64 K.id, .slice SK.cn.a SK.cn.n SK.cn.c, .slice SK.sn.a SK.sn.n SK.sn.c, .int .i64 K.tick, .slice SK.cookie.a SK.cookie.n SK.cookie.c, .slice SK.proof.a SK.proof.n SK.proof.c, .int .i64 K.epoch, .int .i64 K.seq, .slice SK.body.a SK.body.n SK.body.c, .slice SK.tag.a SK.tag.n SK.tag.c] 25) = x8 := ⟨_, rfl⟩
 have HW8 := hid (hx8)
 have b8 : Below x7.heap.size x7 x8 := by rw [← hx8]; exact (Below.refl _ _).alloc (Nat.le_refl _) _
 have KN : Blk x8 x7.heap.size 25 [.int .i64 K.kind, .int .i64 K.id, .slice SK.cn.a SK.cn.n SK.cn.c, .slice SK.sn.a SK.sn.n SK.sn.c, .int .i64 K.tick, .slice SK.cookie.a SK.cookie.n SK.cookie.c, .slice SK.proof.a SK.proof.n SK.proof.c, .int .i64 K.epoch, .int .i64 K.seq, .slice SK.body.a SK.body.n SK.body.c, .slice SK.tag.a SK.tag.n SK.tag.c] := by rw [← hx8]; exact Blk.new x7 _ _
 have HSZ8 : Hid (x8.heap.size = x7.heap.size + 1) := by rw [← hx8]; show _ = _; simp
 clear hx8
 have L8 := hid (b8.size)
 have B8 := hid (B7.out.trans (b8.mono B7.out.size))
 have OP8 := hid (OP7.out.later b8)
 have OF8 := hid (OF7.out.later b8)
 have KF8 := hid (KF7.out.later b8)
 have OG8 := hid (OG7.out.later b8)
 have KG8 := hid (KG7.out.later b8)
 have OH8 := hid (OH7.out.later b8)
 have KH8 := hid (KH7.out.later b8)
 have OQ8 := hid (OQ7.out.later b8)
 have OK8 := hid (OK7.out.later b8)
 clear b8 B7 OP7 OF7 KF7 OG7 KG7 OH7 KH7 OQ7 OK7
 unfold frV
 go_upto_region 7 with fail
 rw [HW8.out]
 obtain ⟨gk, hgk⟩ : ∃ g, x7.heap.size = g := ⟨_, rfl⟩
 have Ggk : Hid (x7.heap.size = gk ∧ x8.heap.size = gk + 1) := ⟨hgk, by rw [← hgk]; exact HSZ8.out⟩
 rw [hgk] at KN ⊢
 clear HW8 HSZ8 hgk
 have KK8 := hid (KN)
 clear KN
 obtain ⟨pb, hpb⟩ : ∃ z : Bool, pOk lq K = z := ⟨_, rfl⟩
 have HPB : Hid (pOk lq K = pb) := hpb
 clear hpb
 have hpp : (pb != pb) = false := by simp
 go_cut [57] from 40 to 57 (fun sv wx => sv = .bool false ∧ Below x8.heap.size x8 wx)
 case first =>
  rename_i J K' hRJ hMet
  generalize hA : Act.mk _ _ = A
  have a3' : A.eval (.tmp 3) = .slice P.a P.n P.c := by rw [← hA]; rfl
  have a6' : A.eval (.tmp 6) = .pointer (some ⟨gg, 0, none⟩) := by rw [← hA]; rfl
  have a7' : A.eval (.tmp 7) = .bool vv := by rw [← hA]; rfl
  have a8' : A.eval (.tmp 8) = .pointer (some ⟨gh, 0, none⟩) := by rw [← hA]; rfl
  have a9' : A.eval (.tmp 9) = .bool vv := by rw [← hA]; rfl
  have a10' : A.eval (.tmp 10) = .slice Q.a Q.n Q.c := by rw [← hA]; rfl
  have a11' : A.eval (.tmp 11) = .pointer (some ⟨gk, 0, none⟩) := by rw [← hA]; rfl
  have asz : A.tmps.size = 122 := by rw [← hA]; rfl
  have hKG : ∀ wx, Below x8.heap.size x8 wx → Blk wx gg 25 [.int .i64 G.kind, .int .i64 G.id, .slice S2.cn.a S2.cn.n S2.cn.c, .slice S2.sn.a S2.sn.n S2.sn.c, .int .i64 G.tick, .slice S2.cookie.a S2.cookie.n S2.cookie.c, .slice S2.proof.a S2.proof.n S2.proof.c, .int .i64 G.epoch, .int .i64 G.seq, .slice S2.body.a S2.body.n S2.body.c, .slice S2.tag.a S2.tag.n S2.tag.c] := fun wx hb => KG8.out.later hb
  have hKH : ∀ wx, Below x8.heap.size x8 wx → Blk wx gh 25 [.int .i64 G.kind, .int .i64 G.id, .slice S3.cn.a S3.cn.n S3.cn.c, .slice S3.sn.a S3.sn.n S3.sn.c, .int .i64 G.tick, .slice S3.cookie.a S3.cookie.n S3.cookie.c, .slice S3.proof.a S3.proof.n S3.proof.c, .int .i64 G.epoch, .int .i64 G.seq, .slice S3.body.a S3.body.n S3.body.c, .slice S3.tag.a S3.tag.n S3.tag.c] := fun wx hb => KH8.out.later hb
  have hKK : ∀ wx, Below x8.heap.size x8 wx → Blk wx gk 25 [.int .i64 K.kind, .int .i64 K.id, .slice SK.cn.a SK.cn.n SK.cn.c, .slice SK.sn.a SK.sn.n SK.sn.c, .int .i64 K.tick, .slice SK.cookie.a SK.cookie.n SK.cookie.c, .slice SK.proof.a SK.proof.n SK.proof.c, .int .i64 K.epoch, .int .i64 K.seq, .slice SK.body.a SK.body.n SK.body.c, .slice SK.tag.a SK.tag.n SK.tag.c] := fun wx hb => KK8.out.later hb
  have hOG : ∀ wx, Below x8.heap.size x8 wx → FrRd wx S2 G := fun wx hb => OG8.out.later hb
  have hOH : ∀ wx, Below x8.heap.size x8 wx → FrRd wx S3 G := fun wx hb => OH8.out.later hb
  have hOK : ∀ wx, Below x8.heap.size x8 wx → FrRd wx SK K := fun wx hb => OK8.out.later hb
  have hOQ : ∀ wx, Below x8.heap.size x8 wx → SRd wx Q lq := fun wx hb => OQ8.out.later hb
  have hTT : ∀ wx, Below x8.heap.size x8 wx → Tab wx := fun wx hb => HT.out.later (B8.out.trans (hb.mono B8.out.size))
  refine region_each (by kernel_rfl) DL1 17 (fun i => DL1.getD i 0) (fun _ => 0)
   (fun i gB v wx => match i with
    | 0 => v = .bool vv
    | 1 => v = .bool vv
    | 2 => v = .bool false
    | 3 => v = .bool false
    | 4 => v = .agg #[.int .i64 G.kind, .int .i64 G.id, .slice S2.cn.a S2.cn.n S2.cn.c, .slice S2.sn.a S2.sn.n S2.sn.c, .int .i64 G.tick, .slice S2.cookie.a S2.cookie.n S2.cookie.c, .slice S2.proof.a S2.proof.n S2.proof.c, .int .i64 G.epoch, .int .i64 G.seq, .slice S2.body.a S2.body.n S2.body.c, .slice S2.tag.a S2.tag.n S2.tag.c]
    | 5 => v = .agg #[.int .i64 G.kind, .int .i64 G.id, .slice S3.cn.a S3.cn.n S3.cn.c, .slice S3.sn.a S3.sn.n S3.sn.c, .int .i64 G.tick, .slice S3.cookie.a S3.cookie.n S3.cookie.c, .slice S3.proof.a S3.proof.n S3.proof.c, .int .i64 G.epoch, .int .i64 G.seq, .slice S3.body.a S3.body.n S3.body.c, .slice S3.tag.a S3.tag.n S3.tag.c]
    | 6 => v = .bool true
    | 7 => v = .bool false
    | 8 => v = .bool false
    | 9 => v = .bool false
    | 10 => v = .slice Q.a Q.n Q.c
    | 11 => v = .agg #[.int .i64 K.kind, .int .i64 K.id, .slice SK.cn.a SK.cn.n SK.cn.c, .slice SK.sn.a SK.sn.n SK.sn.c, .int .i64 K.tick, .slice SK.cookie.a SK.cookie.n SK.cookie.c, .slice SK.proof.a SK.proof.n SK.proof.c, .int .i64 K.epoch, .int .i64 K.seq, .slice SK.body.a SK.body.n SK.body.c, .slice SK.tag.a SK.tag.n SK.tag.c]
    | 12 => v = .bool pb
    | 13 => v = .slice Q.a Q.n Q.c
    | 14 => v = .agg #[.int .i64 K.kind, .int .i64 K.id, .slice SK.cn.a SK.cn.n SK.cn.c, .slice SK.sn.a SK.sn.n SK.sn.c, .int .i64 K.tick, .slice SK.cookie.a SK.cookie.n SK.cookie.c, .slice SK.proof.a SK.proof.n SK.proof.c, .int .i64 K.epoch, .int .i64 K.seq, .slice SK.body.a SK.body.n SK.body.c, .slice SK.tag.a SK.tag.n SK.tag.c]
    | 15 => v = .bool pb
    | 16 => v = .bool false
    | _ => False) (fun wx => Below x8.heap.size x8 wx) (by kernel_rfl) (Below.refl _ _).drew ?_ ?_ ?_
  ·
   intro i gB v wx wy hi hF hb _
   match i, hi with
   | 0, _ => exact hF
   | 1, _ => exact hF
   | 2, _ => exact hF
   | 3, _ => exact hF
   | 4, _ => exact hF
   | 5, _ => exact hF
   | 6, _ => exact hF
   | 7, _ => exact hF
   | 8, _ => exact hF
   | 9, _ => exact hF
   | 10, _ => exact hF
   | 11, _ => exact hF
   | 12, _ => exact hF
   | 13, _ => exact hF
   | 14, _ => exact hF
   | 15, _ => exact hF
   | 16, _ => exact hF
   | n + 17, hi => exact absurd hi (by omega)
  ·
   intro i hi t ρ wx hB hp hd
   match i, hi with
   | 0, _ =>
    have e7 : (fr DL1 A t).eval (.tmp 7) = .bool vv := (fr_eval_old _ _ _ 7 rfl).trans a7'
    refine op_run (v := .bool vv) (w' := wx) rfl rfl ?_ ?_
    ·
     clear hp hd; have ec : ∀ v, (fr DL1 A t).eval (.const v) = v := fun _ => rfl; generalize (fr DL1 A t).eval = ev at ec e7 ⊢; go_simp
    ·
     exact ⟨_, 0, rfl, hB, Below.refl _ _, rfl, .inl rfl⟩
   | 1, _ =>
    have e9 : (fr DL1 A t).eval (.tmp 9) = .bool vv := (fr_eval_old _ _ _ 9 rfl).trans a9'
    refine op_run (v := .bool vv) (w' := wx) rfl rfl ?_ ?_
    ·
     clear hp hd; have ec : ∀ v, (fr DL1 A t).eval (.const v) = v := fun _ => rfl; generalize (fr DL1 A t).eval = ev at ec e9 ⊢; go_simp
    ·
     exact ⟨_, 0, rfl, hB, Below.refl _ _, rfl, .inl rfl⟩
   | 2, _ =>
    have e40 : (fr DL1 A t).eval (.tmp 40) = .bool vv := (fr_eval _ _ _ 40 rfl (by rw [asz]; decide)).trans (hp 0 (pre_mem (by kernel_rfl)))
    have e41 : (fr DL1 A t).eval (.tmp 41) = .bool vv := (fr_eval _ _ _ 41 rfl (by rw [asz]; decide)).trans (hp 1 (pre_mem (by kernel_rfl)))
    have hh := hvv
    refine op_run (v := .bool false) (w' := wx) rfl rfl ?_ ?_
    ·
     clear hp hd; have ec : ∀ v, (fr DL1 A t).eval (.const v) = v := fun _ => rfl; generalize (fr DL1 A t).eval = ev at ec e40 e41 ⊢; go_simp
    ·
     exact ⟨_, 0, rfl, hB, Below.refl _ _, rfl, .inl rfl⟩
   | 3, _ =>
    have e42 : (fr DL1 A t).eval (.tmp 42) = .bool false := (fr_eval _ _ _ 42 rfl (by rw [asz]; decide)).trans (hp 2 (pre_mem (by kernel_rfl)))
    refine op_run (v := .bool false) (w' := wx) rfl rfl ?_ ?_
    ·
     clear hp hd; have ec : ∀ v, (fr DL1 A t).eval (.const v) = v := fun _ => rfl; generalize (fr DL1 A t).eval = ev at ec e42 ⊢; go_simp
    ·
     exact ⟨_, 0, rfl, hB, Below.refl _ _, rfl, .inl rfl⟩
   | 4, _ =>
    have e6 : (fr DL1 A t).eval (.tmp 6) = .pointer (some ⟨gg, 0, none⟩) := (fr_eval_old _ _ _ 6 rfl).trans a6'
    have e43 : (fr DL1 A t).eval (.tmp 43) = .bool false := (fr_eval _ _ _ 43 rfl (by rw [asz]; decide)).trans (hp 3 (pre_mem (by kernel_rfl)))
    obtain ⟨hc0, hc1, hc2, hc3, hc4, hc5, hc6, hc7, hc8, hc9, hc10⟩ := cells11 (hKG wx hB)
    refine op_run_g (v := .agg #[.int .i64 G.kind, .int .i64 G.id, .slice S2.cn.a S2.cn.n S2.cn.c, .slice S2.sn.a S2.sn.n S2.sn.c, .int .i64 G.tick, .slice S2.cookie.a S2.cookie.n S2.cookie.c, .slice S2.proof.a S2.proof.n S2.proof.c, .int .i64 G.epoch, .int .i64 G.seq, .slice S2.body.a S2.body.n S2.body.c, .slice S2.tag.a S2.tag.n S2.tag.c]) (w' := wx) rfl (wanted_true rfl rfl e43) ?_ ?_
    ·
     clear hp hd; have ec : ∀ v, (fr DL1 A t).eval (.const v) = v := fun _ => rfl; generalize (fr DL1 A t).eval = ev at ec e6 e43 ⊢; go_simp
    ·
     exact ⟨_, 0, rfl, hB, Below.refl _ _, rfl, .inl rfl⟩
   | 5, _ =>
    have e8 : (fr DL1 A t).eval (.tmp 8) = .pointer (some ⟨gh, 0, none⟩) := (fr_eval_old _ _ _ 8 rfl).trans a8'
    have e43 : (fr DL1 A t).eval (.tmp 43) = .bool false := (fr_eval _ _ _ 43 rfl (by rw [asz]; decide)).trans (hp 3 (pre_mem (by kernel_rfl)))
    obtain ⟨hc0, hc1, hc2, hc3, hc4, hc5, hc6, hc7, hc8, hc9, hc10⟩ := cells11 (hKH wx hB)
    refine op_run_g (v := .agg #[.int .i64 G.kind, .int .i64 G.id, .slice S3.cn.a S3.cn.n S3.cn.c, .slice S3.sn.a S3.sn.n S3.sn.c, .int .i64 G.tick, .slice S3.cookie.a S3.cookie.n S3.cookie.c, .slice S3.proof.a S3.proof.n S3.proof.c, .int .i64 G.epoch, .int .i64 G.seq, .slice S3.body.a S3.body.n S3.body.c, .slice S3.tag.a S3.tag.n S3.tag.c]) (w' := wx) rfl (wanted_true rfl rfl e43) ?_ ?_
    ·
     clear hp hd; have ec : ∀ v, (fr DL1 A t).eval (.const v) = v := fun _ => rfl; generalize (fr DL1 A t).eval = ev at ec e8 e43 ⊢; go_simp
    ·
     exact ⟨_, 0, rfl, hB, Below.refl _ _, rfl, .inl rfl⟩
   | 6, _ =>
    have e44 : (fr DL1 A t).eval (.tmp 44) = .agg #[.int .i64 G.kind, .int .i64 G.id, .slice S2.cn.a S2.cn.n S2.cn.c, .slice S2.sn.a S2.sn.n S2.sn.c, .int .i64 G.tick, .slice S2.cookie.a S2.cookie.n S2.cookie.c, .slice S2.proof.a S2.proof.n S2.proof.c, .int .i64 G.epoch, .int .i64 G.seq, .slice S2.body.a S2.body.n S2.body.c, .slice S2.tag.a S2.tag.n S2.tag.c] := (fr_eval _ _ _ 44 rfl (by rw [asz]; decide)).trans (hp 4 (pre_mem (by kernel_rfl)))
    have e45 : (fr DL1 A t).eval (.tmp 45) = .agg #[.int .i64 G.kind, .int .i64 G.id, .slice S3.cn.a S3.cn.n S3.cn.c, .slice S3.sn.a S3.sn.n S3.sn.c, .int .i64 G.tick, .slice S3.cookie.a S3.cookie.n S3.cookie.c, .slice S3.proof.a S3.proof.n S3.proof.c, .int .i64 G.epoch, .int .i64 G.seq, .slice S3.body.a S3.body.n S3.body.c, .slice S3.tag.a S3.tag.n S3.tag.c] := (fr_eval _ _ _ 45 rfl (by rw [asz]; decide)).trans (hp 5 (pre_mem (by kernel_rfl)))
    have e43 : (fr DL1 A t).eval (.tmp 43) = .bool false := (fr_eval _ _ _ 43 rfl (by rw [asz]; decide)).trans (hp 3 (pre_mem (by kernel_rfl)))
    refine op_call_g (f := 11) (args := #[.agg #[.int .i64 G.kind, .int .i64 G.id, .slice S2.cn.a S2.cn.n S2.cn.c, .slice S2.sn.a S2.sn.n S2.sn.c, .int .i64 G.tick, .slice S2.cookie.a S2.cookie.n S2.cookie.c, .slice S2.proof.a S2.proof.n S2.proof.c, .int .i64 G.epoch, .int .i64 G.seq, .slice S2.body.a S2.body.n S2.body.c, .slice S2.tag.a S2.tag.n S2.tag.c], .agg #[.int .i64 G.kind, .int .i64 G.id, .slice S3.cn.a S3.cn.n S3.cn.c, .slice S3.sn.a S3.sn.n S3.sn.c, .int .i64 G.tick, .slice S3.cookie.a S3.cookie.n S3.cookie.c, .slice S3.proof.a S3.proof.n S3.proof.c, .int .i64 G.epoch, .int .i64 G.seq, .slice S3.body.a S3.body.n S3.body.c, .slice S3.tag.a S3.tag.n S3.tag.c]]) rfl (wanted_true rfl rfl e43) ?_ (SmFr.sameFrame S2 S3 G wx (hOG wx hB) (hOH wx hB)) ?_
    ·
     have ef : (fr DL1 A t).eval (.func 11) = .func (.func 11) #[] #[] := rfl; clear hp hd; have ec : ∀ v, (fr DL1 A t).eval (.const v) = v := fun _ => rfl; generalize (fr DL1 A t).eval = ev at ec e44 e45 e43 ef ⊢; go_simp
    ·
     rintro e wy ⟨rfl, b1⟩
     exact ⟨_, rfl, _, 0, rfl, hB.trans (b1.mono hB.size), b1, rfl, .inl rfl⟩
   | 7, _ =>
    have hv6 := hp 6 (pre_mem (by kernel_rfl))
    have e46 : (fr DL1 A t).eval (.tmp 46) = .bool true := (fr_eval _ _ _ 46 rfl (by rw [asz]; decide)).trans hv6
    have e43 : (fr DL1 A t).eval (.tmp 43) = .bool false := (fr_eval _ _ _ 43 rfl (by rw [asz]; decide)).trans (hp 3 (pre_mem (by kernel_rfl)))
    refine op_run_g (v := .bool false) (w' := wx) rfl (wanted_true rfl rfl e43) ?_ ?_
    ·
     clear hp hd; have ec : ∀ v, (fr DL1 A t).eval (.const v) = v := fun _ => rfl; generalize (fr DL1 A t).eval = ev at ec e46 e43 ⊢; go_simp
    ·
     exact ⟨_, 0, rfl, hB, Below.refl _ _, rfl, .inl rfl⟩
   | 8, _ =>
    have e43 : (fr DL1 A t).eval (.tmp 43) = .bool false := (fr_eval _ _ _ 43 rfl (by rw [asz]; decide)).trans (hp 3 (pre_mem (by kernel_rfl)))
    have e47 : (fr DL1 A t).eval (.tmp 47) = .bool false := (fr_eval _ _ _ 47 rfl (by rw [asz]; decide)).trans (hp 7 (pre_mem (by kernel_rfl)))
    refine op_run (v := .bool false) (w' := wx) rfl rfl ?_ ?_
    ·
     clear hp hd; have ec : ∀ v, (fr DL1 A t).eval (.const v) = v := fun _ => rfl; generalize (fr DL1 A t).eval = ev at ec e43 e47 ⊢; go_simp
    ·
     exact ⟨_, 0, rfl, hB, Below.refl _ _, rfl, .inl rfl⟩
   | 9, _ =>
    have e48 : (fr DL1 A t).eval (.tmp 48) = .bool false := (fr_eval _ _ _ 48 rfl (by rw [asz]; decide)).trans (hp 8 (pre_mem (by kernel_rfl)))
    refine op_run (v := .bool false) (w' := wx) rfl rfl ?_ ?_
    ·
     clear hp hd; have ec : ∀ v, (fr DL1 A t).eval (.const v) = v := fun _ => rfl; generalize (fr DL1 A t).eval = ev at ec e48 ⊢; go_simp
    ·
     exact ⟨_, 0, rfl, hB, Below.refl _ _, rfl, .inl rfl⟩
   | 10, _ =>
    have e10 : (fr DL1 A t).eval (.tmp 10) = .slice Q.a Q.n Q.c := (fr_eval_old _ _ _ 10 rfl).trans a10'
    have e49 : (fr DL1 A t).eval (.tmp 49) = .bool false := (fr_eval _ _ _ 49 rfl (by rw [asz]; decide)).trans (hp 9 (pre_mem (by kernel_rfl)))
    refine op_run_g (v := .slice Q.a Q.n Q.c) (w' := wx) rfl (wanted_true rfl rfl e49) ?_ ?_
    ·
     clear hp hd; have ec : ∀ v, (fr DL1 A t).eval (.const v) = v := fun _ => rfl; generalize (fr DL1 A t).eval = ev at ec e10 e49 ⊢; go_simp
    ·
     exact ⟨_, 0, rfl, hB, Below.refl _ _, rfl, .inl rfl⟩
   | 11, _ =>
    have e11 : (fr DL1 A t).eval (.tmp 11) = .pointer (some ⟨gk, 0, none⟩) := (fr_eval_old _ _ _ 11 rfl).trans a11'
    have e49 : (fr DL1 A t).eval (.tmp 49) = .bool false := (fr_eval _ _ _ 49 rfl (by rw [asz]; decide)).trans (hp 9 (pre_mem (by kernel_rfl)))
    obtain ⟨hc0, hc1, hc2, hc3, hc4, hc5, hc6, hc7, hc8, hc9, hc10⟩ := cells11 (hKK wx hB)
    refine op_run_g (v := .agg #[.int .i64 K.kind, .int .i64 K.id, .slice SK.cn.a SK.cn.n SK.cn.c, .slice SK.sn.a SK.sn.n SK.sn.c, .int .i64 K.tick, .slice SK.cookie.a SK.cookie.n SK.cookie.c, .slice SK.proof.a SK.proof.n SK.proof.c, .int .i64 K.epoch, .int .i64 K.seq, .slice SK.body.a SK.body.n SK.body.c, .slice SK.tag.a SK.tag.n SK.tag.c]) (w' := wx) rfl (wanted_true rfl rfl e49) ?_ ?_
    ·
     clear hp hd; have ec : ∀ v, (fr DL1 A t).eval (.const v) = v := fun _ => rfl; generalize (fr DL1 A t).eval = ev at ec e11 e49 ⊢; go_simp
    ·
     exact ⟨_, 0, rfl, hB, Below.refl _ _, rfl, .inl rfl⟩
   | 12, _ =>
    have e50 : (fr DL1 A t).eval (.tmp 50) = .slice Q.a Q.n Q.c := (fr_eval _ _ _ 50 rfl (by rw [asz]; decide)).trans (hp 10 (pre_mem (by kernel_rfl)))
    have e51 : (fr DL1 A t).eval (.tmp 51) = .agg #[.int .i64 K.kind, .int .i64 K.id, .slice SK.cn.a SK.cn.n SK.cn.c, .slice SK.sn.a SK.sn.n SK.sn.c, .int .i64 K.tick, .slice SK.cookie.a SK.cookie.n SK.cookie.c, .slice SK.proof.a SK.proof.n SK.proof.c, .int .i64 K.epoch, .int .i64 K.seq, .slice SK.body.a SK.body.n SK.body.c, .slice SK.tag.a SK.tag.n SK.tag.c] := (fr_eval _ _ _ 51 rfl (by rw [asz]; decide)).trans (hp 11 (pre_mem (by kernel_rfl)))
    have e49 : (fr DL1 A t).eval (.tmp 49) = .bool false := (fr_eval _ _ _ 49 rfl (by rw [asz]; decide)).trans (hp 9 (pre_mem (by kernel_rfl)))
    refine op_call_g (f := 12) (args := #[.slice Q.a Q.n Q.c, .agg #[.int .i64 K.kind, .int .i64 K.id, .slice SK.cn.a SK.cn.n SK.cn.c, .slice SK.sn.a SK.sn.n SK.sn.c, .int .i64 K.tick, .slice SK.cookie.a SK.cookie.n SK.cookie.c, .slice SK.proof.a SK.proof.n SK.proof.c, .int .i64 K.epoch, .int .i64 K.seq, .slice SK.body.a SK.body.n SK.body.c, .slice SK.tag.a SK.tag.n SK.tag.c]]) rfl (wanted_true rfl rfl e49) ?_ (pokI Q lq SK K pb wx (hTT wx hB) (hOQ wx hB) (hOK wx hB) HPB.out) ?_
    ·
     have ef : (fr DL1 A t).eval (.func 12) = .func (.func 12) #[] #[] := rfl; clear hp hd; have ec : ∀ v, (fr DL1 A t).eval (.const v) = v := fun _ => rfl; generalize (fr DL1 A t).eval = ev at ec e50 e51 e49 ef ⊢; go_simp
    ·
     rintro e wy ⟨rfl, b1⟩
     exact ⟨_, rfl, _, 0, rfl, hB.trans (b1.mono hB.size), b1, rfl, .inl rfl⟩
   | 13, _ =>
    have e10 : (fr DL1 A t).eval (.tmp 10) = .slice Q.a Q.n Q.c := (fr_eval_old _ _ _ 10 rfl).trans a10'
    have e49 : (fr DL1 A t).eval (.tmp 49) = .bool false := (fr_eval _ _ _ 49 rfl (by rw [asz]; decide)).trans (hp 9 (pre_mem (by kernel_rfl)))
    refine op_run_g (v := .slice Q.a Q.n Q.c) (w' := wx) rfl (wanted_true rfl rfl e49) ?_ ?_
    ·
     clear hp hd; have ec : ∀ v, (fr DL1 A t).eval (.const v) = v := fun _ => rfl; generalize (fr DL1 A t).eval = ev at ec e10 e49 ⊢; go_simp
    ·
     exact ⟨_, 0, rfl, hB, Below.refl _ _, rfl, .inl rfl⟩
   | 14, _ =>
    have e11 : (fr DL1 A t).eval (.tmp 11) = .pointer (some ⟨gk, 0, none⟩) := (fr_eval_old _ _ _ 11 rfl).trans a11'
    have e49 : (fr DL1 A t).eval (.tmp 49) = .bool false := (fr_eval _ _ _ 49 rfl (by rw [asz]; decide)).trans (hp 9 (pre_mem (by kernel_rfl)))
    obtain ⟨hc0, hc1, hc2, hc3, hc4, hc5, hc6, hc7, hc8, hc9, hc10⟩ := cells11 (hKK wx hB)
    refine op_run_g (v := .agg #[.int .i64 K.kind, .int .i64 K.id, .slice SK.cn.a SK.cn.n SK.cn.c, .slice SK.sn.a SK.sn.n SK.sn.c, .int .i64 K.tick, .slice SK.cookie.a SK.cookie.n SK.cookie.c, .slice SK.proof.a SK.proof.n SK.proof.c, .int .i64 K.epoch, .int .i64 K.seq, .slice SK.body.a SK.body.n SK.body.c, .slice SK.tag.a SK.tag.n SK.tag.c]) (w' := wx) rfl (wanted_true rfl rfl e49) ?_ ?_
    ·
     clear hp hd; have ec : ∀ v, (fr DL1 A t).eval (.const v) = v := fun _ => rfl; generalize (fr DL1 A t).eval = ev at ec e11 e49 ⊢; go_simp
    ·
     exact ⟨_, 0, rfl, hB, Below.refl _ _, rfl, .inl rfl⟩
   | 15, _ =>
    have e53 : (fr DL1 A t).eval (.tmp 53) = .slice Q.a Q.n Q.c := (fr_eval _ _ _ 53 rfl (by rw [asz]; decide)).trans (hp 13 (pre_mem (by kernel_rfl)))
    have e54 : (fr DL1 A t).eval (.tmp 54) = .agg #[.int .i64 K.kind, .int .i64 K.id, .slice SK.cn.a SK.cn.n SK.cn.c, .slice SK.sn.a SK.sn.n SK.sn.c, .int .i64 K.tick, .slice SK.cookie.a SK.cookie.n SK.cookie.c, .slice SK.proof.a SK.proof.n SK.proof.c, .int .i64 K.epoch, .int .i64 K.seq, .slice SK.body.a SK.body.n SK.body.c, .slice SK.tag.a SK.tag.n SK.tag.c] := (fr_eval _ _ _ 54 rfl (by rw [asz]; decide)).trans (hp 14 (pre_mem (by kernel_rfl)))
    have e49 : (fr DL1 A t).eval (.tmp 49) = .bool false := (fr_eval _ _ _ 49 rfl (by rw [asz]; decide)).trans (hp 9 (pre_mem (by kernel_rfl)))
    refine op_call_g (f := 13) (args := #[.slice Q.a Q.n Q.c, .agg #[.int .i64 K.kind, .int .i64 K.id, .slice SK.cn.a SK.cn.n SK.cn.c, .slice SK.sn.a SK.sn.n SK.sn.c, .int .i64 K.tick, .slice SK.cookie.a SK.cookie.n SK.cookie.c, .slice SK.proof.a SK.proof.n SK.proof.c, .int .i64 K.epoch, .int .i64 K.seq, .slice SK.body.a SK.body.n SK.body.c, .slice SK.tag.a SK.tag.n SK.tag.c]]) rfl (wanted_true rfl rfl e49) ?_ (pokS Q lq SK K pb wx (hOQ wx hB) (hOK wx hB) HPB.out) ?_
    ·
     have ef : (fr DL1 A t).eval (.func 13) = .func (.func 13) #[] #[] := rfl; clear hp hd; have ec : ∀ v, (fr DL1 A t).eval (.const v) = v := fun _ => rfl; generalize (fr DL1 A t).eval = ev at ec e53 e54 e49 ef ⊢; go_simp
    ·
     rintro e wy ⟨rfl, b1⟩
     exact ⟨_, rfl, _, 0, rfl, hB.trans (b1.mono hB.size), b1, rfl, .inl rfl⟩
   | 16, _ =>
    have hv12 := hp 12 (pre_mem (by kernel_rfl))
    have e52 : (fr DL1 A t).eval (.tmp 52) = .bool pb := (fr_eval _ _ _ 52 rfl (by rw [asz]; decide)).trans hv12
    have hv15 := hp 15 (pre_mem (by kernel_rfl))
    have e55 : (fr DL1 A t).eval (.tmp 55) = .bool pb := (fr_eval _ _ _ 55 rfl (by rw [asz]; decide)).trans hv15
    have e49 : (fr DL1 A t).eval (.tmp 49) = .bool false := (fr_eval _ _ _ 49 rfl (by rw [asz]; decide)).trans (hp 9 (pre_mem (by kernel_rfl)))
    have hh := hpp
    refine op_run_g (v := .bool false) (w' := wx) rfl (wanted_true rfl rfl e49) ?_ ?_
    ·
     clear hp hd; have ec : ∀ v, (fr DL1 A t).eval (.const v) = v := fun _ => rfl; generalize (fr DL1 A t).eval = ev at ec e52 e55 e49 ⊢; go_simp
    ·
     exact ⟨_, 0, rfl, hB, Below.refl _ _, rfl, .inl rfl⟩
   | n + 17, hi => exact absurd hi (by omega)
  ·
   intro t ρ wx hB hF hne
   have e49 : (fr DL1 A t).eval (.tmp 49) = .bool false := (fr_eval _ _ _ 49 rfl (by rw [asz]; decide)).trans (hF 9 (by decide))
   have e56 : (fr DL1 A t).eval (.tmp 56) = .bool false := (fr_eval _ _ _ 56 rfl (by rw [asz]; decide)).trans (hF 16 (by decide))
   clear hne
   refine op_wp rfl rfl ?_
   generalize hE : (fr DL1 A t).eval = ev at e49 e56
   unfold Oper.wp
   rw [hE]
   go_simp
   refine hMet _ _ (Met.intro (hRJ _ _ ⟨t 40, t 41, t 42, t 43, t 44, t 45, t 46, t 47, t 48, t 49, t 50, t 51, t 52, t 53, t 54, t 55, t 56, _, ⟨rfl, hB⟩, ?_⟩))
   rw [← hA]; rfl
 case rest =>
  obtain ⟨x9, hxc⟩ : ∃ zz, zz = wc := ⟨_, rfl⟩
  subst hxc
  obtain ⟨rfl, b⟩ := hcut
  clear hvv hpp
  clear KH8 OH8 KK8 OK8 OQ8
  have L9 := hid (b.size)
  have B9 := hid (B8.out.trans (b.mono B8.out.size))
  have OP9 := hid (OP8.out.later b)
  have OF9 := hid (OF8.out.later b)
  have KF9 := hid (KF8.out.later b)
  have OG9 := hid (OG8.out.later b)
  have KG9 := hid (KG8.out.later b)
  clear b B8 OP8 OF8 KF8 OG8 KG8
  cases vv with
  | false =>
   obtain rfl : G = zeroF := by rw [← HG.out]; exact finD_no HV.out
   obtain ⟨d0, d1, d2, d3, d4, d5, d6, d7, d8, d9, d10⟩ := cells11 KG9.out
   go_wp2_with fail
   refine (pokI P lp S2 zeroF false x9 (HT.out.later B9.out) OP9.out OG9.out (zero_no lp)).mono ?_
   rintro e x10 ⟨rfl, b⟩
   have L10 := hid (b.size)
   have B10 := hid (B9.out.trans (b.mono B9.out.size))
   have OP10 := hid (OP9.out.later b)
   have OF10 := hid (OF9.out.later b)
   have KF10 := hid (KF9.out.later b)
   have OG10 := hid (OG9.out.later b)
   have KG10 := hid (KG9.out.later b)
   clear b B9 OP9 OF9 KF9 OG9 KG9
   clear d0 d1 d2 d3 d4 d5 d6 d7 d8 d9 d10
   go_wp2
   go_ret
   exact ⟨rfl, B10.out⟩
  | true =>
   have HLN : Hid (G.proof.length = 16) := by show _ = _; rw [← HG.out, fin_proof HV.out]; exact fin_len HV.out
   have HOK : Hid (frameOk G = true) := by show _ = _; rw [← HG.out]; exact fin_self HV.out
   have HPR : Hid (G.kind = 3 ∧ G.id = id ∧ G.cn = F.cn ∧ G.sn = F.sn ∧ G.cookie = F.cookie ∧ G.tick = F.tick) := by show _ ∧ _; rw [← HG.out]; exact fin_kind HV.out
   have HPO : Hid (pOk lp G = true) := by show _ = _; rw [← HG.out, fin_right HV.out, HG.out, UnsS.same_dec OG9.out.proof.bytes OG9.out.proof.bytes HLN.out, decide_eq_true rfl]
   have HTN : Hid (∀ y : List Int, Bytes y → y.length = 16 → y ≠ G.proof → pOk lp { G with proof := y } = false) := by intro y h0 h1 h2; rw [← HG.out, fin_turn HV.out y h1, HG.out, UnsS.same_dec h0 OG9.out.proof.bytes h1, decide_eq_false h2]
   have SOP := hid (OP9.out)
   have SOF := hid (OF9.out)
   have SOG := hid (OG9.out)
   have SKF := hid (KF9.out)
   have SKG := hid (KG9.out)
   have BE9 : Hid (Below x9.heap.size x9 x9) := Below.refl _ _
   obtain ⟨d0, d1, d2, d3, d4, d5, d6, d7, d8, d9, d10⟩ := cells11 KG9.out
   go_upto_region 11 with fail
   obtain ⟨x10, hx10⟩ : ∃ x10, x9.alloc (.cells #[.int .i64 G.kind, .int .i64 G.id, .slice S2.cn.a S2.cn.n S2.cn.c, .slice S2.sn.a S2.sn.n S2.sn.c, .int .i64 G.tick, .slice S2.cookie.a S2.cookie.n S2.cookie.c, .slice S2.proof.a S2.proof.n S2.proof.c, .int .i64 G.epoch, .int .i64 G.seq, .slice S2.body.a S2.body.n S2.body.c, .slice S2.tag.a S2.tag.n S2.tag.c] 25) = x10 := ⟨_, rfl⟩
   have HW10 := hid (hx10)
   have b10 : Below x9.heap.size x9 x10 := by rw [← hx10]; exact (Below.refl _ _).alloc (Nat.le_refl _) _
   have KN : Blk x10 x9.heap.size 25 [.int .i64 G.kind, .int .i64 G.id, .slice S2.cn.a S2.cn.n S2.cn.c, .slice S2.sn.a S2.sn.n S2.sn.c, .int .i64 G.tick, .slice S2.cookie.a S2.cookie.n S2.cookie.c, .slice S2.proof.a S2.proof.n S2.proof.c, .int .i64 G.epoch, .int .i64 G.seq, .slice S2.body.a S2.body.n S2.body.c, .slice S2.tag.a S2.tag.n S2.tag.c] := by rw [← hx10]; exact Blk.new x9 _ _
   have HSZ10 : Hid (x10.heap.size = x9.heap.size + 1) := by rw [← hx10]; show _ = _; simp
   clear hx10
   have L10 := hid (b10.size)
   have B10 := hid (B9.out.trans (b10.mono B9.out.size))
   have OP10 := hid (OP9.out.later b10)
   have OF10 := hid (OF9.out.later b10)
   have KF10 := hid (KF9.out.later b10)
   have OG10 := hid (OG9.out.later b10)
   have KG10 := hid (KG9.out.later b10)
   have BE10 := hid (BE9.out.trans (b10.mono BE9.out.size))
   clear b10 B9 OP9 OF9 KF9 OG9 KG9 BE9
   go_upto_region 12 with fail
   rw [HW10.out]
   obtain ⟨g2, hg2⟩ : ∃ g, x9.heap.size = g := ⟨_, rfl⟩
   have Gg2 : Hid (x9.heap.size = g2 ∧ x10.heap.size = g2 + 1) := ⟨hg2, by rw [← hg2]; exact HSZ10.out⟩
   rw [hg2] at KN ⊢
   clear HW10 HSZ10 hg2
   have K210 := hid (KN)
   clear KN
   clear d0 d1 d2 d3 d4 d5 d6 d7 d8 d9 d10
   have d6 := KG10.out.cell 6 rfl
   go_wp2_with fail
   refine (bent a len cap l S2.proof.a S2.proof.n S2.proof.c G.proof x10 HL.out (HR.out.later B10.out (Nat.le_refl _)) HB.out hlen OG10.out.proof.len OG10.out.proof.rd OG10.out.proof.nil OG10.out.proof.bytes (by have := OG10.out.proof.len; have := HLN.out; omega)).mono ?_
   rintro e x11 ⟨gy, cy, y, rfl, ey, hy, ney, ky, rw, b⟩
   clear d6
   have oy : SRd x11 ⟨some ⟨gy, 0, none⟩, S2.proof.n, cy⟩ y := (SOwn.row (lo := 0) (hi := x11.heap.size) rw ey hy (Nat.zero_le _) rw.lt).rd
   have HYB := hid (hy)
   have HYL : Hid (y.length = 16 ∧ y ≠ G.proof ∧ S2.proof.n = 16 ∧ x10.heap.size ≤ gy) := by have q := OG10.out.proof.len; have := HLN.out; exact ⟨by omega, ney (by omega), by omega, ky⟩
   clear ey hy ney ky
   have L11 := hid (b.size)
   have B11 := hid (B10.out.trans (b.mono B10.out.size))
   have OP11 := hid (OP10.out.later b)
   have OF11 := hid (OF10.out.later b)
   have KF11 := hid (KF10.out.later b)
   have OG11 := hid (OG10.out.later b)
   have KG11 := hid (KG10.out.later b)
   have BE11 := hid (BE10.out.trans (b.mono BE10.out.size))
   have K211 := hid (K210.out.later b)
   clear b B10 OP10 OF10 KF10 OG10 KG10 BE10 K210
   have OY11 := hid (oy)
   have RY := hid (rw)
   clear oy rw
   have z6 := K211.out.cell 6 rfl
   have y6 := K211.out.frozen 6
   obtain ⟨x12, hx12⟩ : ∃ zz, x11.setCell ⟨g2, 6, none⟩ (.slice (some ⟨gy, 0, none⟩) S2.proof.n cy) = zz := ⟨_, rfl⟩
   have HW12 := hid (hx12)
   have KS : Blk x12 g2 25 [.int .i64 G.kind, .int .i64 G.id, .slice S2.cn.a S2.cn.n S2.cn.c, .slice S2.sn.a S2.sn.n S2.sn.c, .int .i64 G.tick, .slice S2.cookie.a S2.cookie.n S2.cookie.c, .slice (some ⟨gy, 0, none⟩) S2.proof.n cy, .int .i64 G.epoch, .int .i64 G.seq, .slice S2.body.a S2.body.n S2.body.c, .slice S2.tag.a S2.tag.n S2.tag.c] := by rw [← hx12]; exact K211.out.set 6 _ (by simp [maxLen])
   have LS : Hid (x12.heap.size = x11.heap.size) := by rw [← hx12]; show _ = _; simp
   have B12 : Hid (Below w.heap.size w x12) := by rw [← hx12]; exact B11.out.setCell (by show _ ≤ g2; have := hid8 L1 L2 Ggf L3 L4 Ggg L5 L6; have := hid8 Ggh L7 L8 Ggk L9 L10 Gg2 L11; omega) _
   have BE12 : Hid (Below x9.heap.size x9 x12) := by rw [← hx12]; exact BE11.out.setCell (by show _ ≤ g2; have := hid8 L1 L2 Ggf L3 L4 Ggg L5 L6; have := hid8 Ggh L7 L8 Ggk L9 L10 Gg2 L11; omega) _
   have RY12 : Row x12 gy cy y := by rw [← hx12]; exact RY.out.keep (Below.heap_setCell _ _ _ _ (by show gy ≠ g2; have := hid8 HYL L1 L2 Ggf L3 L4 Ggg L5; have := hid8 L6 Ggh L7 L8 Ggk L9 L10 Gg2; have := L11.out; omega))
   have oy : SRd x12 ⟨some ⟨gy, 0, none⟩, S2.proof.n, cy⟩ y := (SOwn.row (lo := 0) (hi := x12.heap.size) RY12 OY11.out.len OY11.out.bytes (Nat.zero_le _) RY12.lt).rd
   clear hx12 RY RY12
   clear B11 OP11 OF11 KF11 OG11 KG11 BE11 K211 OY11
   have OP12 := hid (SOP.out.later BE12.out)
   have OF12 := hid (SOF.out.later BE12.out)
   have OG12 := hid (SOG.out.later BE12.out)
   have KF12 := hid (SKF.out.later BE12.out)
   have KG12 := hid (SKG.out.later BE12.out)
   have OG212 : Hid (FrRd x12 ({ S2 with proof := ⟨some ⟨gy, 0, none⟩, S2.proof.n, cy⟩ } : FrS) ({ G with proof := y } : FrD)) := ⟨OG12.out.cn, OG12.out.sn, OG12.out.cookie, oy, OG12.out.body, OG12.out.tag⟩
   have K212 := hid (KS)
   clear KS oy
   clear BE12
   go_upto_region 13 with fail
   rw [HW12.out]
   clear HW12 z6 y6
   have he1 : (G.kind == 3) = true := by simpa using HPR.out.1
   have he2 : (G.id == id) = true := by simpa using HPR.out.2.1
   have he3 : (G.tick == F.tick) = true := by simpa using HPR.out.2.2.2.2.2
   obtain ⟨d0, d1, d2, d3, d4, d5, d6, d7, d8, d9, d10⟩ := cells11 KG12.out
   obtain ⟨e0, e1, e2, e3, e4, e5, e6, e7, e8, e9, e10⟩ := cells11 KF12.out
   obtain ⟨f0, f1, f2, f3, f4, f5, f6, f7, f8, f9, f10⟩ := cells11 K212.out
   go_wp2_with fail
   refine (okV S2 G true x12 OG12.out HOK.out).mono ?_
   rintro e x13 ⟨rfl, b⟩
   have L13 := hid (b.size)
   have B13 := hid (B12.out.trans (b.mono B12.out.size))
   have OP13 := hid (OP12.out.later b)
   have OF13 := hid (OF12.out.later b)
   have OG13 := hid (OG12.out.later b)
   have KF13 := hid (KF12.out.later b)
   have KG13 := hid (KG12.out.later b)
   have OG213 := hid (OG212.out.later b)
   have K213 := hid (K212.out.later b)
   clear b B12 OP12 OF12 OG12 KF12 KG12 OG212 K212
   clear d0 d1 d2 d3 d4 d5 d6 d7 d8 d9 d10
   clear e0 e1 e2 e3 e4 e5 e6 e7 e8 e9 e10
   clear f0 f1 f2 f3 f4 f5 f6 f7 f8 f9 f10
   obtain ⟨d0, d1, d2, d3, d4, d5, d6, d7, d8, d9, d10⟩ := cells11 KG13.out
   obtain ⟨e0, e1, e2, e3, e4, e5, e6, e7, e8, e9, e10⟩ := cells11 KF13.out
   obtain ⟨f0, f1, f2, f3, f4, f5, f6, f7, f8, f9, f10⟩ := cells11 K213.out
   go_wp2_with fail
   refine (sameN S2.cn SF.cn G.cn F.cn x13 OG13.out.cn OF13.out.cn HPR.out.2.2.1).mono ?_
   rintro e x14 ⟨rfl, b⟩
   have L14 := hid (b.size)
   have B14 := hid (B13.out.trans (b.mono B13.out.size))
   have OP14 := hid (OP13.out.later b)
   have OF14 := hid (OF13.out.later b)
   have OG14 := hid (OG13.out.later b)
   have KF14 := hid (KF13.out.later b)
   have KG14 := hid (KG13.out.later b)
   have OG214 := hid (OG213.out.later b)
   have K214 := hid (K213.out.later b)
   clear b B13 OP13 OF13 OG13 KF13 KG13 OG213 K213
   clear d0 d1 d2 d3 d4 d5 d6 d7 d8 d9 d10
   clear e0 e1 e2 e3 e4 e5 e6 e7 e8 e9 e10
   clear f0 f1 f2 f3 f4 f5 f6 f7 f8 f9 f10
   obtain ⟨d0, d1, d2, d3, d4, d5, d6, d7, d8, d9, d10⟩ := cells11 KG14.out
   obtain ⟨e0, e1, e2, e3, e4, e5, e6, e7, e8, e9, e10⟩ := cells11 KF14.out
   obtain ⟨f0, f1, f2, f3, f4, f5, f6, f7, f8, f9, f10⟩ := cells11 K214.out
   go_wp2_with fail
   refine (sameN S2.sn SF.sn G.sn F.sn x14 OG14.out.sn OF14.out.sn HPR.out.2.2.2.1).mono ?_
   rintro e x15 ⟨rfl, b⟩
   have L15 := hid (b.size)
   have B15 := hid (B14.out.trans (b.mono B14.out.size))
   have OP15 := hid (OP14.out.later b)
   have OF15 := hid (OF14.out.later b)
   have OG15 := hid (OG14.out.later b)
   have KF15 := hid (KF14.out.later b)
   have KG15 := hid (KG14.out.later b)
   have OG215 := hid (OG214.out.later b)
   have K215 := hid (K214.out.later b)
   clear b B14 OP14 OF14 OG14 KF14 KG14 OG214 K214
   clear d0 d1 d2 d3 d4 d5 d6 d7 d8 d9 d10
   clear e0 e1 e2 e3 e4 e5 e6 e7 e8 e9 e10
   clear f0 f1 f2 f3 f4 f5 f6 f7 f8 f9 f10
   obtain ⟨d0, d1, d2, d3, d4, d5, d6, d7, d8, d9, d10⟩ := cells11 KG15.out
   obtain ⟨e0, e1, e2, e3, e4, e5, e6, e7, e8, e9, e10⟩ := cells11 KF15.out
   obtain ⟨f0, f1, f2, f3, f4, f5, f6, f7, f8, f9, f10⟩ := cells11 K215.out
   go_wp2_with fail
   refine (sameN S2.cookie SF.cookie G.cookie F.cookie x15 OG15.out.cookie OF15.out.cookie HPR.out.2.2.2.2.1).mono ?_
   rintro e x16 ⟨rfl, b⟩
   have L16 := hid (b.size)
   have B16 := hid (B15.out.trans (b.mono B15.out.size))
   have OP16 := hid (OP15.out.later b)
   have OF16 := hid (OF15.out.later b)
   have OG16 := hid (OG15.out.later b)
   have KF16 := hid (KF15.out.later b)
   have KG16 := hid (KG15.out.later b)
   have OG216 := hid (OG215.out.later b)
   have K216 := hid (K215.out.later b)
   clear b B15 OP15 OF15 OG15 KF15 KG15 OG215 K215
   clear d0 d1 d2 d3 d4 d5 d6 d7 d8 d9 d10
   clear e0 e1 e2 e3 e4 e5 e6 e7 e8 e9 e10
   clear f0 f1 f2 f3 f4 f5 f6 f7 f8 f9 f10
   obtain ⟨d0, d1, d2, d3, d4, d5, d6, d7, d8, d9, d10⟩ := cells11 KG16.out
   obtain ⟨e0, e1, e2, e3, e4, e5, e6, e7, e8, e9, e10⟩ := cells11 KF16.out
   obtain ⟨f0, f1, f2, f3, f4, f5, f6, f7, f8, f9, f10⟩ := cells11 K216.out
   go_wp2_with fail
   refine (pokI P lp S2 G true x16 (HT.out.later B16.out) OP16.out OG16.out HPO.out).mono ?_
   rintro e x17 ⟨rfl, b⟩
   have L17 := hid (b.size)
   have B17 := hid (B16.out.trans (b.mono B16.out.size))
   have OP17 := hid (OP16.out.later b)
   have OF17 := hid (OF16.out.later b)
   have OG17 := hid (OG16.out.later b)
   have KF17 := hid (KF16.out.later b)
   have KG17 := hid (KG16.out.later b)
   have OG217 := hid (OG216.out.later b)
   have K217 := hid (K216.out.later b)
   clear b B16 OP16 OF16 OG16 KF16 KG16 OG216 K216
   clear d0 d1 d2 d3 d4 d5 d6 d7 d8 d9 d10
   clear e0 e1 e2 e3 e4 e5 e6 e7 e8 e9 e10
   clear f0 f1 f2 f3 f4 f5 f6 f7 f8 f9 f10
   obtain ⟨d0, d1, d2, d3, d4, d5, d6, d7, d8, d9, d10⟩ := cells11 KG17.out
   obtain ⟨e0, e1, e2, e3, e4, e5, e6, e7, e8, e9, e10⟩ := cells11 KF17.out
   obtain ⟨f0, f1, f2, f3, f4, f5, f6, f7, f8, f9, f10⟩ := cells11 K217.out
   go_wp2_with fail
   refine (pokI P lp ({ S2 with proof := ⟨some ⟨gy, 0, none⟩, S2.proof.n, cy⟩ } : FrS) ({ G with proof := y } : FrD) false x17 (HT.out.later B17.out) OP17.out OG217.out (HTN.out y HYB.out HYL.out.1 HYL.out.2.1)).mono ?_
   rintro e x18 ⟨rfl, b⟩
   have L18 := hid (b.size)
   have B18 := hid (B17.out.trans (b.mono B17.out.size))
   have OP18 := hid (OP17.out.later b)
   have OF18 := hid (OF17.out.later b)
   have OG18 := hid (OG17.out.later b)
   have KF18 := hid (KF17.out.later b)
   have KG18 := hid (KG17.out.later b)
   have OG218 := hid (OG217.out.later b)
   have K218 := hid (K217.out.later b)
   clear b B17 OP17 OF17 OG17 KF17 KG17 OG217 K217
   clear d0 d1 d2 d3 d4 d5 d6 d7 d8 d9 d10
   clear e0 e1 e2 e3 e4 e5 e6 e7 e8 e9 e10
   clear f0 f1 f2 f3 f4 f5 f6 f7 f8 f9 f10
   go_wp2
   go_ret
   exact ⟨rfl, B18.out⟩

theorem walk (a : Option Addr) (len cap : Nat) (zs : List Int) (w : World) (hT : Tab w) (h : IsRow .u8 w a len cap zs) :
  Calls Tryz.prog 3 #[.slice a len cap] w fun e w' => e = .returned (.bool true) ∧ Below w.heap.size w w' := by
 obtain ⟨l, h1, h2, _, h4⟩ := h.read
 by_cases hl : len ≤ 1048576
 ·
  exact small a len cap l w hT h1 h2 h4 hl
 ·
  clear h h1 h2 h4
  go_enter Tryz.func3, Tryz.ntmps3
  go_wp2_with fail
  refine (bigYes a len cap w (by omega)).mono ?_
  rintro e w0 ⟨rfl, rfl⟩
  go_wp2
  go_ret
  exact ⟨rfl, Below.refl _ _⟩
end Go.Proofs.YtpenhliaelhnoaaGreatDoor.LawProofs

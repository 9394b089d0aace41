/-
  What impl's EpOpen answers.
-/
import Derived.Test.YtmcflfpckpjphaaGreatDoorVdEpO
set_option maxRecDepth 100000
namespace Go.Proofs.YtmcflfpckpjphaaGreatDoor.EpU
open Go.RowKit Mem App Blk Words Zone ZoneI Res Comp WnZ WinP WnK WnG FrZ FrL FrP FrG FrQ FrQ2 SlP SlQ Shp EpZ EpL EpP EpQ Each Copy Ops Guard SlI EpI EpJ EpO
theorem hide {p : Prop} (h : p) : Hid p := h
theorem neE (v : Value) (w : World) : (binOp .neq 97 (.iface 145 v) .nilIface).run Tryz.prog w = .ok (.bool true) w := by kernel_rfl
set_option maxHeartbeats 8000000 in
theorem implEpOpen (S : EpS) (D : EpD) (SF : FrS) (DF : FrD) (role : Int) (w : World) (hT : Tab w) (hE : ErrAt w) (h : EpRd w S D) (hl : EpShort D 4194304) (hf : FrRd w SF DF) :
  Calls Tryz.prog 27 #[epV D S, .int .i64 role, frV DF SF] w (AnsP (eoE D role DF) (eoL D role DF) (eoCode D role DF) w) := by
 have HR := hid (h)
 have HL := hid (hl)
 have HF := hid (hf)
 have HT := hid (hT)
 have HER := hid (hE)
 clear h hl hf hT hE
 obtain ⟨c, hc⟩ : ∃ c, eoCode D role DF = c := ⟨_, rfl⟩
 have HC : Hid (eoCode D role DF = c) := hc
 obtain ⟨R, hR⟩ : ∃ R, eoL D role DF = R := ⟨_, rfl⟩
 have HRR : Hid (eoL D role DF = R) := hR
 obtain ⟨Q, hQ⟩ : ∃ Q, eoE D role DF = Q := ⟨_, rfl⟩
 have HRE : Hid (eoE D role DF = Q) := hQ
 rw [hc, hR, hQ]
 clear hc hR hQ
 obtain ⟨x1, hx1⟩ : ∃ x1, ((w.alloc (.cells #[.int .i64 D.n, .slice S.key.a S.key.n S.key.c, .int .i64 D.seq, .int .i64 D.win.top, .slice S.win.bits.a S.win.bits.n S.win.bits.c] 41)).alloc (.cells #[.int .i64 DF.kind, .int .i64 DF.id, .slice SF.cn.a SF.cn.n SF.cn.c, .slice SF.sn.a SF.sn.n SF.sn.c, .int .i64 DF.tick, .slice SF.cookie.a SF.cookie.n SF.cookie.c, .slice SF.proof.a SF.proof.n SF.proof.c, .int .i64 DF.epoch, .int .i64 DF.seq, .slice SF.body.a SF.body.n SF.body.c, .slice SF.tag.a SF.tag.n SF.tag.c] 27)).alloc (.cells #[.int .i64 0, .slice none 0 0, .int .i64 0, .int .i64 0, .slice none 0 0] 41) = x1 := ⟨_, rfl⟩
 have HW0 := hid (hx1)
 have b1 : Below w.heap.size w x1 := by rw [← hx1]; exact (((Below.refl _ _).alloc (Nat.le_refl _) _).alloc (by simp) _).alloc (by simp; omega) _
 have KNa : Blk x1 w.heap.size 41 [.int .i64 D.n, .slice S.key.a S.key.n S.key.c, .int .i64 D.seq, .int .i64 D.win.top, .slice S.win.bits.a S.win.bits.n S.win.bits.c] := by rw [← hx1]; exact ((Blk.new w _ _).alloc _).alloc _
 have KNf : Blk x1 (w.heap.size + 1) 27 [.int .i64 DF.kind, .int .i64 DF.id, .slice SF.cn.a SF.cn.n SF.cn.c, .slice SF.sn.a SF.sn.n SF.sn.c, .int .i64 DF.tick, .slice SF.cookie.a SF.cookie.n SF.cookie.c, .slice SF.proof.a SF.proof.n SF.proof.c, .int .i64 DF.epoch, .int .i64 DF.seq, .slice SF.body.a SF.body.n SF.body.c, .slice SF.tag.a SF.tag.n SF.tag.c] := by
  have q := Blk.new (w.alloc (.cells #[.int .i64 D.n, .slice S.key.a S.key.n S.key.c, .int .i64 D.seq, .int .i64 D.win.top, .slice S.win.bits.a S.win.bits.n S.win.bits.c] 41)) 27 [.int .i64 DF.kind, .int .i64 DF.id, .slice SF.cn.a SF.cn.n SF.cn.c, .slice SF.sn.a SF.sn.n SF.sn.c, .int .i64 DF.tick, .slice SF.cookie.a SF.cookie.n SF.cookie.c, .slice SF.proof.a SF.proof.n SF.proof.c, .int .i64 DF.epoch, .int .i64 DF.seq, .slice SF.body.a SF.body.n SF.body.c, .slice SF.tag.a SF.tag.n SF.tag.c]
  rw [World.size_alloc] at q
  rw [← hx1]; exact q.alloc _
 have KNo : Blk x1 (w.heap.size + 1 + 1) 41 [.int .i64 0, .slice none 0 0, .int .i64 0, .int .i64 0, .slice none 0 0] := by
  have q := Blk.new ((w.alloc (.cells #[.int .i64 D.n, .slice S.key.a S.key.n S.key.c, .int .i64 D.seq, .int .i64 D.win.top, .slice S.win.bits.a S.win.bits.n S.win.bits.c] 41)).alloc (.cells #[.int .i64 DF.kind, .int .i64 DF.id, .slice SF.cn.a SF.cn.n SF.cn.c, .slice SF.sn.a SF.sn.n SF.sn.c, .int .i64 DF.tick, .slice SF.cookie.a SF.cookie.n SF.cookie.c, .slice SF.proof.a SF.proof.n SF.proof.c, .int .i64 DF.epoch, .int .i64 DF.seq, .slice SF.body.a SF.body.n SF.body.c, .slice SF.tag.a SF.tag.n SF.tag.c] 27)) 41 [.int .i64 0, .slice none 0 0, .int .i64 0, .int .i64 0, .slice none 0 0]
  rw [World.size_alloc, World.size_alloc] at q
  rw [← hx1]; exact q
 have SZ1 : x1.heap.size = w.heap.size + 3 := by rw [← hx1]; simp
 clear hx1
 have L1 := hid (b1.size)
 have B1 := hid (b1)
 clear b1
 unfold epV frV
 go_enter Tryz.func27, Tryz.ntmps27
 go_upto_region 1 with fail
 rw [HW0.out]
 obtain ⟨ga, hga⟩ : ∃ g, w.heap.size = g := ⟨_, rfl⟩
 obtain ⟨gf, hgf⟩ : ∃ g, w.heap.size + 1 = g := ⟨_, rfl⟩
 obtain ⟨go, hgo⟩ : ∃ g, w.heap.size + 1 + 1 = g := ⟨_, rfl⟩
 have Gga : Hid (w.heap.size = ga ∧ ga + 1 = gf ∧ gf + 1 = go ∧ x1.heap.size = ga + 3) := ⟨hga, by omega, by omega, by omega⟩
 rw [hga] at KNa
 rw [hgf] at KNf
 rw [hgo] at KNo
 rw [hgo, hgf, hga]
 clear HW0 SZ1 hga hgf hgo
 have KA1 := hid (KNa)
 have KF1 := hid (KNf)
 have KO1 := hid (KNo)
 clear KNa KNf KNo
 obtain ⟨d0, d1, d2, d3, d4⟩ := cells5 KA1.out
 go_wp2_with fail
 refine (EpI.implCopyEp S D x1 (HR.out.later B1.out) HL.out).mono ?_
 unfold AnsE
 rintro e x2 ⟨S2, rfl, o, b⟩
 clear d0 d1 d2 d3 d4
 have L2 := hid (b.size)
 have B2 := hid (B1.out.trans (b.mono B1.out.size))
 have KA2 := hid (KA1.out.later b)
 have KF2 := hid (KF1.out.later b)
 have KO2 := hid (KO1.out.later b)
 clear b B1 KA1 KF1 KO1
 have O22 := hid (o)
 clear o
 obtain ⟨x3, hx3⟩ : ∃ x3, x2.alloc (.cells #[.int .i64 D.n, .slice S2.key.a S2.key.n S2.key.c, .int .i64 D.seq, .int .i64 D.win.top, .slice S2.win.bits.a S2.win.bits.n S2.win.bits.c] 41) = x3 := ⟨_, rfl⟩
 have HW3 := hid (hx3)
 have b3 : Below x2.heap.size x2 x3 := by rw [← hx3]; exact (Below.refl _ _).alloc (Nat.le_refl _) _
 have KN : Blk x3 x2.heap.size 41 [.int .i64 D.n, .slice S2.key.a S2.key.n S2.key.c, .int .i64 D.seq, .int .i64 D.win.top, .slice S2.win.bits.a S2.win.bits.n S2.win.bits.c] := by rw [← hx3]; exact Blk.new x2 _ _
 have HSZ3 : Hid (x3.heap.size = x2.heap.size + 1) := by rw [← hx3]; show _ = _; simp
 clear hx3
 have L3 := hid (b3.size)
 have B3 := hid (B2.out.trans (b3.mono B2.out.size))
 have KA3 := hid (KA2.out.later b3)
 have KF3 := hid (KF2.out.later b3)
 have KO3 := hid (KO2.out.later b3)
 have O23 := hid (O22.out.later b3)
 clear b3 B2 KA2 KF2 KO2 O22
 unfold epV
 go_upto_region 2 with fail
 rw [HW3.out]
 obtain ⟨gn, hgn⟩ : ∃ g, x2.heap.size = g := ⟨_, rfl⟩
 have Ggn : Hid (x2.heap.size = gn ∧ x3.heap.size = gn + 1) := ⟨hgn, by rw [← hgn]; exact HSZ3.out⟩
 rw [hgn] at KN ⊢
 clear HW3 HSZ3 hgn
 have KN3 := hid (KN)
 clear KN
 obtain ⟨Wd, hWd⟩ : ∃ Wd, eoW D role DF = Wd := ⟨_, rfl⟩
 have HWD : Hid (eoW D role DF = Wd) := hWd
 clear hWd
 by_cases hc0 : c = 0
 case neg =>
  obtain rfl : R = [] := by rw [← HRR.out]; exact eoL_no (by rw [HC.out]; exact hc0)
  obtain rfl : D = Q := by rw [← HRE.out]; exact (eoE_no (by rw [HC.out]; exact hc0)).symm
  have nE := fun (v : Value) (w : World) => neE v w
  obtain ⟨d0, d1, d2, d3, d4⟩ := cells5 KA3.out
  obtain ⟨e0, e1, e2, e3, e4, e5, e6, e7, e8, e9, e10⟩ := cells11 KF3.out
  go_wp2_with fail
  refine (openOnce S D SF DF role x3 (HT.out.later B3.out) (HR.out.later B3.out) HL.out (HF.out.later B3.out)).mono ?_
  unfold AnsO
  rw [HC.out, HRR.out, HWD.out, errV_c hc0]
  rintro e x4 ⟨S3, S4, a3, b3, a4, b4, rfl, o3, o4, oz, b⟩
  have OZ : Hid (_ ∧ _) := oz
  clear oz
  clear d0 d1 d2 d3 d4
  clear e0 e1 e2 e3 e4 e5 e6 e7 e8 e9 e10
  have L4 := hid (b.size)
  have B4 := hid (B3.out.trans (b.mono B3.out.size))
  have KA4 := hid (KA3.out.later b)
  have KF4 := hid (KF3.out.later b)
  have KO4 := hid (KO3.out.later b)
  have O24 := hid (O23.out.later b)
  have KN4 := hid (KN3.out.later b)
  clear b B3 KA3 KF3 KO3 O23 KN3
  have O34 := hid (o3)
  have O44 := hid (o4)
  clear o3 o4
  obtain ⟨x5, hx5⟩ : ∃ x5, x4.alloc (.cells #[.int .i64 Wd.top, .slice S3.bits.a S3.bits.n S3.bits.c] 39) = x5 := ⟨_, rfl⟩
  have HW5 := hid (hx5)
  have b5 : Below x4.heap.size x4 x5 := by rw [← hx5]; exact (Below.refl _ _).alloc (Nat.le_refl _) _
  have KN : Blk x5 x4.heap.size 39 [.int .i64 Wd.top, .slice S3.bits.a S3.bits.n S3.bits.c] := by rw [← hx5]; exact Blk.new x4 _ _
  have HSZ5 : Hid (x5.heap.size = x4.heap.size + 1) := by rw [← hx5]; show _ = _; simp
  clear hx5
  have L5 := hid (b5.size)
  have B5 := hid (B4.out.trans (b5.mono B4.out.size))
  have KA5 := hid (KA4.out.later b5)
  have KF5 := hid (KF4.out.later b5)
  have KO5 := hid (KO4.out.later b5)
  have O25 := hid (O24.out.later b5)
  have KN5 := hid (KN4.out.later b5)
  have O35 := hid (O34.out.later b5)
  have O45 := hid (O44.out.later b5)
  clear b5 B4 KA4 KF4 KO4 O24 KN4 O34 O44
  unfold wnV
  go_upto_region 3 with fail
  rw [HW5.out]
  obtain ⟨gw, hgw⟩ : ∃ g, x4.heap.size = g := ⟨_, rfl⟩
  have Ggw : Hid (x4.heap.size = gw ∧ x5.heap.size = gw + 1) := ⟨hgw, by rw [← hgw]; exact HSZ5.out⟩
  rw [hgw] at KN ⊢
  clear HW5 HSZ5 hgw
  have KW5 := hid (KN)
  clear KN
  go_upto_region 4 with fail
  have NNO : gn ≠ go := by have := hid8 L1 Gga L2 L3 Ggn OZ L4 L5; have := Ggw.out; omega
  have TXA : Hid (Below x5.heap.size x5 (x5.alloc (.cells #[] 5)).drew) := ((Below.refl _ _).alloc (Nat.le_refl _) _).drew
  have TXD : Hid (Below x5.heap.size x5 x5.drew) := (Below.refl _ _).drew
  have LXA : Hid ((x5.alloc (.cells #[] 5)).drew.heap.size = x5.heap.size + 1) := by show (x5.alloc (.cells #[] 5)).heap.size = _; rw [World.size_alloc]
  have NB0 : Hid (SOwn (x5.alloc (.cells #[] 5)).drew x5.heap.size (x5.heap.size + 1) ⟨some ⟨x5.heap.size, 0, none⟩, 0, 0⟩ []) := own_new x5
  obtain ⟨ze0, ze1, ze2, ze3, ze4⟩ := cells5 KN5.out
  have xe0 := hide ((KN5.out.later TXD.out).cell 0 rfl)
  have xe1 := hide ((KN5.out.later TXD.out).cell 1 rfl)
  have xe2 := hide ((KN5.out.later TXD.out).cell 2 rfl)
  have xe3 := hide ((KN5.out.later TXD.out).cell 3 rfl)
  have xe4 := hide ((KN5.out.later TXD.out).cell 4 rfl)
  have ae0 := hide ((KN5.out.later TXA.out).cell 0 rfl)
  have ae1 := hide ((KN5.out.later TXA.out).cell 1 rfl)
  have ae2 := hide ((KN5.out.later TXA.out).cell 2 rfl)
  have ae3 := hide ((KN5.out.later TXA.out).cell 3 rfl)
  have ae4 := hide ((KN5.out.later TXA.out).cell 4 rfl)
  have be0 := hide ((KN5.out.alloc (.cells #[] 5)).cell 0 rfl)
  have be1 := hide ((KN5.out.alloc (.cells #[] 5)).cell 1 rfl)
  have be2 := hide ((KN5.out.alloc (.cells #[] 5)).cell 2 rfl)
  have be3 := hide ((KN5.out.alloc (.cells #[] 5)).cell 3 rfl)
  have be4 := hide ((KN5.out.alloc (.cells #[] 5)).cell 4 rfl)
  go_region_held3 (fun w' => w'.cell? ⟨gn, 0, none⟩ = some (.int .i64 D.n) ∧ w'.cell? ⟨gn, 1, none⟩ = some (.slice S2.key.a S2.key.n S2.key.c) ∧ w'.cell? ⟨gn, 2, none⟩ = some (.int .i64 D.seq) ∧ w'.cell? ⟨gn, 3, none⟩ = some (.int .i64 D.win.top) ∧ w'.cell? ⟨gn, 4, none⟩ = some (.slice S2.win.bits.a S2.win.bits.n S2.win.bits.c)) (first | with_reducible exact ⟨cm0.out, cm1.out, cm2.out, cm3.out, cm4.out⟩ | with_reducible exact ⟨qm0.out, qm1.out, qm2.out, qm3.out, qm4.out⟩ | with_reducible exact ⟨ym0.out, ym1.out, ym2.out, ym3.out, ym4.out⟩ | with_reducible exact ⟨qe0, qe1, qe2, qe3, qe4⟩ | with_reducible exact ⟨ye0, ye1, ye2, ye3, ye4⟩ | with_reducible exact ⟨ae0.out, ae1.out, ae2.out, ae3.out, ae4.out⟩ | with_reducible exact ⟨be0.out, be1.out, be2.out, be3.out, be4.out⟩ | with_reducible exact ⟨xe0.out, xe1.out, xe2.out, xe3.out, xe4.out⟩ | with_reducible exact ⟨ze0, ze1, ze2, ze3, ze4⟩ | fail)
   (first
    | (go_at_call 78; refine (codeOf c (x5.alloc (.cells #[] 5)).drew (HER.out.later (B5.out.trans (TXA.out.mono B5.out.size)))).mono ?_; rintro e y1 ⟨rfl, b⟩; have T1 := hid (TXA.out.trans (b.mono TXA.out.size)); have LB : Hid (x5.heap.size + 1 ≤ y1.heap.size) := (by have := b.size; have := LXA.out; show _ ≤ _; omega); have NB := hid (NB0.out.carry (Kept.of_below b (x5.heap.size + 1)) (.inl (Nat.le_refl _))); have ye0 := (KN5.out.later T1.out).cell 0 rfl; have ye1 := (KN5.out.later T1.out).cell 1 rfl; have ye2 := (KN5.out.later T1.out).cell 2 rfl; have ye3 := (KN5.out.later T1.out).cell 3 rfl; have ye4 := (KN5.out.later T1.out).cell 4 rfl; have yo0 := (KO5.out.later T1.out).cell 0 rfl; have yo1 := (KO5.out.later T1.out).cell 1 rfl; have yo2 := (KO5.out.later T1.out).cell 2 rfl; have yo3 := (KO5.out.later T1.out).cell 3 rfl; have yo4 := (KO5.out.later T1.out).cell 4 rfl; have yp0 := (KO5.out.later T1.out).frozen 0; have yp1 := (KO5.out.later T1.out).frozen 1; have yp2 := (KO5.out.later T1.out).frozen 2; have yp3 := (KO5.out.later T1.out).frozen 3; have yp4 := (KO5.out.later T1.out).frozen 4; have yN := ep_other (KN5.out.later T1.out) NNO (.int .i64 D.n) (.slice S2.key.a S2.key.n S2.key.c) (.int .i64 D.seq) (.int .i64 D.win.top) (.slice S2.win.bits.a S2.win.bits.n S2.win.bits.c); have ym0 := hide (yN.cell 0 rfl); have ym1 := hide (yN.cell 1 rfl); have ym2 := hide (yN.cell 2 rfl); have ym3 := hide (yN.cell 3 rfl); have ym4 := hide (yN.cell 4 rfl); clear yN; clear b)
    | (go_at_call 78; refine (codeOf c x5.drew (HER.out.later (B5.out.trans (TXD.out.mono B5.out.size)))).mono ?_; rintro e y1 ⟨rfl, b⟩; have T1 := hid (TXD.out.trans (b.mono TXD.out.size)); have T2 : Hid (Below x5.heap.size x5 (y1.alloc (.cells #[] 5))) := T1.out.alloc T1.out.size _; have ye0 := (KN5.out.later T1.out).cell 0 rfl; have ye1 := (KN5.out.later T1.out).cell 1 rfl; have ye2 := (KN5.out.later T1.out).cell 2 rfl; have ye3 := (KN5.out.later T1.out).cell 3 rfl; have ye4 := (KN5.out.later T1.out).cell 4 rfl; have yo0 := (KO5.out.later T1.out).cell 0 rfl; have yo1 := (KO5.out.later T1.out).cell 1 rfl; have yo2 := (KO5.out.later T1.out).cell 2 rfl; have yo3 := (KO5.out.later T1.out).cell 3 rfl; have yo4 := (KO5.out.later T1.out).cell 4 rfl; have yp0 := (KO5.out.later T1.out).frozen 0; have yp1 := (KO5.out.later T1.out).frozen 1; have yp2 := (KO5.out.later T1.out).frozen 2; have yp3 := (KO5.out.later T1.out).frozen 3; have yp4 := (KO5.out.later T1.out).frozen 4; have yN := ep_other (KN5.out.later T1.out) NNO (.int .i64 D.n) (.slice S2.key.a S2.key.n S2.key.c) (.int .i64 D.seq) (.int .i64 D.win.top) (.slice S2.win.bits.a S2.win.bits.n S2.win.bits.c); have ym0 := hide (yN.cell 0 rfl); have ym1 := hide (yN.cell 1 rfl); have ym2 := hide (yN.cell 2 rfl); have ym3 := hide (yN.cell 3 rfl); have ym4 := hide (yN.cell 4 rfl); have cm0 := hide ((yN.alloc (.cells #[] 5)).cell 0 rfl); have cm1 := hide ((yN.alloc (.cells #[] 5)).cell 1 rfl); have cm2 := hide ((yN.alloc (.cells #[] 5)).cell 2 rfl); have cm3 := hide ((yN.alloc (.cells #[] 5)).cell 3 rfl); have cm4 := hide ((yN.alloc (.cells #[] 5)).cell 4 rfl); clear yN; have qe0 := (KN5.out.later T2.out).cell 0 rfl; have qe1 := (KN5.out.later T2.out).cell 1 rfl; have qe2 := (KN5.out.later T2.out).cell 2 rfl; have qe3 := (KN5.out.later T2.out).cell 3 rfl; have qe4 := (KN5.out.later T2.out).cell 4 rfl; have qo0 := (KO5.out.later T2.out).cell 0 rfl; have qo1 := (KO5.out.later T2.out).cell 1 rfl; have qo2 := (KO5.out.later T2.out).cell 2 rfl; have qo3 := (KO5.out.later T2.out).cell 3 rfl; have qo4 := (KO5.out.later T2.out).cell 4 rfl; have qp0 := (KO5.out.later T2.out).frozen 0; have qp1 := (KO5.out.later T2.out).frozen 1; have qp2 := (KO5.out.later T2.out).frozen 2; have qp3 := (KO5.out.later T2.out).frozen 3; have qp4 := (KO5.out.later T2.out).frozen 4; have qN := ep_other (KN5.out.later T2.out) NNO (.int .i64 D.n) (.slice S2.key.a S2.key.n S2.key.c) (.int .i64 D.seq) (.int .i64 D.win.top) (.slice S2.win.bits.a S2.win.bits.n S2.win.bits.c); have qm0 := hide (qN.cell 0 rfl); have qm1 := hide (qN.cell 1 rfl); have qm2 := hide (qN.cell 2 rfl); have qm3 := hide (qN.cell 3 rfl); have qm4 := hide (qN.cell 4 rfl); clear qN; clear b))
  ·
   go_wp2
   have KX := hid (KO5.out.later T1.out)
   have OX := hid (O25.out.later T1.out)
   have NX := NB
   have BX := hid (B5.out.trans (T1.out.mono B5.out.size))
   have SZF : Hid (go + 1 ≤ x1.heap.size ∧ x1.heap.size ≤ x2.heap.size ∧ x2.heap.size ≤ x5.heap.size ∧ go + 1 ≤ x5.heap.size ∧ x5.heap.size + 1 ≤ y1.heap.size ∧ w.heap.size + 2 = go) := by have := hid8 LB L1 Gga L2 L3 Ggn OZ L4; have := hid2 L5 Ggw; show _ ∧ _; omega
   obtain ⟨k1, k2, k3⟩ := ep_stored (D := D) (S := S2) (lo := x1.heap.size) (hi := x2.heap.size) KX.out OX.out (.inl (by have := SZF.out; omega))
   refine bodyPost_ret (v := .tuple #[epV D S2, .slice (some ⟨x5.heap.size, 0, none⟩) 0 0, .int .i64 c]) (res3 rfl (is_cell rfl k1 aggEp) (is_tmp rfl) (is_tmp rfl)) rfl ⟨S2, ⟨some ⟨x5.heap.size, 0, none⟩, 0, 0⟩, x1.heap.size, x2.heap.size, x5.heap.size, x5.heap.size + 1, rfl, k2, ?_, ?_, k3 _ _ (by have := SZF.out; omega) BX.out⟩
   ·
    exact NX.out.carry (ep_kept _ _ (.int .i64 D.n) (.slice S2.key.a S2.key.n S2.key.c) (.int .i64 D.seq) (.int .i64 D.win.top) (.slice S2.win.bits.a S2.win.bits.n S2.win.bits.c)) (.inr (by have := SZF.out; omega))
   ·
    rw [ep_size]; have := SZF.out; omega
  ·
   go_wp2
   have KX := hid (KO5.out.later T2.out)
   have OX := hid (O25.out.later T2.out)
   have NX : Hid (SOwn (y1.alloc (.cells #[] 5)) y1.heap.size (y1.heap.size + 1) ⟨some ⟨y1.heap.size, 0, none⟩, 0, 0⟩ []) := own_new y1
   have BX := hid (B5.out.trans (T2.out.mono B5.out.size))
   have SZF : Hid (go + 1 ≤ x1.heap.size ∧ x1.heap.size ≤ x2.heap.size ∧ x2.heap.size ≤ y1.heap.size ∧ go + 1 ≤ y1.heap.size ∧ y1.heap.size + 1 ≤ (y1.alloc (.cells #[] 5)).heap.size ∧ w.heap.size + 2 = go) := by have := T1.out.size; have := new_size y1; have := hid8 L1 Gga L2 L3 Ggn OZ L4 L5; have := Ggw.out; show _ ∧ _; omega
   obtain ⟨k1, k2, k3⟩ := ep_stored (D := D) (S := S2) (lo := x1.heap.size) (hi := x2.heap.size) KX.out OX.out (.inl (by have := SZF.out; omega))
   refine bodyPost_ret (v := .tuple #[epV D S2, .slice (some ⟨y1.heap.size, 0, none⟩) 0 0, .int .i64 c]) (res3 rfl (is_cell rfl k1 aggEp) (is_tmp rfl) (is_tmp rfl)) rfl ⟨S2, ⟨some ⟨y1.heap.size, 0, none⟩, 0, 0⟩, x1.heap.size, x2.heap.size, y1.heap.size, y1.heap.size + 1, rfl, k2, ?_, ?_, k3 _ _ (by have := SZF.out; omega) BX.out⟩
   ·
    exact NX.out.carry (ep_kept _ _ (.int .i64 D.n) (.slice S2.key.a S2.key.n S2.key.c) (.int .i64 D.seq) (.int .i64 D.win.top) (.slice S2.win.bits.a S2.win.bits.n S2.win.bits.c)) (.inr (by have := SZF.out; omega))
   ·
    rw [ep_size]; have := SZF.out; omega
  ·
   go_wp2
   have KX := hid (KO5.out.later T1.out)
   have OX := hid (O25.out.later T1.out)
   have BX := hid (B5.out.trans (T1.out.mono B5.out.size))
   have SZF : Hid (go + 1 ≤ x1.heap.size ∧ x1.heap.size ≤ x2.heap.size ∧ x2.heap.size ≤ y1.heap.size ∧ w.heap.size + 2 = go) := by have := T1.out.size; have := hid8 L1 Gga L2 L3 Ggn OZ L4 L5; have := Ggw.out; show _ ∧ _; omega
   obtain ⟨k1, k2, k3⟩ := ep_stored (D := D) (S := S2) (lo := x1.heap.size) (hi := x2.heap.size) KX.out OX.out (.inl (by have := SZF.out; omega))
   have LS : (((((y1.setCell ⟨go, 0, none⟩ (.int .i64 D.n)).setCell ⟨go, 1, none⟩ (.slice S2.key.a S2.key.n S2.key.c)).setCell ⟨go, 2, none⟩ (.int .i64 D.seq)).setCell ⟨go, 3, none⟩ (.int .i64 D.win.top)).setCell ⟨go, 4, none⟩ (.slice S2.win.bits.a S2.win.bits.n S2.win.bits.c)).heap.size = y1.heap.size := ep_size _ _ (.int .i64 D.n) (.slice S2.key.a S2.key.n S2.key.c) (.int .i64 D.seq) (.int .i64 D.win.top) (.slice S2.win.bits.a S2.win.bits.n S2.win.bits.c)
   have NX : SOwn ((((((y1.setCell ⟨go, 0, none⟩ (.int .i64 D.n)).setCell ⟨go, 1, none⟩ (.slice S2.key.a S2.key.n S2.key.c)).setCell ⟨go, 2, none⟩ (.int .i64 D.seq)).setCell ⟨go, 3, none⟩ (.int .i64 D.win.top)).setCell ⟨go, 4, none⟩ (.slice S2.win.bits.a S2.win.bits.n S2.win.bits.c)).alloc (.cells #[] 5)) (y1.heap.size) (y1.heap.size + 1) ⟨some ⟨y1.heap.size, 0, none⟩, 0, 0⟩ [] := by have q := own_new (((((y1.setCell ⟨go, 0, none⟩ (.int .i64 D.n)).setCell ⟨go, 1, none⟩ (.slice S2.key.a S2.key.n S2.key.c)).setCell ⟨go, 2, none⟩ (.int .i64 D.seq)).setCell ⟨go, 3, none⟩ (.int .i64 D.win.top)).setCell ⟨go, 4, none⟩ (.slice S2.win.bits.a S2.win.bits.n S2.win.bits.c)); rw [LS] at q; exact q
   have b9 := k3 _ _ (show w.heap.size ≤ go by have := SZF.out; omega) BX.out
   refine bodyPost_ret (v := .tuple #[epV D S2, .slice (some ⟨y1.heap.size, 0, none⟩) 0 0, .int .i64 c]) (res3 rfl (is_cell rfl (k1.alloc _) aggEp) (is_tmp rfl) (is_tmp rfl)) rfl ⟨S2, ⟨some ⟨y1.heap.size, 0, none⟩, 0, 0⟩, x1.heap.size, x2.heap.size, y1.heap.size, y1.heap.size + 1, rfl, k2.later ((Below.refl _ _).alloc (Nat.le_refl _) _), NX, ?_, b9.alloc b9.size _⟩
   rw [new_size]; have := SZF.out; omega
 case pos =>
  subst hc0
  obtain rfl : Q = { D with win := Wd } := by rw [← HRE.out, ← HWD.out, eoW_yes HC.out]; exact eoE_yes HC.out
  obtain ⟨d0, d1, d2, d3, d4⟩ := cells5 KA3.out
  obtain ⟨e0, e1, e2, e3, e4, e5, e6, e7, e8, e9, e10⟩ := cells11 KF3.out
  go_wp2_with fail
  refine (openOnce S D SF DF role x3 (HT.out.later B3.out) (HR.out.later B3.out) HL.out (HF.out.later B3.out)).mono ?_
  unfold AnsO
  rw [HC.out, HRR.out, HWD.out, errV_0]
  rintro e x4 ⟨S3, S4, a3, b3, a4, b4, rfl, o3, o4, oz, b⟩
  have OZ : Hid (_ ∧ _) := oz
  clear oz
  clear d0 d1 d2 d3 d4
  clear e0 e1 e2 e3 e4 e5 e6 e7 e8 e9 e10
  have L4 := hid (b.size)
  have B4 := hid (B3.out.trans (b.mono B3.out.size))
  have KA4 := hid (KA3.out.later b)
  have KF4 := hid (KF3.out.later b)
  have KO4 := hid (KO3.out.later b)
  have O24 := hid (O23.out.later b)
  have KN4 := hid (KN3.out.later b)
  clear b B3 KA3 KF3 KO3 O23 KN3
  have O34 := hid (o3)
  have O44 := hid (o4)
  clear o3 o4
  obtain ⟨x5, hx5⟩ : ∃ x5, x4.alloc (.cells #[.int .i64 Wd.top, .slice S3.bits.a S3.bits.n S3.bits.c] 39) = x5 := ⟨_, rfl⟩
  have HW5 := hid (hx5)
  have b5 : Below x4.heap.size x4 x5 := by rw [← hx5]; exact (Below.refl _ _).alloc (Nat.le_refl _) _
  have KN : Blk x5 x4.heap.size 39 [.int .i64 Wd.top, .slice S3.bits.a S3.bits.n S3.bits.c] := by rw [← hx5]; exact Blk.new x4 _ _
  have HSZ5 : Hid (x5.heap.size = x4.heap.size + 1) := by rw [← hx5]; show _ = _; simp
  clear hx5
  have L5 := hid (b5.size)
  have B5 := hid (B4.out.trans (b5.mono B4.out.size))
  have KA5 := hid (KA4.out.later b5)
  have KF5 := hid (KF4.out.later b5)
  have KO5 := hid (KO4.out.later b5)
  have O25 := hid (O24.out.later b5)
  have KN5 := hid (KN4.out.later b5)
  have O35 := hid (O34.out.later b5)
  have O45 := hid (O44.out.later b5)
  clear b5 B4 KA4 KF4 KO4 O24 KN4 O34 O44
  unfold wnV
  go_upto_region 3 with fail
  rw [HW5.out]
  obtain ⟨gw, hgw⟩ : ∃ g, x4.heap.size = g := ⟨_, rfl⟩
  have Ggw : Hid (x4.heap.size = gw ∧ x5.heap.size = gw + 1) := ⟨hgw, by rw [← hgw]; exact HSZ5.out⟩
  rw [hgw] at KN ⊢
  clear HW5 HSZ5 hgw
  have KW5 := hid (KN)
  clear KN
  have d0 := KW5.out.cell 0 rfl
  have d1 := KW5.out.cell 1 rfl
  go_upto_region 5 with fail
  have z3 := KN5.out.cell 3 rfl
  have z4 := KN5.out.cell 4 rfl
  have y3 := KN5.out.frozen 3
  have y4 := KN5.out.frozen 4
  obtain ⟨x6, hx6⟩ : ∃ y, ((x5.setCell ⟨gn, 3, none⟩ (.int .i64 Wd.top)).setCell ⟨gn, 4, none⟩ (.slice S3.bits.a S3.bits.n S3.bits.c)) = y := ⟨_, rfl⟩
  have HW6 := hid (hx6)
  have KS : Blk x6 gn 41 [.int .i64 D.n, .slice S2.key.a S2.key.n S2.key.c, .int .i64 D.seq, .int .i64 Wd.top, .slice S3.bits.a S3.bits.n S3.bits.c] := by rw [← hx6]; exact (KN5.out.set 3 _ (by simp [maxLen])).set 4 _ (by simp [maxLen])
  have KQ : Kept gn (gn + 1) x5 x6 := by rw [← hx6]; exact (Kept.setCell _ _ _ _).trans (Kept.setCell _ _ _ _)
  clear hx6
  have L6 : Hid (x5.heap.size ≤ x6.heap.size) := KQ.size
  have B6 := hid (B5.out.trans (KQ.below (by have := hid8 L1 Gga L2 L3 Ggn OZ L4 L5; have := hid2 Ggw L6; omega) B5.out.size))
  have KA6 := hid (KA5.out.keep (KQ.block _ KA5.out.lt (by have := hid8 L1 Gga L2 L3 Ggn OZ L4 L5; have := hid2 Ggw L6; omega)))
  have KF6 := hid (KF5.out.keep (KQ.block _ KF5.out.lt (by have := hid8 L1 Gga L2 L3 Ggn OZ L4 L5; have := hid2 Ggw L6; omega)))
  have KO6 := hid (KO5.out.keep (KQ.block _ KO5.out.lt (by have := hid8 L1 Gga L2 L3 Ggn OZ L4 L5; have := hid2 Ggw L6; omega)))
  have O26 := hid (O25.out.carry KQ (by have := hid8 L1 Gga L2 L3 Ggn OZ L4 L5; have := hid2 Ggw L6; omega))
  have O36 := hid (O35.out.carry KQ (by have := hid8 L1 Gga L2 L3 Ggn OZ L4 L5; have := hid2 Ggw L6; omega))
  have O46 := hid (O45.out.carry KQ (by have := hid8 L1 Gga L2 L3 Ggn OZ L4 L5; have := hid2 Ggw L6; omega))
  have KW6 := hid (KW5.out.keep (KQ.block _ KW5.out.lt (by have := hid8 L1 Gga L2 L3 Ggn OZ L4 L5; have := hid2 Ggw L6; omega)))
  clear KQ B5 KA5 KF5 KO5 O25 O35 O45 KW5
  clear KN5
  have KN6 := hid (KS)
  clear KS
  go_upto_region 6 with fail
  rw [HW6.out]
  clear HW6 z3 z4 y3 y4
  obtain ⟨d0, d1, d2, d3, d4⟩ := cells5 KN6.out
  obtain ⟨f0, f1, f2, f3, f4⟩ := cells5 KO6.out
  obtain ⟨g0, g1, g2, g3, g4⟩ := froz5 KO6.out
  go_wp2
  have SZF : Hid (go + 1 ≤ x1.heap.size ∧ x1.heap.size ≤ x2.heap.size ∧ x2.heap.size ≤ a3 ∧ a3 ≤ b3 ∧ a4 ≤ b4 ∧ b4 ≤ x6.heap.size ∧ b3 ≤ x6.heap.size ∧ b3 ≤ a4 ∧ go + 1 ≤ a4 ∧ w.heap.size + 2 = go) := by have := hid8 L1 Gga L2 L3 Ggn OZ L4 L5; have := hid2 Ggw L6; show _ ∧ _; omega
  clear d0 f0 g0 d1 f1 g1 d2 f2 g2 d3 f3 g3 d4 f4 g4
  obtain ⟨k1, k2, k3⟩ := ep_stored (D := { D with win := Wd }) (S := ⟨S2.key, S3⟩) (lo := x1.heap.size) (hi := b3) KO6.out (with_win O26.out O36.out (by have := SZF.out; omega) (by have := SZF.out; omega) (by have := SZF.out; omega)) (.inl (by have := SZF.out; omega))
  refine bodyPost_ret (v := .tuple #[epV { D with win := Wd } ⟨S2.key, S3⟩, .slice S4.a S4.n S4.c, .int .i64 0]) (res3 rfl (is_cell rfl k1 aggEp) (is_tmp rfl) (is_tmp rfl)) rfl ⟨⟨S2.key, S3⟩, S4, x1.heap.size, b3, a4, b4, rfl, k2, ?_, ?_, k3 _ _ (by have := SZF.out; omega) B6.out⟩
  ·
   exact O46.out.carry (ep_kept _ _ (.int .i64 D.n) (.slice S2.key.a S2.key.n S2.key.c) (.int .i64 D.seq) (.int .i64 Wd.top) (.slice S3.bits.a S3.bits.n S3.bits.c)) (.inr (by have := SZF.out; omega))
  ·
   rw [ep_size]; have := SZF.out; omega
end Go.Proofs.YtmcflfpckpjphaaGreatDoor.EpU

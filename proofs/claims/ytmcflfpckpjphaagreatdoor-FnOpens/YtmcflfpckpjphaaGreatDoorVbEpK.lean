/-
  What impl's EpSeal answers.
-/
import Derived.Test.YtmcflfpckpjphaaGreatDoorVbEpJ
set_option maxRecDepth 100000
namespace Go.Proofs.YtmcflfpckpjphaaGreatDoor.EpK
open Go.RowKit Mem App Blk Words Zone ZoneI Res Comp WnZ WinP WnK WnG FrZ FrL FrP FrG FrQ FrQ2 SlP SlQ Shp EpZ EpL EpP EpQ Each Copy Ops Guard SlI SealI EpI EpJ
def AnsQ (Q : EpD) (R : FrD) (c : Int) (w : World) : Ending → World → Prop := fun e w' => ∃ S0 S1 p0 q0 p1 q1, e = .returned (.tuple #[epV Q S0, frV R S1, .int .i64 c]) ∧ EpOwn w' p0 q0 S0 Q ∧ FrOwn w' p1 q1 S1 R ∧ (w.heap.size ≤ p0 ∧ q0 ≤ w'.heap.size ∧ w.heap.size ≤ p1 ∧ q1 ≤ w'.heap.size ∧ (q0 ≤ p1 ∨ q1 ≤ p0)) ∧ Below w.heap.size w w'
theorem hide {p : Prop} (h : p) : Hid p := h
theorem drew_size (w : World) : w.drew.heap.size = w.heap.size := rfl
theorem drewB {w : World} {g : Nat} {t : TypeId} {cs : List Value} (h : Blk w g t cs) : Blk w.drew g t cs := h
theorem neE (v : Value) (w : World) : (binOp .neq 97 (.iface 145 v) .nilIface).run Tryz.prog w = .ok (.bool true) w := by kernel_rfl
theorem es_bounds {E : EpD} {role : Int} {sn : List Int} {kind : Int} {plain : List Int} (h : esCode E role sn kind plain = 0) : 0 ≤ E.seq ∧ E.seq ≤ 281474976710656 := by
 by_cases hf : esForm E role sn kind plain = false
 ·
  rw [es_1 hf] at h; omega
 ·
  exact seq_wrap (by simpa using hf)
set_option maxHeartbeats 8000000 in
theorem implEpSeal (S : EpS) (D : EpD) (s p : Sl) (l pl : List Int) (role kind : Int) (w : World) (hT : Tab w) (hE : ErrAt w) (h : EpRd w S D) (hl : EpShort D 4194304) (hs : SRd w s l) (hp : SRd w p pl) :
  Calls Tryz.prog 23 #[epV D S, .int .i64 role, .slice s.a s.n s.c, .int .i64 kind, .slice p.a p.n p.c] w (AnsQ (esE D role l kind pl) (esF D role l kind pl) (esCode D role l kind pl) w) := by
 have HR := hid (h)
 have HL := hid (hl)
 have HS := hid (hs)
 have HP := hid (hp)
 have HT := hid (hT)
 have HER := hid (hE)
 have HPN : Hid (p.n = pl.length) := hp.len
 clear h hl hs hp hT hE
 obtain ⟨c, hc⟩ : ∃ c, esCode D role l kind pl = c := ⟨_, rfl⟩
 have HC : Hid (esCode D role l kind pl = c) := hc
 obtain ⟨R, hR⟩ : ∃ R, esF D role l kind pl = R := ⟨_, rfl⟩
 have HRF : Hid (esF D role l kind pl = R) := hR
 obtain ⟨Q, hQ⟩ : ∃ Q, esE D role l kind pl = Q := ⟨_, rfl⟩
 have HRE : Hid (esE D role l kind pl = Q) := hQ
 rw [hc, hR, hQ]
 clear hc hR hQ
 obtain ⟨x1, hx1⟩ : ∃ x1, ((w.alloc (.cells #[.int .i64 D.n, .slice S.key.a S.key.n S.key.c, .int .i64 D.seq, .int .i64 D.win.top, .slice S.win.bits.a S.win.bits.n S.win.bits.c] 41)).alloc (.cells #[.int .i64 0, .slice none 0 0, .int .i64 0, .int .i64 0, .slice none 0 0] 41)).alloc (.cells #[.int .i64 0, .int .i64 0, .slice none 0 0, .slice none 0 0, .int .i64 0, .slice none 0 0, .slice none 0 0, .int .i64 0, .int .i64 0, .slice none 0 0, .slice none 0 0] 27) = x1 := ⟨_, rfl⟩
 have HW0 := hid (hx1)
 have b1 : Below w.heap.size w x1 := by rw [← hx1]; exact (((Below.refl _ _).alloc (Nat.le_refl _) _).alloc (by simp) _).alloc (by simp; omega) _
 have KNa : Blk x1 w.heap.size 41 [.int .i64 D.n, .slice S.key.a S.key.n S.key.c, .int .i64 D.seq, .int .i64 D.win.top, .slice S.win.bits.a S.win.bits.n S.win.bits.c] := by rw [← hx1]; exact ((Blk.new w _ _).alloc _).alloc _
 have KNo : Blk x1 (w.heap.size + 1) 41 [.int .i64 0, .slice none 0 0, .int .i64 0, .int .i64 0, .slice none 0 0] := by
  have q := Blk.new (w.alloc (.cells #[.int .i64 D.n, .slice S.key.a S.key.n S.key.c, .int .i64 D.seq, .int .i64 D.win.top, .slice S.win.bits.a S.win.bits.n S.win.bits.c] 41)) 41 [.int .i64 0, .slice none 0 0, .int .i64 0, .int .i64 0, .slice none 0 0]
  rw [World.size_alloc] at q
  rw [← hx1]; exact q.alloc _
 have KNf : Blk x1 (w.heap.size + 1 + 1) 27 [.int .i64 0, .int .i64 0, .slice none 0 0, .slice none 0 0, .int .i64 0, .slice none 0 0, .slice none 0 0, .int .i64 0, .int .i64 0, .slice none 0 0, .slice none 0 0] := by
  have q := Blk.new ((w.alloc (.cells #[.int .i64 D.n, .slice S.key.a S.key.n S.key.c, .int .i64 D.seq, .int .i64 D.win.top, .slice S.win.bits.a S.win.bits.n S.win.bits.c] 41)).alloc (.cells #[.int .i64 0, .slice none 0 0, .int .i64 0, .int .i64 0, .slice none 0 0] 41)) 27 [.int .i64 0, .int .i64 0, .slice none 0 0, .slice none 0 0, .int .i64 0, .slice none 0 0, .slice none 0 0, .int .i64 0, .int .i64 0, .slice none 0 0, .slice none 0 0]
  rw [World.size_alloc, World.size_alloc] at q
  rw [← hx1]; exact q
 have SZ1 : x1.heap.size = w.heap.size + 3 := by rw [← hx1]; simp
 clear hx1
 have L1 := hid (b1.size)
 have B1 := hid (b1)
 clear b1
 unfold epV
 go_enter Tryz.func23, Tryz.ntmps23
 go_upto_region 1 with fail
 rw [HW0.out]
 obtain ⟨ga, hga⟩ : ∃ g, w.heap.size = g := ⟨_, rfl⟩
 obtain ⟨go, hgo⟩ : ∃ g, w.heap.size + 1 = g := ⟨_, rfl⟩
 obtain ⟨gh, hgh⟩ : ∃ g, w.heap.size + 1 + 1 = g := ⟨_, rfl⟩
 have Gga : Hid (w.heap.size = ga ∧ ga + 1 = go ∧ go + 1 = gh ∧ x1.heap.size = ga + 3) := ⟨hga, by omega, by omega, by omega⟩
 rw [hga] at KNa
 rw [hgo] at KNo
 rw [hgh] at KNf
 rw [hgh, hgo, hga]
 clear HW0 SZ1 hga hgo hgh
 have KA1 := hid (KNa)
 have KO1 := hid (KNo)
 have KH1 := hid (KNf)
 clear KNa KNo KNf
 obtain ⟨d0, d1, d2, d3, d4⟩ := cells5 KA1.out
 go_wp2_with fail
 refine (EpI.implCopyEp S D x1 (HR.out.later B1.out) HL.out).mono ?_
 unfold AnsE
 rintro e x2 ⟨S2, rfl, o, b⟩
 clear d0 d1 d2 d3 d4
 have L2 := hid (b.size)
 have B2 := hid (B1.out.trans (b.mono B1.out.size))
 have KA2 := hid (KA1.out.later b)
 have KO2 := hid (KO1.out.later b)
 have KH2 := hid (KH1.out.later b)
 clear b B1 KA1 KO1 KH1
 have O22 := hid (o)
 clear o
 obtain ⟨x3, hx3⟩ : ∃ x3, x2.alloc (.cells #[.int .i64 D.n, .slice S2.key.a S2.key.n S2.key.c, .int .i64 D.seq, .int .i64 D.win.top, .slice S2.win.bits.a S2.win.bits.n S2.win.bits.c] 41) = x3 := ⟨_, rfl⟩
 have HW3 := hid (hx3)
 have b3 : Below x2.heap.size x2 x3 := by rw [← hx3]; exact (Below.refl _ _).alloc (Nat.le_refl _) _
 have KN : Blk x3 x2.heap.size 41 [.int .i64 D.n, .slice S2.key.a S2.key.n S2.key.c, .int .i64 D.seq, .int .i64 D.win.top, .slice S2.win.bits.a S2.win.bits.n S2.win.bits.c] := by rw [← hx3]; exact Blk.new x2 _ _
 have HSZ3 : Hid (x3.heap.size = x2.heap.size + 1) := by rw [← hx3]; show _ = _; simp
 clear hx3
 have L3 := hid (b3.size)
 have B3 := hid (B2.out.trans (b3.mono B2.out.size))
 have KA3 := hid (KA2.out.later b3)
 have KO3 := hid (KO2.out.later b3)
 have KH3 := hid (KH2.out.later b3)
 have O23 := hid (O22.out.later b3)
 clear b3 B2 KA2 KO2 KH2 O22
 unfold epV
 go_upto_region 2 with fail
 rw [HW3.out]
 obtain ⟨gn, hgn⟩ : ∃ g, x2.heap.size = g := ⟨_, rfl⟩
 have Ggn : Hid (x2.heap.size = gn ∧ x3.heap.size = gn + 1) := ⟨hgn, by rw [← hgn]; exact HSZ3.out⟩
 rw [hgn] at KN ⊢
 clear HW3 HSZ3 hgn
 have KN3 := hid (KN)
 clear KN
 by_cases hc0 : c = 0
 case neg =>
  obtain rfl : D = Q := by rw [← HRE.out]; exact (esE_no (by rw [HC.out]; exact hc0)).symm
  obtain rfl : R = zeroF := by rw [← HRF.out]; exact esF_no (by rw [HC.out]; exact hc0)
  have nE := fun (v : Value) (w : World) => neE v w
  obtain ⟨d0, d1, d2, d3, d4⟩ := cells5 KA3.out
  go_wp2_with fail
  refine (sealNext S D s p l pl role kind x3 (HT.out.later B3.out) (HR.out.later B3.out) (HS.out.later B3.out) (HP.out.later B3.out)).mono ?_
  unfold AnsN
  rw [HC.out, HRF.out, errV_c hc0]
  rintro e x4 ⟨S3, rfl, o, b⟩
  clear d0 d1 d2 d3 d4
  have L4 := hid (b.size)
  have B4 := hid (B3.out.trans (b.mono B3.out.size))
  have KA4 := hid (KA3.out.later b)
  have KO4 := hid (KO3.out.later b)
  have KH4 := hid (KH3.out.later b)
  have O24 := hid (O23.out.later b)
  have KN4 := hid (KN3.out.later b)
  clear b B3 KA3 KO3 KH3 O23 KN3
  have O34 := hid (o)
  clear o
  obtain ⟨x5, hx5⟩ : ∃ x5, x4.alloc (.cells #[.int .i64 zeroF.kind, .int .i64 zeroF.id, .slice S3.cn.a S3.cn.n S3.cn.c, .slice S3.sn.a S3.sn.n S3.sn.c, .int .i64 zeroF.tick, .slice S3.cookie.a S3.cookie.n S3.cookie.c, .slice S3.proof.a S3.proof.n S3.proof.c, .int .i64 zeroF.epoch, .int .i64 zeroF.seq, .slice S3.body.a S3.body.n S3.body.c, .slice S3.tag.a S3.tag.n S3.tag.c] 27) = x5 := ⟨_, rfl⟩
  have HW5 := hid (hx5)
  have b5 : Below x4.heap.size x4 x5 := by rw [← hx5]; exact (Below.refl _ _).alloc (Nat.le_refl _) _
  have KN : Blk x5 x4.heap.size 27 [.int .i64 zeroF.kind, .int .i64 zeroF.id, .slice S3.cn.a S3.cn.n S3.cn.c, .slice S3.sn.a S3.sn.n S3.sn.c, .int .i64 zeroF.tick, .slice S3.cookie.a S3.cookie.n S3.cookie.c, .slice S3.proof.a S3.proof.n S3.proof.c, .int .i64 zeroF.epoch, .int .i64 zeroF.seq, .slice S3.body.a S3.body.n S3.body.c, .slice S3.tag.a S3.tag.n S3.tag.c] := by rw [← hx5]; exact Blk.new x4 _ _
  have HSZ5 : Hid (x5.heap.size = x4.heap.size + 1) := by rw [← hx5]; show _ = _; simp
  clear hx5
  have L5 := hid (b5.size)
  have B5 := hid (B4.out.trans (b5.mono B4.out.size))
  have KA5 := hid (KA4.out.later b5)
  have KO5 := hid (KO4.out.later b5)
  have KH5 := hid (KH4.out.later b5)
  have O25 := hid (O24.out.later b5)
  have KN5 := hid (KN4.out.later b5)
  have O35 := hid (O34.out.later b5)
  clear b5 B4 KA4 KO4 KH4 O24 KN4 O34
  unfold frV
  go_upto_region 3 with fail
  rw [HW5.out]
  obtain ⟨gf, hgf⟩ : ∃ g, x4.heap.size = g := ⟨_, rfl⟩
  have Ggf : Hid (x4.heap.size = gf ∧ x5.heap.size = gf + 1) := ⟨hgf, by rw [← hgf]; exact HSZ5.out⟩
  rw [hgf] at KN ⊢
  clear HW5 HSZ5 hgf
  have KG5 := hid (KN)
  clear KN
  go_upto_region 4 with fail
  have NEH : gh ≠ go := by have := hid8 L1 Gga L2 L3 Ggn L4 L5 Ggf; omega
  have NNO : gn ≠ go := by have := hid8 L1 Gga L2 L3 Ggn L4 L5 Ggf; omega
  have NNH : gn ≠ gh := by have := hid8 L1 Gga L2 L3 Ggn L4 L5 Ggf; omega
  obtain ⟨ze0, ze1, ze2, ze3, ze4⟩ := cells5 KN5.out
  go_region_held3 (fun w' => w'.cell? ⟨gn, 0, none⟩ = some (.int .i64 D.n) ∧ w'.cell? ⟨gn, 1, none⟩ = some (.slice S2.key.a S2.key.n S2.key.c) ∧ w'.cell? ⟨gn, 2, none⟩ = some (.int .i64 D.seq) ∧ w'.cell? ⟨gn, 3, none⟩ = some (.int .i64 D.win.top) ∧ w'.cell? ⟨gn, 4, none⟩ = some (.slice S2.win.bits.a S2.win.bits.n S2.win.bits.c)) (first | with_reducible exact ⟨yr0.out, yr1.out, yr2.out, yr3.out, yr4.out⟩ | with_reducible exact ⟨ym0.out, ym1.out, ym2.out, ym3.out, ym4.out⟩ | with_reducible exact ⟨ye0, ye1, ye2, ye3, ye4⟩ | with_reducible exact ⟨zr0.out, zr1.out, zr2.out, zr3.out, zr4.out⟩ | with_reducible exact ⟨zm0.out, zm1.out, zm2.out, zm3.out, zm4.out⟩ | with_reducible exact ⟨ze0, ze1, ze2, ze3, ze4⟩ | exact ⟨ze0, ze1, ze2, ze3, ze4⟩ | go_keep)
   (first | (go_at_call 78; refine (codeOf c x5.drew (HER.out.later (B5.out.drew))).mono ?_; rintro e y1 ⟨rfl, b⟩; have T1 : Hid (Below x5.heap.size x5 y1) := (Below.refl _ _).drew.trans b; have ye0 := (KN5.out.later T1.out).cell 0 rfl; have ye1 := (KN5.out.later T1.out).cell 1 rfl; have ye2 := (KN5.out.later T1.out).cell 2 rfl; have ye3 := (KN5.out.later T1.out).cell 3 rfl; have ye4 := (KN5.out.later T1.out).cell 4 rfl; have yo0 := (KO5.out.later T1.out).cell 0 rfl; have yo1 := (KO5.out.later T1.out).cell 1 rfl; have yo2 := (KO5.out.later T1.out).cell 2 rfl; have yo3 := (KO5.out.later T1.out).cell 3 rfl; have yo4 := (KO5.out.later T1.out).cell 4 rfl; have yp0 := (KO5.out.later T1.out).frozen 0; have yp1 := (KO5.out.later T1.out).frozen 1; have yp2 := (KO5.out.later T1.out).frozen 2; have yp3 := (KO5.out.later T1.out).frozen 3; have yp4 := (KO5.out.later T1.out).frozen 4; have yH := ep_other (KH5.out.later T1.out) NEH (.int .i64 D.n) (.slice S2.key.a S2.key.n S2.key.c) (.int .i64 D.seq) (.int .i64 D.win.top) (.slice S2.win.bits.a S2.win.bits.n S2.win.bits.c); have yN := ep_other (KN5.out.later T1.out) NNO (.int .i64 D.n) (.slice S2.key.a S2.key.n S2.key.c) (.int .i64 D.seq) (.int .i64 D.win.top) (.slice S2.win.bits.a S2.win.bits.n S2.win.bits.c); have yh0 := yH.cell 0 rfl; have yh1 := yH.cell 1 rfl; have yh2 := yH.cell 2 rfl; have yh3 := yH.cell 3 rfl; have yh4 := yH.cell 4 rfl; have yh5 := yH.cell 5 rfl; have yh6 := yH.cell 6 rfl; have yh7 := yH.cell 7 rfl; have yh8 := yH.cell 8 rfl; have yh9 := yH.cell 9 rfl; have yh10 := yH.cell 10 rfl; have yg0 := yH.frozen 0; have yg1 := yH.frozen 1; have yg2 := yH.frozen 2; have yg3 := yH.frozen 3; have yg4 := yH.frozen 4; have yg5 := yH.frozen 5; have yg6 := yH.frozen 6; have yg7 := yH.frozen 7; have yg8 := yH.frozen 8; have yg9 := yH.frozen 9; have yg10 := yH.frozen 10; have ym0 := hide (yN.cell 0 rfl); have ym1 := hide (yN.cell 1 rfl); have ym2 := hide (yN.cell 2 rfl); have ym3 := hide (yN.cell 3 rfl); have ym4 := hide (yN.cell 4 rfl); have yM := fr_other yN NNH (.int .i64 0) (.int .i64 0) (.slice none 0 0) (.slice none 0 0) (.int .i64 0) (.slice none 0 0) (.slice none 0 0) (.int .i64 0) (.int .i64 0) (.slice none 0 0) (.slice none 0 0); have yr0 := hide (yM.cell 0 rfl); have yr1 := hide (yM.cell 1 rfl); have yr2 := hide (yM.cell 2 rfl); have yr3 := hide (yM.cell 3 rfl); have yr4 := hide (yM.cell 4 rfl); clear yH yN yM; clear b))
  clear ze0 ze1 ze2 ze3 ze4 ye0 yo0 yp0 ym0 yr0 ye1 yo1 yp1 ym1 yr1 ye2 yo2 yp2 ym2 yr2 ye3 yo3 yp3 ym3 yr3 ye4 yo4 yp4 ym4 yr4 yh0 yg0 yh1 yg1 yh2 yg2 yh3 yg3 yh4 yg4 yh5 yg5 yh6 yg6 yh7 yg7 yh8 yg8 yh9 yg9 yh10 yg10
  have b := T1.out
  obtain ⟨x6, hxx⟩ : ∃ z, z = y1 := ⟨y1, rfl⟩
  subst hxx
  have L6 := hid (b.size)
  have B6 := hid (B5.out.trans (b.mono B5.out.size))
  have KA6 := hid (KA5.out.later b)
  have KO6 := hid (KO5.out.later b)
  have KH6 := hid (KH5.out.later b)
  have O26 := hid (O25.out.later b)
  have KN6 := hid (KN5.out.later b)
  have O36 := hid (O35.out.later b)
  have KG6 := hid (KG5.out.later b)
  clear b B5 KA5 KO5 KH5 O25 KN5 O35 KG5
  clear T1
  go_wp2
  have SZF : Hid (w.heap.size ≤ x1.heap.size ∧ x1.heap.size ≤ x2.heap.size ∧ gh + 1 ≤ x1.heap.size ∧ x2.heap.size ≤ x6.heap.size ∧ w.heap.size + 1 = go ∧ go + 1 = gh) := by have := hid8 L1 Gga L2 L3 Ggn L4 L5 Ggf; have := L6.out; show _ ∧ _; omega
  obtain ⟨k1, k2, k3⟩ := ep_stored (D := D) (S := S2) (lo := x1.heap.size) (hi := x2.heap.size) KO6.out O26.out (.inl (by have := SZF.out; omega))
  have KHt := ep_other KH6.out (show gh ≠ go by have := SZF.out; omega) (.int .i64 D.n) (.slice S2.key.a S2.key.n S2.key.c) (.int .i64 D.seq) (.int .i64 D.win.top) (.slice S2.win.bits.a S2.win.bits.n S2.win.bits.c)
  obtain ⟨f1, f2, f3⟩ := fr_stored (D := zeroF) (S := (⟨⟨none, 0, 0⟩, ⟨none, 0, 0⟩, ⟨none, 0, 0⟩, ⟨none, 0, 0⟩, ⟨none, 0, 0⟩, ⟨none, 0, 0⟩⟩ : FrS)) KHt (own_nil _ x6.heap.size x6.heap.size) (.inl (by have := SZF.out; omega))
  have k4 := fr_other k1 (show go ≠ gh by have := SZF.out; omega) (.int .i64 0) (.int .i64 0) (.slice none 0 0) (.slice none 0 0) (.int .i64 0) (.slice none 0 0) (.slice none 0 0) (.int .i64 0) (.int .i64 0) (.slice none 0 0) (.slice none 0 0)
  refine bodyPost_ret (v := .tuple #[epV (D) S2, frV zeroF (⟨⟨none, 0, 0⟩, ⟨none, 0, 0⟩, ⟨none, 0, 0⟩, ⟨none, 0, 0⟩, ⟨none, 0, 0⟩, ⟨none, 0, 0⟩⟩ : FrS), .int .i64 c]) (res3 rfl (is_cell rfl k4 aggEp) (is_cell rfl f1 aggFr) (is_tmp rfl)) rfl ⟨S2, (⟨⟨none, 0, 0⟩, ⟨none, 0, 0⟩, ⟨none, 0, 0⟩, ⟨none, 0, 0⟩, ⟨none, 0, 0⟩, ⟨none, 0, 0⟩⟩ : FrS), x1.heap.size, x2.heap.size, x6.heap.size, x6.heap.size, rfl, ?_, ?_, ?_, ?_⟩
  ·
   exact k2.carry (fr_kept _ _ _ _ _ _ _ _ _ _ _ _ _) (.inr (by have := SZF.out; omega))
  ·
   exact own_nil _ _ _
  ·
   rw [fr_size, ep_size]; have := SZF.out; omega
  ·
   exact (f3 _ _ (by have := SZF.out; omega) (k3 _ _ (by have := SZF.out; omega) B6.out))
 case pos =>
  subst hc0
  obtain rfl : Q = { D with seq := D.seq + 1 } := by rw [← HRE.out]; exact esE_yes HC.out
  have hq0 : 0 ≤ D.seq := (es_bounds HC.out).1
  have hq1 : D.seq ≤ 281474976710656 := (es_bounds HC.out).2
  obtain ⟨d0, d1, d2, d3, d4⟩ := cells5 KA3.out
  go_wp2_with fail
  refine (sealNext S D s p l pl role kind x3 (HT.out.later B3.out) (HR.out.later B3.out) (HS.out.later B3.out) (HP.out.later B3.out)).mono ?_
  unfold AnsN
  rw [HC.out, HRF.out, errV_0]
  rintro e x4 ⟨S3, rfl, o, b⟩
  clear d0 d1 d2 d3 d4
  have L4 := hid (b.size)
  have B4 := hid (B3.out.trans (b.mono B3.out.size))
  have KA4 := hid (KA3.out.later b)
  have KO4 := hid (KO3.out.later b)
  have KH4 := hid (KH3.out.later b)
  have O24 := hid (O23.out.later b)
  have KN4 := hid (KN3.out.later b)
  clear b B3 KA3 KO3 KH3 O23 KN3
  have O34 := hid (o)
  clear o
  obtain ⟨x5, hx5⟩ : ∃ x5, x4.alloc (.cells #[.int .i64 R.kind, .int .i64 R.id, .slice S3.cn.a S3.cn.n S3.cn.c, .slice S3.sn.a S3.sn.n S3.sn.c, .int .i64 R.tick, .slice S3.cookie.a S3.cookie.n S3.cookie.c, .slice S3.proof.a S3.proof.n S3.proof.c, .int .i64 R.epoch, .int .i64 R.seq, .slice S3.body.a S3.body.n S3.body.c, .slice S3.tag.a S3.tag.n S3.tag.c] 27) = x5 := ⟨_, rfl⟩
  have HW5 := hid (hx5)
  have b5 : Below x4.heap.size x4 x5 := by rw [← hx5]; exact (Below.refl _ _).alloc (Nat.le_refl _) _
  have KN : Blk x5 x4.heap.size 27 [.int .i64 R.kind, .int .i64 R.id, .slice S3.cn.a S3.cn.n S3.cn.c, .slice S3.sn.a S3.sn.n S3.sn.c, .int .i64 R.tick, .slice S3.cookie.a S3.cookie.n S3.cookie.c, .slice S3.proof.a S3.proof.n S3.proof.c, .int .i64 R.epoch, .int .i64 R.seq, .slice S3.body.a S3.body.n S3.body.c, .slice S3.tag.a S3.tag.n S3.tag.c] := by rw [← hx5]; exact Blk.new x4 _ _
  have HSZ5 : Hid (x5.heap.size = x4.heap.size + 1) := by rw [← hx5]; show _ = _; simp
  clear hx5
  have L5 := hid (b5.size)
  have B5 := hid (B4.out.trans (b5.mono B4.out.size))
  have KA5 := hid (KA4.out.later b5)
  have KO5 := hid (KO4.out.later b5)
  have KH5 := hid (KH4.out.later b5)
  have O25 := hid (O24.out.later b5)
  have KN5 := hid (KN4.out.later b5)
  have O35 := hid (O34.out.later b5)
  clear b5 B4 KA4 KO4 KH4 O24 KN4 O34
  unfold frV
  go_upto_region 3 with fail
  rw [HW5.out]
  obtain ⟨gf, hgf⟩ : ∃ g, x4.heap.size = g := ⟨_, rfl⟩
  have Ggf : Hid (x4.heap.size = gf ∧ x5.heap.size = gf + 1) := ⟨hgf, by rw [← hgf]; exact HSZ5.out⟩
  rw [hgf] at KN ⊢
  clear HW5 HSZ5 hgf
  have KG5 := hid (KN)
  clear KN
  obtain ⟨cn0, cn1, cn2, cn3, cn4⟩ := cells5 KN5.out
  go_upto_region 5 with fail
  clear cn0 cn1 cn2 cn3 cn4
  have co := KN5.out.cell 2 rfl
  have fo := KN5.out.frozen 2
  obtain ⟨x6, hx6⟩ : ∃ x6, x5.setCell ⟨gn, 2, none⟩ (.int .i64 (D.seq + 1)) = x6 := ⟨_, rfl⟩
  have HW6 := hid (hx6)
  have L6 : Hid (x6.heap.size = x5.heap.size) := by rw [← hx6]; show _ = _; simp
  have B6 : Hid (Below w.heap.size w x6) := by rw [← hx6]; exact B5.out.setCell (by show _ ≤ gn; have := hid8 L1 Gga L2 L3 Ggn L4 L5 Ggf; omega) _
  have KA6 : Hid (Blk x6 ga 41 [.int .i64 D.n, .slice S.key.a S.key.n S.key.c, .int .i64 D.seq, .int .i64 D.win.top, .slice S.win.bits.a S.win.bits.n S.win.bits.c]) := by rw [← hx6]; exact KA5.out.other (by show ga ≠ gn; have := hid8 L1 Gga L2 L3 Ggn L4 L5 Ggf; omega) _
  have KO6 : Hid (Blk x6 go 41 [.int .i64 0, .slice none 0 0, .int .i64 0, .int .i64 0, .slice none 0 0]) := by rw [← hx6]; exact KO5.out.other (by show go ≠ gn; have := hid8 L1 Gga L2 L3 Ggn L4 L5 Ggf; omega) _
  have KH6 : Hid (Blk x6 gh 27 [.int .i64 0, .int .i64 0, .slice none 0 0, .slice none 0 0, .int .i64 0, .slice none 0 0, .slice none 0 0, .int .i64 0, .int .i64 0, .slice none 0 0, .slice none 0 0]) := by rw [← hx6]; exact KH5.out.other (by show gh ≠ gn; have := hid8 L1 Gga L2 L3 Ggn L4 L5 Ggf; omega) _
  have O26 : Hid (EpOwn x6 x1.heap.size x2.heap.size S2 D) := by rw [← hx6]; exact O25.out.carry (Kept.setCell _ _ _ _) (by have := hid8 L1 Gga L2 L3 Ggn L4 L5 Ggf; omega)
  have KN6 : Hid (Blk x6 gn 41 [.int .i64 D.n, .slice S2.key.a S2.key.n S2.key.c, .int .i64 (D.seq + 1), .int .i64 D.win.top, .slice S2.win.bits.a S2.win.bits.n S2.win.bits.c]) := by rw [← hx6]; exact KN5.out.set 2 _ (by simp [maxLen])
  have O36 : Hid (FrOwn x6 x3.heap.size x4.heap.size S3 R) := by rw [← hx6]; exact O35.out.carry (Kept.setCell _ _ _ _) (by have := hid8 L1 Gga L2 L3 Ggn L4 L5 Ggf; omega)
  have KG6 : Hid (Blk x6 gf 27 [.int .i64 R.kind, .int .i64 R.id, .slice S3.cn.a S3.cn.n S3.cn.c, .slice S3.sn.a S3.sn.n S3.sn.c, .int .i64 R.tick, .slice S3.cookie.a S3.cookie.n S3.cookie.c, .slice S3.proof.a S3.proof.n S3.proof.c, .int .i64 R.epoch, .int .i64 R.seq, .slice S3.body.a S3.body.n S3.body.c, .slice S3.tag.a S3.tag.n S3.tag.c]) := by rw [← hx6]; exact KG5.out.other (by show gf ≠ gn; have := hid8 L1 Gga L2 L3 Ggn L4 L5 Ggf; omega) _
  clear hx6 B5 KA5 KO5 KH5 O25 KN5 O35 KG5
  go_upto_region 6 with fail
  rw [HW6.out]
  clear HW6 co fo
  obtain ⟨sq, hsq⟩ : ∃ z, D.seq + 1 = z := ⟨_, rfl⟩
  have HSQ : Hid (D.seq + 1 = sq) := hsq
  rw [hsq] at KN6
  clear hsq hq0 hq1
  go_upto_region 6 with fail
  have NEH : gh ≠ go := by have := hid8 L1 Gga L2 L3 Ggn L4 L5 Ggf; have := L6.out; omega
  have NNO : gn ≠ go := by have := hid8 L1 Gga L2 L3 Ggn L4 L5 Ggf; have := L6.out; omega
  have NNH : gn ≠ gh := by have := hid8 L1 Gga L2 L3 Ggn L4 L5 Ggf; have := L6.out; omega
  have NFO : gf ≠ go := by have := hid8 L1 Gga L2 L3 Ggn L4 L5 Ggf; have := L6.out; omega
  have NFH : gf ≠ gh := by have := hid8 L1 Gga L2 L3 Ggn L4 L5 Ggf; have := L6.out; omega
  have xe0 := hide ((drewB KN6.out).cell 0 rfl)
  have xe1 := hide ((drewB KN6.out).cell 1 rfl)
  have xe2 := hide ((drewB KN6.out).cell 2 rfl)
  have xe3 := hide ((drewB KN6.out).cell 3 rfl)
  have xe4 := hide ((drewB KN6.out).cell 4 rfl)
  have xf0 := hide ((drewB KG6.out).cell 0 rfl)
  have xf1 := hide ((drewB KG6.out).cell 1 rfl)
  have xf2 := hide ((drewB KG6.out).cell 2 rfl)
  have xf3 := hide ((drewB KG6.out).cell 3 rfl)
  have xf4 := hide ((drewB KG6.out).cell 4 rfl)
  have xf5 := hide ((drewB KG6.out).cell 5 rfl)
  have xf6 := hide ((drewB KG6.out).cell 6 rfl)
  have xf7 := hide ((drewB KG6.out).cell 7 rfl)
  have xf8 := hide ((drewB KG6.out).cell 8 rfl)
  have xf9 := hide ((drewB KG6.out).cell 9 rfl)
  have xf10 := hide ((drewB KG6.out).cell 10 rfl)
  obtain ⟨vo0, vo1, vo2, vo3, vo4⟩ := cells5 KO6.out
  obtain ⟨vp0, vp1, vp2, vp3, vp4⟩ := froz5 KO6.out
  obtain ⟨vh0, vh1, vh2, vh3, vh4, vh5, vh6, vh7, vh8, vh9, vh10⟩ := cells11 KH6.out
  obtain ⟨vg0, vg1, vg2, vg3, vg4, vg5, vg6, vg7, vg8, vg9, vg10⟩ := froz11 KH6.out
  obtain ⟨ze0, ze1, ze2, ze3, ze4⟩ := cells5 KN6.out
  obtain ⟨zf0, zf1, zf2, zf3, zf4, zf5, zf6, zf7, zf8, zf9, zf10⟩ := cells11 KG6.out
  obtain ⟨zo0, zo1, zo2, zo3, zo4⟩ := cells5 KO6.out
  obtain ⟨zp0, zp1, zp2, zp3, zp4⟩ := froz5 KO6.out
  have zH := ep_other KH6.out NEH (.int .i64 D.n) (.slice S2.key.a S2.key.n S2.key.c) (.int .i64 sq) (.int .i64 D.win.top) (.slice S2.win.bits.a S2.win.bits.n S2.win.bits.c)
  have zN := ep_other KN6.out NNO (.int .i64 D.n) (.slice S2.key.a S2.key.n S2.key.c) (.int .i64 sq) (.int .i64 D.win.top) (.slice S2.win.bits.a S2.win.bits.n S2.win.bits.c)
  have zG := ep_other KG6.out NFO (.int .i64 D.n) (.slice S2.key.a S2.key.n S2.key.c) (.int .i64 sq) (.int .i64 D.win.top) (.slice S2.win.bits.a S2.win.bits.n S2.win.bits.c)
  obtain ⟨zh0, zh1, zh2, zh3, zh4, zh5, zh6, zh7, zh8, zh9, zh10⟩ := cells11 zH
  obtain ⟨zg0, zg1, zg2, zg3, zg4, zg5, zg6, zg7, zg8, zg9, zg10⟩ := froz11 zH
  have zm0 := hide ((drewB zN).cell 0 rfl)
  have zm1 := hide ((drewB zN).cell 1 rfl)
  have zm2 := hide ((drewB zN).cell 2 rfl)
  have zm3 := hide ((drewB zN).cell 3 rfl)
  have zm4 := hide ((drewB zN).cell 4 rfl)
  have zn0 := hide ((drewB zG).cell 0 rfl)
  have zn1 := hide ((drewB zG).cell 1 rfl)
  have zn2 := hide ((drewB zG).cell 2 rfl)
  have zn3 := hide ((drewB zG).cell 3 rfl)
  have zn4 := hide ((drewB zG).cell 4 rfl)
  have zn5 := hide ((drewB zG).cell 5 rfl)
  have zn6 := hide ((drewB zG).cell 6 rfl)
  have zn7 := hide ((drewB zG).cell 7 rfl)
  have zn8 := hide ((drewB zG).cell 8 rfl)
  have zn9 := hide ((drewB zG).cell 9 rfl)
  have zn10 := hide ((drewB zG).cell 10 rfl)
  have zM := fr_other zN NNH (.int .i64 R.kind) (.int .i64 R.id) (.slice S3.cn.a S3.cn.n S3.cn.c) (.slice S3.sn.a S3.sn.n S3.sn.c) (.int .i64 R.tick) (.slice S3.cookie.a S3.cookie.n S3.cookie.c) (.slice S3.proof.a S3.proof.n S3.proof.c) (.int .i64 R.epoch) (.int .i64 R.seq) (.slice S3.body.a S3.body.n S3.body.c) (.slice S3.tag.a S3.tag.n S3.tag.c)
  have zK := fr_other zG NFH (.int .i64 R.kind) (.int .i64 R.id) (.slice S3.cn.a S3.cn.n S3.cn.c) (.slice S3.sn.a S3.sn.n S3.sn.c) (.int .i64 R.tick) (.slice S3.cookie.a S3.cookie.n S3.cookie.c) (.slice S3.proof.a S3.proof.n S3.proof.c) (.int .i64 R.epoch) (.int .i64 R.seq) (.slice S3.body.a S3.body.n S3.body.c) (.slice S3.tag.a S3.tag.n S3.tag.c)
  have zr0 := hide ((drewB zM).cell 0 rfl)
  have zr1 := hide ((drewB zM).cell 1 rfl)
  have zr2 := hide ((drewB zM).cell 2 rfl)
  have zr3 := hide ((drewB zM).cell 3 rfl)
  have zr4 := hide ((drewB zM).cell 4 rfl)
  have zs0 := hide ((drewB zK).cell 0 rfl)
  have zs1 := hide ((drewB zK).cell 1 rfl)
  have zs2 := hide ((drewB zK).cell 2 rfl)
  have zs3 := hide ((drewB zK).cell 3 rfl)
  have zs4 := hide ((drewB zK).cell 4 rfl)
  have zs5 := hide ((drewB zK).cell 5 rfl)
  have zs6 := hide ((drewB zK).cell 6 rfl)
  have zs7 := hide ((drewB zK).cell 7 rfl)
  have zs8 := hide ((drewB zK).cell 8 rfl)
  have zs9 := hide ((drewB zK).cell 9 rfl)
  have zs10 := hide ((drewB zK).cell 10 rfl)
  clear zH zN zM zG zK
  clear zo0 zp0 zo1 zp1 zo2 zp2 zo3 zp3 zo4 zp4 zh0 zg0 zh1 zg1 zh2 zg2 zh3 zg3 zh4 zg4 zh5 zg5 zh6 zg6 zh7 zg7 zh8 zg8 zh9 zg9 zh10 zg10
  go_region_held3 (fun w' => w'.cell? ⟨gn, 0, none⟩ = some (.int .i64 D.n) ∧ w'.cell? ⟨gn, 1, none⟩ = some (.slice S2.key.a S2.key.n S2.key.c) ∧ w'.cell? ⟨gn, 2, none⟩ = some (.int .i64 sq) ∧ w'.cell? ⟨gn, 3, none⟩ = some (.int .i64 D.win.top) ∧ w'.cell? ⟨gn, 4, none⟩ = some (.slice S2.win.bits.a S2.win.bits.n S2.win.bits.c) ∧ w'.cell? ⟨gf, 0, none⟩ = some (.int .i64 R.kind) ∧ w'.cell? ⟨gf, 1, none⟩ = some (.int .i64 R.id) ∧ w'.cell? ⟨gf, 2, none⟩ = some (.slice S3.cn.a S3.cn.n S3.cn.c) ∧ w'.cell? ⟨gf, 3, none⟩ = some (.slice S3.sn.a S3.sn.n S3.sn.c) ∧ w'.cell? ⟨gf, 4, none⟩ = some (.int .i64 R.tick) ∧ w'.cell? ⟨gf, 5, none⟩ = some (.slice S3.cookie.a S3.cookie.n S3.cookie.c) ∧ w'.cell? ⟨gf, 6, none⟩ = some (.slice S3.proof.a S3.proof.n S3.proof.c) ∧ w'.cell? ⟨gf, 7, none⟩ = some (.int .i64 R.epoch) ∧ w'.cell? ⟨gf, 8, none⟩ = some (.int .i64 R.seq) ∧ w'.cell? ⟨gf, 9, none⟩ = some (.slice S3.body.a S3.body.n S3.body.c) ∧ w'.cell? ⟨gf, 10, none⟩ = some (.slice S3.tag.a S3.tag.n S3.tag.c)) (first | with_reducible exact ⟨zr0.out, zr1.out, zr2.out, zr3.out, zr4.out, zs0.out, zs1.out, zs2.out, zs3.out, zs4.out, zs5.out, zs6.out, zs7.out, zs8.out, zs9.out, zs10.out⟩ | with_reducible exact ⟨zm0.out, zm1.out, zm2.out, zm3.out, zm4.out, zn0.out, zn1.out, zn2.out, zn3.out, zn4.out, zn5.out, zn6.out, zn7.out, zn8.out, zn9.out, zn10.out⟩ | with_reducible exact ⟨ze0, ze1, ze2, ze3, ze4, zf0, zf1, zf2, zf3, zf4, zf5, zf6, zf7, zf8, zf9, zf10⟩ | with_reducible exact ⟨xe0.out, xe1.out, xe2.out, xe3.out, xe4.out, xf0.out, xf1.out, xf2.out, xf3.out, xf4.out, xf5.out, xf6.out, xf7.out, xf8.out, xf9.out, xf10.out⟩ | go_keep) (fail)
  clear ze0 zm0 zr0 vo0 vp0 ze1 zm1 zr1 vo1 vp1 ze2 zm2 zr2 vo2 vp2 ze3 zm3 zr3 vo3 vp3 ze4 zm4 zr4 vo4 vp4 zf0 zn0 zs0 vh0 vg0 zf1 zn1 zs1 vh1 vg1 zf2 zn2 zs2 vh2 vg2 zf3 zn3 zs3 vh3 vg3 zf4 zn4 zs4 vh4 vg4 zf5 zn5 zs5 vh5 vg5 zf6 zn6 zs6 vh6 vg6 zf7 zn7 zs7 vh7 vg7 zf8 zn8 zs8 vh8 vg8 zf9 zn9 zs9 vh9 vg9 zf10 zn10 zs10 vh10 vg10 xe0 xe1 xe2 xe3 xe4 xf0 xf1 xf2 xf3 xf4 xf5 xf6 xf7 xf8 xf9 xf10
  go_wp2
  obtain rfl := HSQ.out
  have SZF : Hid (w.heap.size ≤ x1.heap.size ∧ x1.heap.size ≤ x2.heap.size ∧ gh + 1 ≤ x1.heap.size ∧ x2.heap.size ≤ x6.heap.size ∧ w.heap.size + 1 = go ∧ go + 1 = gh ∧ x2.heap.size ≤ x3.heap.size ∧ x3.heap.size ≤ x4.heap.size ∧ x4.heap.size ≤ x6.heap.size) := by have := hid8 L1 Gga L2 L3 Ggn L4 L5 Ggf; have := L6.out; show _ ∧ _; omega
  obtain ⟨k1, k2, k3⟩ := ep_stored (D := { D with seq := D.seq + 1 }) (S := S2) (lo := x1.heap.size) (hi := x2.heap.size) KO6.out O26.out (.inl (by have := SZF.out; omega))
  have KHt := ep_other KH6.out (show gh ≠ go by have := SZF.out; omega) (.int .i64 D.n) (.slice S2.key.a S2.key.n S2.key.c) (.int .i64 (D.seq + 1)) (.int .i64 D.win.top) (.slice S2.win.bits.a S2.win.bits.n S2.win.bits.c)
  obtain ⟨f1, f2, f3⟩ := fr_stored (D := R) (S := S3) KHt (O36.out.carry (ep_kept _ go (.int .i64 D.n) (.slice S2.key.a S2.key.n S2.key.c) (.int .i64 (D.seq + 1)) (.int .i64 D.win.top) (.slice S2.win.bits.a S2.win.bits.n S2.win.bits.c)) (.inr (by have := SZF.out; omega))) (.inl (by have := SZF.out; omega))
  have k4 := fr_other k1 (show go ≠ gh by have := SZF.out; omega) (.int .i64 R.kind) (.int .i64 R.id) (.slice S3.cn.a S3.cn.n S3.cn.c) (.slice S3.sn.a S3.sn.n S3.sn.c) (.int .i64 R.tick) (.slice S3.cookie.a S3.cookie.n S3.cookie.c) (.slice S3.proof.a S3.proof.n S3.proof.c) (.int .i64 R.epoch) (.int .i64 R.seq) (.slice S3.body.a S3.body.n S3.body.c) (.slice S3.tag.a S3.tag.n S3.tag.c)
  refine bodyPost_ret (v := .tuple #[epV ({ D with seq := D.seq + 1 }) S2, frV R S3, .int .i64 0]) (res3 rfl (is_cell rfl (drewB k4) aggEp) (is_cell rfl (drewB f1) aggFr) (is_tmp rfl)) rfl ⟨S2, S3, x1.heap.size, x2.heap.size, x3.heap.size, x4.heap.size, rfl, ?_, ?_, ?_, ?_⟩
  ·
   exact (k2.carry (fr_kept _ _ _ _ _ _ _ _ _ _ _ _ _) (.inr (by have := SZF.out; omega))).later ((Below.refl _ _).drew)
  ·
   exact f2.later ((Below.refl _ _).drew)
  ·
   rw [drew_size, fr_size, ep_size]; have := SZF.out; omega
  ·
   exact (f3 _ _ (by have := SZF.out; omega) (k3 _ _ (by have := SZF.out; omega) B6.out)).drew
end Go.Proofs.YtmcflfpckpjphaaGreatDoor.EpK

/-
  What impl's openOnce answers.
-/
import Derived.Test.YtmcflfpckpjphaaGreatDoorVdEpJ
import Derived.Test.YtmcflfpckpjphaaGreatDoorVdUnsI
set_option maxRecDepth 100000
namespace Go.Proofs.YtmcflfpckpjphaaGreatDoor.EpO
open Go.RowKit Mem App Blk Words Zone ZoneI Res Comp WnZ WinP WnK WnG FrZ FrL FrP FrG FrQ FrQ2 SlP SlQ Shp EpZ EpL EpP EpQ Each Copy Ops Guard SlI EpI EpJ UnsI
noncomputable def eoW (E : EpD) (role : Int) (D : FrD) : WnD := if eoCode E role D = 0 then addD E.win D.seq else ⟨0, []⟩
theorem eoW_no {E : EpD} {role : Int} {D : FrD} (h : eoCode E role D ≠ 0) : eoW E role D = ⟨0, []⟩ := by unfold eoW; rw [if_neg h]
theorem eoW_yes {E : EpD} {role : Int} {D : FrD} (h : eoCode E role D = 0) : eoW E role D = addD E.win D.seq := by unfold eoW; rw [if_pos h]
def AnsO (E : EpD) (role : Int) (D : FrD) (w : World) : Ending → World → Prop := fun e w' => ∃ S0 S1 p0 q0 p1 q1, e = .returned (.tuple #[wnV (eoW E role D) S0, .slice S1.a S1.n S1.c, errV (eoCode E role D)]) ∧ WnOwn w' p0 q0 S0 (eoW E role D) ∧ SOwn w' p1 q1 S1 (eoL E role D) ∧ (w.heap.size ≤ p0 ∧ p0 ≤ q0 ∧ q0 ≤ p1 ∧ p1 ≤ q1 ∧ q1 ≤ w'.heap.size) ∧ Below w.heap.size w w'
def AnsP (Q : EpD) (R : List Int) (c : Int) (w : World) : Ending → World → Prop := fun e w' => ∃ S0 S1 p0 q0 p1 q1, e = .returned (.tuple #[epV Q S0, .slice S1.a S1.n S1.c, .int .i64 c]) ∧ EpOwn w' p0 q0 S0 Q ∧ SOwn w' p1 q1 S1 R ∧ (w.heap.size ≤ p0 ∧ q0 ≤ w'.heap.size ∧ w.heap.size ≤ p1 ∧ q1 ≤ w'.heap.size ∧ (q0 ≤ p1 ∨ q1 ≤ p0)) ∧ Below w.heap.size w w'
theorem own_new (x : World) : SOwn (x.alloc (.cells #[] 5)) x.heap.size (x.heap.size + 1) ⟨some ⟨x.heap.size, 0, none⟩, 0, 0⟩ [] :=
 SOwn.row ⟨Nat.le_refl _, by unfold maxLen; omega, #[], heap_alloc_new x _, rfl, rfl⟩ rfl (fun z hz => by cases hz) (Nat.le_refl _) (by omega)
theorem with_win {w : World} {lo hi lo' hi' : Nat} {S : EpS} {D : EpD} {S' : WnS} {W : WnD} (h : EpOwn w lo hi S D) (k : WnOwn w lo' hi' S' W) (d : hi ≤ lo') (e : lo' ≤ hi') (f : lo ≤ hi) : EpOwn w lo hi' ⟨S.key, S'⟩ { D with win := W } := by
 obtain ⟨a0, b0, a1, b1, o0, o1, z⟩ := h
 exact ⟨a0, b0, lo', hi', o0, k, by omega⟩
theorem new_size (x : World) : (x.alloc (.cells #[] 5)).heap.size = x.heap.size + 1 := by simp
theorem eoForm_1 {E : EpD} {role : Int} {D : FrD} (h : epOk E = false) : eoForm E role D = false := by unfold eoForm; rw [h]; rfl
theorem eoForm_2 {E : EpD} {role : Int} {D : FrD} (h : canTag role D = false) : eoForm E role D = false := by unfold eoForm; rw [h]; simp
theorem eoForm_3 {E : EpD} {role : Int} {D : FrD} (h : (D.epoch == E.n) = false) : eoForm E role D = false := by unfold eoForm; rw [h]; simp
theorem eoForm_y {E : EpD} {role : Int} {D : FrD} (h1 : epOk E = true) (h2 : canTag role D = true) (h3 : (D.epoch == E.n) = true) : eoForm E role D = true := by unfold eoForm; rw [h1, h2, h3]; rfl
set_option maxHeartbeats 8000000 in
theorem openOnce (S : EpS) (D : EpD) (SF : FrS) (DF : FrD) (role : Int) (w : World) (hT : Tab w) (h : EpRd w S D) (hl : EpShort D 4194304) (hf : FrRd w SF DF) :
  Calls Tryz.prog 82 #[epV D S, .int .i64 role, frV DF SF] w (AnsO D role DF w) := by
 have HR := hid (h)
 have HL := hid (hl)
 have HF := hid (hf)
 have HT := hid (hT)
 clear h hl hf hT
 obtain ⟨c, hc⟩ : ∃ c, eoCode D role DF = c := ⟨_, rfl⟩
 have HC : Hid (eoCode D role DF = c) := hc
 obtain ⟨R, hR⟩ : ∃ R, eoL D role DF = R := ⟨_, rfl⟩
 have HRR : Hid (eoL D role DF = R) := hR
 obtain ⟨Q, hQ⟩ : ∃ Q, eoW D role DF = Q := ⟨_, rfl⟩
 have HRQ : Hid (eoW D role DF = Q) := hQ
 unfold AnsO
 rw [hc, hR, hQ]
 clear hc hR hQ
 obtain ⟨x1, hx1⟩ : ∃ x1, ((w.alloc (.cells #[.int .i64 D.n, .slice S.key.a S.key.n S.key.c, .int .i64 D.seq, .int .i64 D.win.top, .slice S.win.bits.a S.win.bits.n S.win.bits.c] 41)).alloc (.cells #[.int .i64 DF.kind, .int .i64 DF.id, .slice SF.cn.a SF.cn.n SF.cn.c, .slice SF.sn.a SF.sn.n SF.sn.c, .int .i64 DF.tick, .slice SF.cookie.a SF.cookie.n SF.cookie.c, .slice SF.proof.a SF.proof.n SF.proof.c, .int .i64 DF.epoch, .int .i64 DF.seq, .slice SF.body.a SF.body.n SF.body.c, .slice SF.tag.a SF.tag.n SF.tag.c] 27)).alloc (.cells #[.int .i64 0, .slice none 0 0] 39) = x1 := ⟨_, rfl⟩
 have HW0 := hid (hx1)
 have b1 : Below w.heap.size w x1 := by rw [← hx1]; exact (((Below.refl _ _).alloc (Nat.le_refl _) _).alloc (by simp) _).alloc (by simp; omega) _
 have KNa : Blk x1 w.heap.size 41 [.int .i64 D.n, .slice S.key.a S.key.n S.key.c, .int .i64 D.seq, .int .i64 D.win.top, .slice S.win.bits.a S.win.bits.n S.win.bits.c] := by rw [← hx1]; exact ((Blk.new w _ _).alloc _).alloc _
 have KNf : Blk x1 (w.heap.size + 1) 27 [.int .i64 DF.kind, .int .i64 DF.id, .slice SF.cn.a SF.cn.n SF.cn.c, .slice SF.sn.a SF.sn.n SF.sn.c, .int .i64 DF.tick, .slice SF.cookie.a SF.cookie.n SF.cookie.c, .slice SF.proof.a SF.proof.n SF.proof.c, .int .i64 DF.epoch, .int .i64 DF.seq, .slice SF.body.a SF.body.n SF.body.c, .slice SF.tag.a SF.tag.n SF.tag.c] := by
  have q := Blk.new (w.alloc (.cells #[.int .i64 D.n, .slice S.key.a S.key.n S.key.c, .int .i64 D.seq, .int .i64 D.win.top, .slice S.win.bits.a S.win.bits.n S.win.bits.c] 41)) 27 [.int .i64 DF.kind, .int .i64 DF.id, .slice SF.cn.a SF.cn.n SF.cn.c, .slice SF.sn.a SF.sn.n SF.sn.c, .int .i64 DF.tick, .slice SF.cookie.a SF.cookie.n SF.cookie.c, .slice SF.proof.a SF.proof.n SF.proof.c, .int .i64 DF.epoch, .int .i64 DF.seq, .slice SF.body.a SF.body.n SF.body.c, .slice SF.tag.a SF.tag.n SF.tag.c]
  rw [World.size_alloc] at q
  rw [← hx1]; exact q.alloc _
 have KNo : Blk x1 (w.heap.size + 1 + 1) 39 [.int .i64 0, .slice none 0 0] := by
  have q := Blk.new ((w.alloc (.cells #[.int .i64 D.n, .slice S.key.a S.key.n S.key.c, .int .i64 D.seq, .int .i64 D.win.top, .slice S.win.bits.a S.win.bits.n S.win.bits.c] 41)).alloc (.cells #[.int .i64 DF.kind, .int .i64 DF.id, .slice SF.cn.a SF.cn.n SF.cn.c, .slice SF.sn.a SF.sn.n SF.sn.c, .int .i64 DF.tick, .slice SF.cookie.a SF.cookie.n SF.cookie.c, .slice SF.proof.a SF.proof.n SF.proof.c, .int .i64 DF.epoch, .int .i64 DF.seq, .slice SF.body.a SF.body.n SF.body.c, .slice SF.tag.a SF.tag.n SF.tag.c] 27)) 39 [.int .i64 0, .slice none 0 0]
  rw [World.size_alloc, World.size_alloc] at q
  rw [← hx1]; exact q
 have SZ1 : x1.heap.size = w.heap.size + 3 := by rw [← hx1]; simp
 clear hx1
 have L1 := hid (b1.size)
 have B1 := hid (b1)
 clear b1
 unfold epV frV
 go_enter Tryz.func82, Tryz.ntmps82
 go_upto_region 1 with fail
 rw [HW0.out]
 obtain ⟨ga, hga⟩ : ∃ g, w.heap.size = g := ⟨_, rfl⟩
 obtain ⟨gf, hgf⟩ : ∃ g, w.heap.size + 1 = g := ⟨_, rfl⟩
 obtain ⟨go, hgo⟩ : ∃ g, w.heap.size + 1 + 1 = g := ⟨_, rfl⟩
 have Gga : Hid (w.heap.size = ga ∧ ga + 1 = gf ∧ gf + 1 = go ∧ x1.heap.size = ga + 3) := ⟨hga, by omega, by omega, by omega⟩
 rw [hga] at KNa
 rw [hgf] at KNf
 rw [hgo] at KNo
 rw [hgo, hgf, hga]
 clear HW0 SZ1 hga hgf hgo
 have KA1 := hid (KNa)
 have KF1 := hid (KNf)
 have KO1 := hid (KNo)
 clear KNa KNf KNo
 obtain ⟨d0, d1, d2, d3, d4⟩ := cells5 KA1.out
 go_wp2_with fail
 refine (implEpOk S D x1 (HR.out.later B1.out)).mono ?_
 rintro e x2 ⟨rfl, b⟩
 have L2 := hid (b.size)
 have B2 := hid (B1.out.trans (b.mono B1.out.size))
 have KA2 := hid (KA1.out.later b)
 have KF2 := hid (KF1.out.later b)
 have KO2 := hid (KO1.out.later b)
 clear b B1 KA1 KF1 KO1
 clear d0 d1 d2 d3 d4
 cases h0 : epOk D with
 | false =>
  obtain rfl : c = 1 := by rw [← HC.out]; exact eo_1 (eoForm_1 h0)
  obtain rfl : R = [] := by rw [← HRR.out]; exact eoL_no (by rw [HC.out]; decide)
  obtain rfl : Q = ⟨0, []⟩ := by rw [← HRQ.out]; exact eoW_no (by rw [HC.out]; decide)
  have KX : Hid (Blk (x2.alloc (.cells #[] 5)) go 39 [.int .i64 0, .slice none 0 0]) := KO2.out.alloc _
  have co0 := KO2.out.cell 0 rfl
  have co1 := KO2.out.cell 1 rfl
  have cp0 := KX.out.cell 0 rfl
  have cp1 := KX.out.cell 1 rfl
  have fo0 := KX.out.frozen 0
  have fo1 := KX.out.frozen 1
  go_wp2
  have SZX : go + 1 ≤ x2.heap.size := KO2.out.lt
  obtain ⟨k1, k2, k3⟩ := WnK.stored (D := ⟨0, []⟩) (S := ⟨⟨none, 0, 0⟩⟩) (lo := x2.heap.size + 1) (hi := x2.heap.size + 1) KX.out ⟨ISOwn.nil _ _ _, ⟨⟩⟩ (by omega)
  refine bodyPost_ret (v := .tuple #[wnV ⟨0, []⟩ ⟨⟨none, 0, 0⟩⟩, .slice (some ⟨x2.heap.size, 0, none⟩) 0 0, .iface 145 (.agg #[.int .i64 1])]) (res3 rfl (is_cell rfl k1 aggWn) (is_tmp rfl) (is_tmp rfl)) rfl ⟨⟨⟨none, 0, 0⟩⟩, ⟨some ⟨x2.heap.size, 0, none⟩, 0, 0⟩, w.heap.size, w.heap.size, x2.heap.size, x2.heap.size + 1, rfl, ⟨ISOwn.nil _ _ _, ⟨⟩⟩, ?_, ?_, k3 _ _ (by have := Gga.out; omega) (B2.out.alloc B2.out.size _)⟩
  ·
   exact ((own_new x2).carry (Kept.setCell _ _ _ _) (.inr (by omega))).carry (Kept.setCell _ _ _ _) (.inr (by omega))
  ·
   rw [size2, new_size]; have := Gga.out; omega
 | true =>
  obtain ⟨d0, d1, d2, d3, d4, d5, d6, d7, d8, d9, d10⟩ := cells11 KF2.out
  go_wp2_with fail
  refine (implCanTag role SF DF x2 (HF.out.later B2.out)).mono ?_
  rintro e x3 ⟨rfl, b⟩
  have L3 := hid (b.size)
  have B3 := hid (B2.out.trans (b.mono B2.out.size))
  have KA3 := hid (KA2.out.later b)
  have KF3 := hid (KF2.out.later b)
  have KO3 := hid (KO2.out.later b)
  clear b B2 KA2 KF2 KO2
  clear d0 d1 d2 d3 d4 d5 d6 d7 d8 d9 d10
  cases h1 : canTag role DF with
  | false =>
   obtain rfl : c = 1 := by rw [← HC.out]; exact eo_1 (eoForm_2 h1)
   obtain rfl : R = [] := by rw [← HRR.out]; exact eoL_no (by rw [HC.out]; decide)
   obtain rfl : Q = ⟨0, []⟩ := by rw [← HRQ.out]; exact eoW_no (by rw [HC.out]; decide)
   have KX : Hid (Blk (x3.alloc (.cells #[] 5)) go 39 [.int .i64 0, .slice none 0 0]) := KO3.out.alloc _
   have co0 := KO3.out.cell 0 rfl
   have co1 := KO3.out.cell 1 rfl
   have cp0 := KX.out.cell 0 rfl
   have cp1 := KX.out.cell 1 rfl
   have fo0 := KX.out.frozen 0
   have fo1 := KX.out.frozen 1
   go_wp2
   have SZX : go + 1 ≤ x3.heap.size := KO3.out.lt
   obtain ⟨k1, k2, k3⟩ := WnK.stored (D := ⟨0, []⟩) (S := ⟨⟨none, 0, 0⟩⟩) (lo := x3.heap.size + 1) (hi := x3.heap.size + 1) KX.out ⟨ISOwn.nil _ _ _, ⟨⟩⟩ (by omega)
   refine bodyPost_ret (v := .tuple #[wnV ⟨0, []⟩ ⟨⟨none, 0, 0⟩⟩, .slice (some ⟨x3.heap.size, 0, none⟩) 0 0, .iface 145 (.agg #[.int .i64 1])]) (res3 rfl (is_cell rfl k1 aggWn) (is_tmp rfl) (is_tmp rfl)) rfl ⟨⟨⟨none, 0, 0⟩⟩, ⟨some ⟨x3.heap.size, 0, none⟩, 0, 0⟩, w.heap.size, w.heap.size, x3.heap.size, x3.heap.size + 1, rfl, ⟨ISOwn.nil _ _ _, ⟨⟩⟩, ?_, ?_, k3 _ _ (by have := Gga.out; omega) (B3.out.alloc B3.out.size _)⟩
   ·
    exact ((own_new x3).carry (Kept.setCell _ _ _ _) (.inr (by omega))).carry (Kept.setCell _ _ _ _) (.inr (by omega))
   ·
    rw [size2, new_size]; have := Gga.out; omega
  | true =>
   have d0 := KA3.out.cell 0 rfl
   have d7 := KF3.out.cell 7 rfl
   cases h2 : (DF.epoch == D.n) with
   | false =>
    have hne : (DF.epoch != D.n) = true := by simpa using h2
    obtain rfl : c = 1 := by rw [← HC.out]; exact eo_1 (eoForm_3 h2)
    obtain rfl : R = [] := by rw [← HRR.out]; exact eoL_no (by rw [HC.out]; decide)
    obtain rfl : Q = ⟨0, []⟩ := by rw [← HRQ.out]; exact eoW_no (by rw [HC.out]; decide)
    have KX : Hid (Blk (x3.alloc (.cells #[] 5)) go 39 [.int .i64 0, .slice none 0 0]) := KO3.out.alloc _
    have co0 := KO3.out.cell 0 rfl
    have co1 := KO3.out.cell 1 rfl
    have cp0 := KX.out.cell 0 rfl
    have cp1 := KX.out.cell 1 rfl
    have fo0 := KX.out.frozen 0
    have fo1 := KX.out.frozen 1
    go_wp2
    have SZX : go + 1 ≤ x3.heap.size := KO3.out.lt
    obtain ⟨k1, k2, k3⟩ := WnK.stored (D := ⟨0, []⟩) (S := ⟨⟨none, 0, 0⟩⟩) (lo := x3.heap.size + 1) (hi := x3.heap.size + 1) KX.out ⟨ISOwn.nil _ _ _, ⟨⟩⟩ (by omega)
    refine bodyPost_ret (v := .tuple #[wnV ⟨0, []⟩ ⟨⟨none, 0, 0⟩⟩, .slice (some ⟨x3.heap.size, 0, none⟩) 0 0, .iface 145 (.agg #[.int .i64 1])]) (res3 rfl (is_cell rfl k1 aggWn) (is_tmp rfl) (is_tmp rfl)) rfl ⟨⟨⟨none, 0, 0⟩⟩, ⟨some ⟨x3.heap.size, 0, none⟩, 0, 0⟩, w.heap.size, w.heap.size, x3.heap.size, x3.heap.size + 1, rfl, ⟨ISOwn.nil _ _ _, ⟨⟩⟩, ?_, ?_, k3 _ _ (by have := Gga.out; omega) (B3.out.alloc B3.out.size _)⟩
    ·
     exact ((own_new x3).carry (Kept.setCell _ _ _ _) (.inr (by omega))).carry (Kept.setCell _ _ _ _) (.inr (by omega))
    ·
     rw [size2, new_size]; have := Gga.out; omega
   | true =>
    have hne : (DF.epoch != D.n) = false := by simpa using h2
    have HY : Hid (eoForm D role DF = true) := eoForm_y h0 h1 h2
    have HKL : Hid (D.key.length = 32) := (epOk_parts h0).2.1
    obtain ⟨Wd, hWd⟩ : ∃ Wd, addD D.win DF.seq = Wd := ⟨_, rfl⟩
    have HWD : Hid (addD D.win DF.seq = Wd) := hWd
    obtain ⟨mv, hmv⟩ : ∃ v, winMay D.win.top D.win.bits DF.seq = v := ⟨_, rfl⟩
    have HMV : Hid (winMay D.win.top D.win.bits DF.seq = mv) := hmv
    clear hWd hmv
    have d3 := KA3.out.cell 3 rfl
    have d4 := KA3.out.cell 4 rfl
    have d8 := KF3.out.cell 8 rfl
    go_wp2_with fail
    refine (implWinAdd S.win D.win DF.seq x3 (HR.out.later B3.out).win HL.out.win.bits).mono ?_
    unfold Added
    rw [HWD.out, HMV.out]
    rintro e x4 ⟨S3, rfl, o, b⟩
    clear d0 d7 d3 d4 d8 hne
    have L4 := hid (b.size)
    have B4 := hid (B3.out.trans (b.mono B3.out.size))
    have KA4 := hid (KA3.out.later b)
    have KF4 := hid (KF3.out.later b)
    have KO4 := hid (KO3.out.later b)
    clear b B3 KA3 KF3 KO3
    have O34 := hid (o)
    clear o
    obtain ⟨x5, hx5⟩ : ∃ x5, x4.alloc (.cells #[.int .i64 Wd.top, .slice S3.bits.a S3.bits.n S3.bits.c] 39) = x5 := ⟨_, rfl⟩
    have HW5 := hid (hx5)
    have b5 : Below x4.heap.size x4 x5 := by rw [← hx5]; exact (Below.refl _ _).alloc (Nat.le_refl _) _
    have KN : Blk x5 x4.heap.size 39 [.int .i64 Wd.top, .slice S3.bits.a S3.bits.n S3.bits.c] := by rw [← hx5]; exact Blk.new x4 _ _
    have HSZ5 : Hid (x5.heap.size = x4.heap.size + 1) := by rw [← hx5]; show _ = _; simp
    clear hx5
    have L5 := hid (b5.size)
    have B5 := hid (B4.out.trans (b5.mono B4.out.size))
    have KA5 := hid (KA4.out.later b5)
    have KF5 := hid (KF4.out.later b5)
    have KO5 := hid (KO4.out.later b5)
    have O35 := hid (O34.out.later b5)
    clear b5 B4 KA4 KF4 KO4 O34
    unfold wnV
    go_upto_region 4 with fail
    rw [HW5.out]
    obtain ⟨gw, hgw⟩ : ∃ g, x4.heap.size = g := ⟨_, rfl⟩
    have Ggw : Hid (x4.heap.size = gw ∧ x5.heap.size = gw + 1) := ⟨hgw, by rw [← hgw]; exact HSZ5.out⟩
    rw [hgw] at KN ⊢
    clear HW5 HSZ5 hgw
    have KW5 := hid (KN)
    clear KN
    cases mv with
    | false =>
     obtain rfl : c = 3 := by rw [← HC.out]; exact eo_3 HY.out HMV.out
     obtain rfl : R = [] := by rw [← HRR.out]; exact eoL_no (by rw [HC.out]; decide)
     obtain rfl : Q = ⟨0, []⟩ := by rw [← HRQ.out]; exact eoW_no (by rw [HC.out]; decide)
     have KX : Hid (Blk (x5.alloc (.cells #[] 5)) go 39 [.int .i64 0, .slice none 0 0]) := KO5.out.alloc _
     have co0 := KO5.out.cell 0 rfl
     have co1 := KO5.out.cell 1 rfl
     have cp0 := KX.out.cell 0 rfl
     have cp1 := KX.out.cell 1 rfl
     have fo0 := KX.out.frozen 0
     have fo1 := KX.out.frozen 1
     go_wp2
     have SZX : go + 1 ≤ x5.heap.size := KO5.out.lt
     obtain ⟨k1, k2, k3⟩ := WnK.stored (D := ⟨0, []⟩) (S := ⟨⟨none, 0, 0⟩⟩) (lo := x5.heap.size + 1) (hi := x5.heap.size + 1) KX.out ⟨ISOwn.nil _ _ _, ⟨⟩⟩ (by omega)
     refine bodyPost_ret (v := .tuple #[wnV ⟨0, []⟩ ⟨⟨none, 0, 0⟩⟩, .slice (some ⟨x5.heap.size, 0, none⟩) 0 0, .iface 145 (.agg #[.int .i64 3])]) (res3 rfl (is_cell rfl k1 aggWn) (is_tmp rfl) (is_tmp rfl)) rfl ⟨⟨⟨none, 0, 0⟩⟩, ⟨some ⟨x5.heap.size, 0, none⟩, 0, 0⟩, w.heap.size, w.heap.size, x5.heap.size, x5.heap.size + 1, rfl, ⟨ISOwn.nil _ _ _, ⟨⟩⟩, ?_, ?_, k3 _ _ (by have := Gga.out; omega) (B5.out.alloc B5.out.size _)⟩
     ·
      exact ((own_new x5).carry (Kept.setCell _ _ _ _) (.inr (by omega))).carry (Kept.setCell _ _ _ _) (.inr (by omega))
     ·
      rw [size2, new_size]; have := Gga.out; omega
    | true =>
     obtain ⟨uv, huv⟩ : ∃ v, unsealB D.key role DF = v := ⟨_, rfl⟩
     have HUV : Hid (unsealB D.key role DF = uv) := huv
     obtain ⟨UL, hUL⟩ : ∃ v, unsealL D.key role DF = v := ⟨_, rfl⟩
     have HUL : Hid (unsealL D.key role DF = UL) := hUL
     clear huv hUL
     have d1 := KA5.out.cell 1 rfl
     obtain ⟨e0, e1, e2, e3, e4, e5, e6, e7, e8, e9, e10⟩ := cells11 KF5.out
     go_wp2_with fail
     refine (implUnseal S.key D.key role SF DF x5 (HT.out.later B5.out) (HR.out.later B5.out).key (HF.out.later B5.out) (by have := HKL.out; omega)).mono ?_
     unfold AnsBb
     rw [HUV.out, HUL.out]
     rintro e x6 ⟨S4, rfl, o, b⟩
     clear d1 e0 e1 e2 e3 e4 e5 e6 e7 e8 e9 e10
     have L6 := hid (b.size)
     have B6 := hid (B5.out.trans (b.mono B5.out.size))
     have KA6 := hid (KA5.out.later b)
     have KF6 := hid (KF5.out.later b)
     have KO6 := hid (KO5.out.later b)
     have O36 := hid (O35.out.later b)
     have KW6 := hid (KW5.out.later b)
     clear b B5 KA5 KF5 KO5 O35 KW5
     have O46 := hid (o)
     clear o
     cases uv with
     | false =>
      obtain rfl : c = 2 := by rw [← HC.out]; exact eo_2 HY.out HMV.out HUV.out
      obtain rfl : R = [] := by rw [← HRR.out]; exact eoL_no (by rw [HC.out]; decide)
      obtain rfl : Q = ⟨0, []⟩ := by rw [← HRQ.out]; exact eoW_no (by rw [HC.out]; decide)
      have KX : Hid (Blk (x6.alloc (.cells #[] 5)) go 39 [.int .i64 0, .slice none 0 0]) := KO6.out.alloc _
      have co0 := KO6.out.cell 0 rfl
      have co1 := KO6.out.cell 1 rfl
      have cp0 := KX.out.cell 0 rfl
      have cp1 := KX.out.cell 1 rfl
      have fo0 := KX.out.frozen 0
      have fo1 := KX.out.frozen 1
      go_wp2
      have SZX : go + 1 ≤ x6.heap.size := KO6.out.lt
      obtain ⟨k1, k2, k3⟩ := WnK.stored (D := ⟨0, []⟩) (S := ⟨⟨none, 0, 0⟩⟩) (lo := x6.heap.size + 1) (hi := x6.heap.size + 1) KX.out ⟨ISOwn.nil _ _ _, ⟨⟩⟩ (by omega)
      refine bodyPost_ret (v := .tuple #[wnV ⟨0, []⟩ ⟨⟨none, 0, 0⟩⟩, .slice (some ⟨x6.heap.size, 0, none⟩) 0 0, .iface 145 (.agg #[.int .i64 2])]) (res3 rfl (is_cell rfl k1 aggWn) (is_tmp rfl) (is_tmp rfl)) rfl ⟨⟨⟨none, 0, 0⟩⟩, ⟨some ⟨x6.heap.size, 0, none⟩, 0, 0⟩, w.heap.size, w.heap.size, x6.heap.size, x6.heap.size + 1, rfl, ⟨ISOwn.nil _ _ _, ⟨⟩⟩, ?_, ?_, k3 _ _ (by have := Gga.out; omega) (B6.out.alloc B6.out.size _)⟩
      ·
       exact ((own_new x6).carry (Kept.setCell _ _ _ _) (.inr (by omega))).carry (Kept.setCell _ _ _ _) (.inr (by omega))
      ·
       rw [size2, new_size]; have := Gga.out; omega
     | true =>
      obtain rfl : c = 0 := by rw [← HC.out]; exact eo_0 HY.out HMV.out HUV.out
      obtain rfl : UL = R := by rw [← HRR.out, ← HUL.out]; exact (eoL_yes HC.out).symm
      obtain rfl : Wd = Q := by rw [← HRQ.out, ← HWD.out]; exact (eoW_yes HC.out).symm
      have d0 := KW6.out.cell 0 rfl
      have d1 := KW6.out.cell 1 rfl
      have f0 := KO6.out.cell 0 rfl
      have f1 := KO6.out.cell 1 rfl
      have g0 := KO6.out.frozen 0
      have g1 := KO6.out.frozen 1
      go_wp2
      have SZF : Hid (go + 1 ≤ x3.heap.size ∧ x3.heap.size ≤ x4.heap.size ∧ x4.heap.size ≤ x5.heap.size ∧ x5.heap.size ≤ x6.heap.size ∧ x6.heap.size ≤ x6.heap.size ∧ w.heap.size + 2 = go) := by have := hid8 L1 Gga L2 L3 L4 L5 Ggw L6; show _ ∧ _; omega
      obtain ⟨k1, k2, k3⟩ := WnK.stored (D := Wd) (S := S3) KO6.out O36.out (by have := SZF.out; omega)
      refine bodyPost_ret (v := .tuple #[wnV Wd S3, .slice S4.a S4.n S4.c, .nilIface]) (res3 rfl (is_cell rfl k1 aggWn) (is_tmp rfl) (is_tmp rfl)) rfl ⟨S3, S4, x3.heap.size, x4.heap.size, x5.heap.size, x6.heap.size, rfl, k2, ?_, ?_, k3 _ _ (by have := SZF.out; omega) B6.out⟩
      ·
       exact (O46.out.carry (Kept.setCell _ _ _ _) (.inr (by have := SZF.out; omega))).carry (Kept.setCell _ _ _ _) (.inr (by have := SZF.out; omega))
      ·
       rw [size2]; have := SZF.out; omega
end Go.Proofs.YtmcflfpckpjphaaGreatDoor.EpO

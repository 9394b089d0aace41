/-
  What spec's EpOpen answers.
-/
import Derived.Test.YtmcflfpckpjphaaGreatDoorVdBas6
import Derived.Test.YtmcflfpckpjphaaGreatDoorVdBas8
import Derived.Test.YtmcflfpckpjphaaGreatDoorVdUnsS
import Derived.Test.YtmcflfpckpjphaaGreatDoorVdWnU
import Derived.Test.YtmcflfpckpjphaaGreatDoorVdBas2
set_option maxRecDepth 100000
namespace Go.Proofs.YtmcflfpckpjphaaGreatDoor.EpV
open Go.RowKit Mem App Blk Words Zone ZoneI Res WnZ WinP WnK WnG FrZ FrL FrP FrG FrQ FrQ2 SlP SlQ Shp EpZ EpL EpP EpQ Each Copy Ops Guard
theorem specWinMayV (S : WnS) (D : WnD) (n : Int) (v : Bool) (w : World) (h : WnRd w S D) (hv : winMay D.top D.bits n = v) : Calls Tryz.prog 88 #[wnV D S, .int .i64 n] w fun e w' => e = .returned (.bool v) ∧ Below w.heap.size w w' := by
 subst hv; exact WnS.specWinMay S D n w h
def AnsP (Q : EpD) (R : List Int) (c : Int) (w : World) : Ending → World → Prop := fun e w' => ∃ S0 S1 p0 q0 p1 q1, e = .returned (.tuple #[epV Q S0, .slice S1.a S1.n S1.c, .int .i64 c]) ∧ EpOwn w' p0 q0 S0 Q ∧ SOwn w' p1 q1 S1 R ∧ (w.heap.size ≤ p0 ∧ q0 ≤ w'.heap.size ∧ w.heap.size ≤ p1 ∧ q1 ≤ w'.heap.size) ∧ Below w.heap.size w w'
theorem own_new (x : World) : SOwn (x.alloc (.cells #[] 5)) x.heap.size (x.heap.size + 1) ⟨some ⟨x.heap.size, 0, none⟩, 0, 0⟩ [] :=
 SOwn.row ⟨Nat.le_refl _, by unfold maxLen; omega, #[], heap_alloc_new x _, rfl, rfl⟩ rfl (fun z hz => by cases hz) (Nat.le_refl _) (by omega)
theorem with_win {w : World} {lo hi lo' hi' : Nat} {S : EpS} {D : EpD} {S' : WnS} {W : WnD} (h : EpOwn w lo hi S D) (k : WnOwn w lo' hi' S' W) (d : hi ≤ lo') (e : lo' ≤ hi') (f : lo ≤ hi) : EpOwn w lo hi' ⟨S.key, S'⟩ { D with win := W } := by
 obtain ⟨a0, b0, a1, b1, o0, o1, z⟩ := h
 exact ⟨a0, b0, lo', hi', o0, k, by omega⟩
theorem new_size (x : World) : (x.alloc (.cells #[] 5)).heap.size = x.heap.size + 1 := by simp
theorem eoForm_1 {E : EpD} {role : Int} {D : FrD} (h : epOk E = false) : eoForm E role D = false := by unfold eoForm; rw [h]; rfl
theorem eoForm_2 {E : EpD} {role : Int} {D : FrD} (h : canTag role D = false) : eoForm E role D = false := by unfold eoForm; rw [h]; simp
theorem eoForm_3 {E : EpD} {role : Int} {D : FrD} (h : (D.epoch == E.n) = false) : eoForm E role D = false := by unfold eoForm; rw [h]; simp
theorem eoForm_y {E : EpD} {role : Int} {D : FrD} (h1 : epOk E = true) (h2 : canTag role D = true) (h3 : (D.epoch == E.n) = true) : eoForm E role D = true := by unfold eoForm; rw [h1, h2, h3]; rfl
set_option maxHeartbeats 8000000 in
theorem specEpOpen (S : EpS) (D : EpD) (SF : FrS) (DF : FrD) (role : Int) (w : World) (h : EpRd w S D) (hl : EpShort D 4194304) (hf : FrRd w SF DF) :
  Calls Tryz.prog 32 #[epV D S, .int .i64 role, frV DF SF] w (AnsP (eoE D role DF) (eoL D role DF) (eoCode D role DF) w) := by
 have HR := hid (h)
 have HL := hid (hl)
 have HF := hid (hf)
 clear h hl hf
 obtain ⟨c, hc⟩ : ∃ c, eoCode D role DF = c := ⟨_, rfl⟩
 have HC : Hid (eoCode D role DF = c) := hc
 obtain ⟨R, hR⟩ : ∃ R, eoL D role DF = R := ⟨_, rfl⟩
 have HRR : Hid (eoL D role DF = R) := hR
 obtain ⟨Q, hQ⟩ : ∃ Q, eoE D role DF = Q := ⟨_, rfl⟩
 have HRE : Hid (eoE D role DF = Q) := hQ
 rw [hc, hR, hQ]
 clear hc hR hQ
 obtain ⟨x1, hx1⟩ : ∃ x1, ((w.alloc (.cells #[.int .i64 D.n, .slice S.key.a S.key.n S.key.c, .int .i64 D.seq, .int .i64 D.win.top, .slice S.win.bits.a S.win.bits.n S.win.bits.c] 41)).alloc (.cells #[.int .i64 DF.kind, .int .i64 DF.id, .slice SF.cn.a SF.cn.n SF.cn.c, .slice SF.sn.a SF.sn.n SF.sn.c, .int .i64 DF.tick, .slice SF.cookie.a SF.cookie.n SF.cookie.c, .slice SF.proof.a SF.proof.n SF.proof.c, .int .i64 DF.epoch, .int .i64 DF.seq, .slice SF.body.a SF.body.n SF.body.c, .slice SF.tag.a SF.tag.n SF.tag.c] 27)).alloc (.cells #[.int .i64 0, .slice none 0 0, .int .i64 0, .int .i64 0, .slice none 0 0] 41) = x1 := ⟨_, rfl⟩
 have HW0 := hid (hx1)
 have b1 : Below w.heap.size w x1 := by rw [← hx1]; exact (((Below.refl _ _).alloc (Nat.le_refl _) _).alloc (by simp) _).alloc (by simp; omega) _
 have KNa : Blk x1 w.heap.size 41 [.int .i64 D.n, .slice S.key.a S.key.n S.key.c, .int .i64 D.seq, .int .i64 D.win.top, .slice S.win.bits.a S.win.bits.n S.win.bits.c] := by rw [← hx1]; exact ((Blk.new w _ _).alloc _).alloc _
 have KNf : Blk x1 (w.heap.size + 1) 27 [.int .i64 DF.kind, .int .i64 DF.id, .slice SF.cn.a SF.cn.n SF.cn.c, .slice SF.sn.a SF.sn.n SF.sn.c, .int .i64 DF.tick, .slice SF.cookie.a SF.cookie.n SF.cookie.c, .slice SF.proof.a SF.proof.n SF.proof.c, .int .i64 DF.epoch, .int .i64 DF.seq, .slice SF.body.a SF.body.n SF.body.c, .slice SF.tag.a SF.tag.n SF.tag.c] := by
  have q := Blk.new (w.alloc (.cells #[.int .i64 D.n, .slice S.key.a S.key.n S.key.c, .int .i64 D.seq, .int .i64 D.win.top, .slice S.win.bits.a S.win.bits.n S.win.bits.c] 41)) 27 [.int .i64 DF.kind, .int .i64 DF.id, .slice SF.cn.a SF.cn.n SF.cn.c, .slice SF.sn.a SF.sn.n SF.sn.c, .int .i64 DF.tick, .slice SF.cookie.a SF.cookie.n SF.cookie.c, .slice SF.proof.a SF.proof.n SF.proof.c, .int .i64 DF.epoch, .int .i64 DF.seq, .slice SF.body.a SF.body.n SF.body.c, .slice SF.tag.a SF.tag.n SF.tag.c]
  rw [World.size_alloc] at q
  rw [← hx1]; exact q.alloc _
 have KNo : Blk x1 (w.heap.size + 1 + 1) 41 [.int .i64 0, .slice none 0 0, .int .i64 0, .int .i64 0, .slice none 0 0] := by
  have q := Blk.new ((w.alloc (.cells #[.int .i64 D.n, .slice S.key.a S.key.n S.key.c, .int .i64 D.seq, .int .i64 D.win.top, .slice S.win.bits.a S.win.bits.n S.win.bits.c] 41)).alloc (.cells #[.int .i64 DF.kind, .int .i64 DF.id, .slice SF.cn.a SF.cn.n SF.cn.c, .slice SF.sn.a SF.sn.n SF.sn.c, .int .i64 DF.tick, .slice SF.cookie.a SF.cookie.n SF.cookie.c, .slice SF.proof.a SF.proof.n SF.proof.c, .int .i64 DF.epoch, .int .i64 DF.seq, .slice SF.body.a SF.body.n SF.body.c, .slice SF.tag.a SF.tag.n SF.tag.c] 27)) 41 [.int .i64 0, .slice none 0 0, .int .i64 0, .int .i64 0, .slice none 0 0]
  rw [World.size_alloc, World.size_alloc] at q
  rw [← hx1]; exact q
 have SZ1 : x1.heap.size = w.heap.size + 3 := by rw [← hx1]; simp
 clear hx1
 have L1 := hid (b1.size)
 have B1 := hid (b1)
 clear b1
 unfold epV frV
 go_enter Tryz.func32, Tryz.ntmps32
 go_upto_region 1 with fail
 rw [HW0.out]
 obtain ⟨ga, hga⟩ : ∃ g, w.heap.size = g := ⟨_, rfl⟩
 obtain ⟨gf, hgf⟩ : ∃ g, w.heap.size + 1 = g := ⟨_, rfl⟩
 obtain ⟨go, hgo⟩ : ∃ g, w.heap.size + 1 + 1 = g := ⟨_, rfl⟩
 have Gga : Hid (w.heap.size = ga ∧ ga + 1 = gf ∧ gf + 1 = go ∧ x1.heap.size = ga + 3) := ⟨hga, by omega, by omega, by omega⟩
 rw [hga] at KNa
 rw [hgf] at KNf
 rw [hgo] at KNo
 rw [hgo, hgf, hga]
 clear HW0 SZ1 hga hgf hgo
 have KA1 := hid (KNa)
 have KF1 := hid (KNf)
 have KO1 := hid (KNo)
 clear KNa KNf KNo
 obtain ⟨d0, d1, d2, d3, d4⟩ := cells5 KA1.out
 go_wp2_with fail
 refine (EpC.specCopyEp S D x1 (HR.out.later B1.out) HL.out).mono ?_
 unfold AnsE
 rintro e x2 ⟨S2, rfl, o, b⟩
 clear d0 d1 d2 d3 d4
 have L2 := hid (b.size)
 have B2 := hid (B1.out.trans (b.mono B1.out.size))
 have KA2 := hid (KA1.out.later b)
 have KF2 := hid (KF1.out.later b)
 have KO2 := hid (KO1.out.later b)
 clear b B1 KA1 KF1 KO1
 have O22 := hid (o)
 clear o
 obtain ⟨x3, hx3⟩ : ∃ x3, x2.alloc (.cells #[.int .i64 D.n, .slice S2.key.a S2.key.n S2.key.c, .int .i64 D.seq, .int .i64 D.win.top, .slice S2.win.bits.a S2.win.bits.n S2.win.bits.c] 41) = x3 := ⟨_, rfl⟩
 have HW3 := hid (hx3)
 have b3 : Below x2.heap.size x2 x3 := by rw [← hx3]; exact (Below.refl _ _).alloc (Nat.le_refl _) _
 have KN : Blk x3 x2.heap.size 41 [.int .i64 D.n, .slice S2.key.a S2.key.n S2.key.c, .int .i64 D.seq, .int .i64 D.win.top, .slice S2.win.bits.a S2.win.bits.n S2.win.bits.c] := by rw [← hx3]; exact Blk.new x2 _ _
 have HSZ3 : Hid (x3.heap.size = x2.heap.size + 1) := by rw [← hx3]; show _ = _; simp
 clear hx3
 have L3 := hid (b3.size)
 have B3 := hid (B2.out.trans (b3.mono B2.out.size))
 have KA3 := hid (KA2.out.later b3)
 have KF3 := hid (KF2.out.later b3)
 have KO3 := hid (KO2.out.later b3)
 have O23 := hid (O22.out.later b3)
 clear b3 B2 KA2 KF2 KO2 O22
 unfold epV
 go_upto_region 2 with fail
 rw [HW3.out]
 obtain ⟨gn, hgn⟩ : ∃ g, x2.heap.size = g := ⟨_, rfl⟩
 have Ggn : Hid (x2.heap.size = gn ∧ x3.heap.size = gn + 1) := ⟨hgn, by rw [← hgn]; exact HSZ3.out⟩
 rw [hgn] at KN ⊢
 clear HW3 HSZ3 hgn
 have KN3 := hid (KN)
 clear KN
 obtain ⟨d0, d1, d2, d3, d4⟩ := cells5 KA3.out
 go_wp2_with fail
 refine (EpS.specEpOk S D x3 (HR.out.later B3.out)).mono ?_
 rintro e x4 ⟨rfl, b⟩
 have L4 := hid (b.size)
 have B4 := hid (B3.out.trans (b.mono B3.out.size))
 have KA4 := hid (KA3.out.later b)
 have KF4 := hid (KF3.out.later b)
 have KO4 := hid (KO3.out.later b)
 have O24 := hid (O23.out.later b)
 have KN4 := hid (KN3.out.later b)
 clear b B3 KA3 KF3 KO3 O23 KN3
 clear d0 d1 d2 d3 d4
 cases h0 : epOk D with
 | false =>
  obtain rfl : c = 1 := by rw [← HC.out]; exact eo_1 (eoForm_1 h0)
  obtain rfl : R = [] := by rw [← HRR.out]; exact eoL_no (by rw [HC.out]; decide)
  obtain rfl : D = Q := by rw [← HRE.out]; exact (eoE_no (by rw [HC.out]; decide)).symm
  have KX : Hid (Blk (x4.alloc (.cells #[] 5)) go 41 [.int .i64 0, .slice none 0 0, .int .i64 0, .int .i64 0, .slice none 0 0]) := KO4.out.alloc _
  have OX : Hid (EpOwn (x4.alloc (.cells #[] 5)) x1.heap.size x2.heap.size S2 D) := O24.out.later ((Below.refl _ _).alloc (Nat.le_refl _) _)
  have NX : Hid (SOwn (x4.alloc (.cells #[] 5)) x4.heap.size (x4.heap.size + 1) ⟨some ⟨x4.heap.size, 0, none⟩, 0, 0⟩ []) := own_new x4
  have BX : Hid (Below w.heap.size w (x4.alloc (.cells #[] 5))) := B4.out.alloc B4.out.size _
  obtain ⟨cn0, cn1, cn2, cn3, cn4⟩ := cells5 KN4.out
  obtain ⟨co0, co1, co2, co3, co4⟩ := cells5 KO4.out
  obtain ⟨cp0, cp1, cp2, cp3, cp4⟩ := cells5 KX.out
  obtain ⟨fo0, fo1, fo2, fo3, fo4⟩ := froz5 KX.out
  go_wp2
  have SZN : (x4.alloc (.cells #[] 5)).heap.size = x4.heap.size + 1 := new_size _
  have SZF : Hid (go + 1 ≤ x1.heap.size ∧ x1.heap.size ≤ x2.heap.size ∧ x2.heap.size ≤ x4.heap.size ∧ go + 1 ≤ x4.heap.size ∧ x4.heap.size + 1 ≤ (x4.alloc (.cells #[] 5)).heap.size ∧ w.heap.size + 2 = go) := by have := hid6 L1 Gga L2 L3 Ggn L4; show _ ∧ _; omega
  obtain ⟨k1, k2, k3⟩ := ep_stored (D := D) (S := S2) (lo := x1.heap.size) (hi := x2.heap.size) KX.out OX.out (.inl (by have := SZF.out; omega))
  refine bodyPost_ret (v := .tuple #[epV D S2, .slice (some ⟨x4.heap.size, 0, none⟩) 0 0, .int .i64 1]) (res3 rfl (is_cell rfl k1 aggEp) (is_tmp rfl) (is_tmp rfl)) rfl ⟨S2, ⟨some ⟨x4.heap.size, 0, none⟩, 0, 0⟩, x1.heap.size, x2.heap.size, x4.heap.size, x4.heap.size + 1, rfl, k2, ?_, ?_, k3 _ _ (by have := SZF.out; omega) BX.out⟩
  ·
   exact NX.out.carry (ep_kept _ _ (.int .i64 D.n) (.slice S2.key.a S2.key.n S2.key.c) (.int .i64 D.seq) (.int .i64 D.win.top) (.slice S2.win.bits.a S2.win.bits.n S2.win.bits.c)) (.inr (by have := SZF.out; omega))
  ·
   rw [ep_size]; have := SZF.out; omega
 | true =>
  obtain ⟨d0, d1, d2, d3, d4, d5, d6, d7, d8, d9, d10⟩ := cells11 KF4.out
  go_wp2_with fail
  refine (UnsS.inputN role SF DF x4 (HF.out.later B4.out)).mono ?_
  rintro e x5 ⟨I, rfl, oN, b⟩
  have HIN : Hid (I.n = (tagIn role DF).length) := oN.len
  clear oN
  clear d0 d1 d2 d3 d4 d5 d6 d7 d8 d9 d10
  have L5 := hid (b.size)
  have B5 := hid (B4.out.trans (b.mono B4.out.size))
  have KA5 := hid (KA4.out.later b)
  have KF5 := hid (KF4.out.later b)
  have KO5 := hid (KO4.out.later b)
  have O25 := hid (O24.out.later b)
  have KN5 := hid (KN4.out.later b)
  clear b B4 KA4 KF4 KO4 O24 KN4
  cases h1 : canTag role DF with
  | false =>
   have hie : ((I.n : Int) == 0) = true := by have q := HIN.out; rw [(tagIn_nil role DF).2 h1] at q; rw [q]; rfl
   obtain rfl : c = 1 := by rw [← HC.out]; exact eo_1 (eoForm_2 h1)
   obtain rfl : R = [] := by rw [← HRR.out]; exact eoL_no (by rw [HC.out]; decide)
   obtain rfl : D = Q := by rw [← HRE.out]; exact (eoE_no (by rw [HC.out]; decide)).symm
   have KX : Hid (Blk (x5.alloc (.cells #[] 5)) go 41 [.int .i64 0, .slice none 0 0, .int .i64 0, .int .i64 0, .slice none 0 0]) := KO5.out.alloc _
   have OX : Hid (EpOwn (x5.alloc (.cells #[] 5)) x1.heap.size x2.heap.size S2 D) := O25.out.later ((Below.refl _ _).alloc (Nat.le_refl _) _)
   have NX : Hid (SOwn (x5.alloc (.cells #[] 5)) x5.heap.size (x5.heap.size + 1) ⟨some ⟨x5.heap.size, 0, none⟩, 0, 0⟩ []) := own_new x5
   have BX : Hid (Below w.heap.size w (x5.alloc (.cells #[] 5))) := B5.out.alloc B5.out.size _
   obtain ⟨cn0, cn1, cn2, cn3, cn4⟩ := cells5 KN5.out
   obtain ⟨co0, co1, co2, co3, co4⟩ := cells5 KO5.out
   obtain ⟨cp0, cp1, cp2, cp3, cp4⟩ := cells5 KX.out
   obtain ⟨fo0, fo1, fo2, fo3, fo4⟩ := froz5 KX.out
   go_wp2
   have SZN : (x5.alloc (.cells #[] 5)).heap.size = x5.heap.size + 1 := new_size _
   have SZF : Hid (go + 1 ≤ x1.heap.size ∧ x1.heap.size ≤ x2.heap.size ∧ x2.heap.size ≤ x5.heap.size ∧ go + 1 ≤ x5.heap.size ∧ x5.heap.size + 1 ≤ (x5.alloc (.cells #[] 5)).heap.size ∧ w.heap.size + 2 = go) := by have := hid7 L1 Gga L2 L3 Ggn L4 L5; show _ ∧ _; omega
   obtain ⟨k1, k2, k3⟩ := ep_stored (D := D) (S := S2) (lo := x1.heap.size) (hi := x2.heap.size) KX.out OX.out (.inl (by have := SZF.out; omega))
   refine bodyPost_ret (v := .tuple #[epV D S2, .slice (some ⟨x5.heap.size, 0, none⟩) 0 0, .int .i64 1]) (res3 rfl (is_cell rfl k1 aggEp) (is_tmp rfl) (is_tmp rfl)) rfl ⟨S2, ⟨some ⟨x5.heap.size, 0, none⟩, 0, 0⟩, x1.heap.size, x2.heap.size, x5.heap.size, x5.heap.size + 1, rfl, k2, ?_, ?_, k3 _ _ (by have := SZF.out; omega) BX.out⟩
   ·
    exact NX.out.carry (ep_kept _ _ (.int .i64 D.n) (.slice S2.key.a S2.key.n S2.key.c) (.int .i64 D.seq) (.int .i64 D.win.top) (.slice S2.win.bits.a S2.win.bits.n S2.win.bits.c)) (.inr (by have := SZF.out; omega))
   ·
    rw [ep_size]; have := SZF.out; omega
  | true =>
   have hie : ((I.n : Int) == 0) = false := by have q := HIN.out; rw [tagIn_len h1] at q; rw [q]; simp; omega
   have d0 := KA5.out.cell 0 rfl
   have d7 := KF5.out.cell 7 rfl
   cases h2 : (DF.epoch == D.n) with
   | false =>
    have hne : (DF.epoch != D.n) = true := by simpa using h2
    obtain rfl : c = 1 := by rw [← HC.out]; exact eo_1 (eoForm_3 h2)
    obtain rfl : R = [] := by rw [← HRR.out]; exact eoL_no (by rw [HC.out]; decide)
    obtain rfl : D = Q := by rw [← HRE.out]; exact (eoE_no (by rw [HC.out]; decide)).symm
    have KX : Hid (Blk (x5.alloc (.cells #[] 5)) go 41 [.int .i64 0, .slice none 0 0, .int .i64 0, .int .i64 0, .slice none 0 0]) := KO5.out.alloc _
    have OX : Hid (EpOwn (x5.alloc (.cells #[] 5)) x1.heap.size x2.heap.size S2 D) := O25.out.later ((Below.refl _ _).alloc (Nat.le_refl _) _)
    have NX : Hid (SOwn (x5.alloc (.cells #[] 5)) x5.heap.size (x5.heap.size + 1) ⟨some ⟨x5.heap.size, 0, none⟩, 0, 0⟩ []) := own_new x5
    have BX : Hid (Below w.heap.size w (x5.alloc (.cells #[] 5))) := B5.out.alloc B5.out.size _
    obtain ⟨cn0, cn1, cn2, cn3, cn4⟩ := cells5 KN5.out
    obtain ⟨co0, co1, co2, co3, co4⟩ := cells5 KO5.out
    obtain ⟨cp0, cp1, cp2, cp3, cp4⟩ := cells5 KX.out
    obtain ⟨fo0, fo1, fo2, fo3, fo4⟩ := froz5 KX.out
    go_wp2
    have SZN : (x5.alloc (.cells #[] 5)).heap.size = x5.heap.size + 1 := new_size _
    have SZF : Hid (go + 1 ≤ x1.heap.size ∧ x1.heap.size ≤ x2.heap.size ∧ x2.heap.size ≤ x5.heap.size ∧ go + 1 ≤ x5.heap.size ∧ x5.heap.size + 1 ≤ (x5.alloc (.cells #[] 5)).heap.size ∧ w.heap.size + 2 = go) := by have := hid7 L1 Gga L2 L3 Ggn L4 L5; show _ ∧ _; omega
    obtain ⟨k1, k2, k3⟩ := ep_stored (D := D) (S := S2) (lo := x1.heap.size) (hi := x2.heap.size) KX.out OX.out (.inl (by have := SZF.out; omega))
    refine bodyPost_ret (v := .tuple #[epV D S2, .slice (some ⟨x5.heap.size, 0, none⟩) 0 0, .int .i64 1]) (res3 rfl (is_cell rfl k1 aggEp) (is_tmp rfl) (is_tmp rfl)) rfl ⟨S2, ⟨some ⟨x5.heap.size, 0, none⟩, 0, 0⟩, x1.heap.size, x2.heap.size, x5.heap.size, x5.heap.size + 1, rfl, k2, ?_, ?_, k3 _ _ (by have := SZF.out; omega) BX.out⟩
    ·
     exact NX.out.carry (ep_kept _ _ (.int .i64 D.n) (.slice S2.key.a S2.key.n S2.key.c) (.int .i64 D.seq) (.int .i64 D.win.top) (.slice S2.win.bits.a S2.win.bits.n S2.win.bits.c)) (.inr (by have := SZF.out; omega))
    ·
     rw [ep_size]; have := SZF.out; omega
   | true =>
    have hne : (DF.epoch != D.n) = false := by simpa using h2
    have HY : Hid (eoForm D role DF = true) := eoForm_y h0 h1 h2
    have HKL : Hid (D.key.length = 32) := (epOk_parts h0).2.1
    obtain ⟨mv, hmv⟩ : ∃ v, winMay D.win.top D.win.bits DF.seq = v := ⟨_, rfl⟩
    have HMV : Hid (winMay D.win.top D.win.bits DF.seq = mv) := hmv
    clear hmv
    have d3 := KA5.out.cell 3 rfl
    have d4 := KA5.out.cell 4 rfl
    have d8 := KF5.out.cell 8 rfl
    go_wp2_with fail
    refine (specWinMayV S.win D.win DF.seq mv x5 (HR.out.later B5.out).win HMV.out).mono ?_
    rintro e x6 ⟨rfl, b⟩
    clear d0 d7 d3 d4 d8 hne hie
    have L6 := hid (b.size)
    have B6 := hid (B5.out.trans (b.mono B5.out.size))
    have KA6 := hid (KA5.out.later b)
    have KF6 := hid (KF5.out.later b)
    have KO6 := hid (KO5.out.later b)
    have O26 := hid (O25.out.later b)
    have KN6 := hid (KN5.out.later b)
    clear b B5 KA5 KF5 KO5 O25 KN5
    cases mv with
    | false =>
     obtain rfl : c = 3 := by rw [← HC.out]; exact eo_3 HY.out HMV.out
     obtain rfl : R = [] := by rw [← HRR.out]; exact eoL_no (by rw [HC.out]; decide)
     obtain rfl : D = Q := by rw [← HRE.out]; exact (eoE_no (by rw [HC.out]; decide)).symm
     have KX : Hid (Blk (x6.alloc (.cells #[] 5)) go 41 [.int .i64 0, .slice none 0 0, .int .i64 0, .int .i64 0, .slice none 0 0]) := KO6.out.alloc _
     have OX : Hid (EpOwn (x6.alloc (.cells #[] 5)) x1.heap.size x2.heap.size S2 D) := O26.out.later ((Below.refl _ _).alloc (Nat.le_refl _) _)
     have NX : Hid (SOwn (x6.alloc (.cells #[] 5)) x6.heap.size (x6.heap.size + 1) ⟨some ⟨x6.heap.size, 0, none⟩, 0, 0⟩ []) := own_new x6
     have BX : Hid (Below w.heap.size w (x6.alloc (.cells #[] 5))) := B6.out.alloc B6.out.size _
     obtain ⟨cn0, cn1, cn2, cn3, cn4⟩ := cells5 KN6.out
     obtain ⟨co0, co1, co2, co3, co4⟩ := cells5 KO6.out
     obtain ⟨cp0, cp1, cp2, cp3, cp4⟩ := cells5 KX.out
     obtain ⟨fo0, fo1, fo2, fo3, fo4⟩ := froz5 KX.out
     go_wp2
     have SZN : (x6.alloc (.cells #[] 5)).heap.size = x6.heap.size + 1 := new_size _
     have SZF : Hid (go + 1 ≤ x1.heap.size ∧ x1.heap.size ≤ x2.heap.size ∧ x2.heap.size ≤ x6.heap.size ∧ go + 1 ≤ x6.heap.size ∧ x6.heap.size + 1 ≤ (x6.alloc (.cells #[] 5)).heap.size ∧ w.heap.size + 2 = go) := by have := hid8 L1 Gga L2 L3 Ggn L4 L5 L6; show _ ∧ _; omega
     obtain ⟨k1, k2, k3⟩ := ep_stored (D := D) (S := S2) (lo := x1.heap.size) (hi := x2.heap.size) KX.out OX.out (.inl (by have := SZF.out; omega))
     refine bodyPost_ret (v := .tuple #[epV D S2, .slice (some ⟨x6.heap.size, 0, none⟩) 0 0, .int .i64 3]) (res3 rfl (is_cell rfl k1 aggEp) (is_tmp rfl) (is_tmp rfl)) rfl ⟨S2, ⟨some ⟨x6.heap.size, 0, none⟩, 0, 0⟩, x1.heap.size, x2.heap.size, x6.heap.size, x6.heap.size + 1, rfl, k2, ?_, ?_, k3 _ _ (by have := SZF.out; omega) BX.out⟩
     ·
      exact NX.out.carry (ep_kept _ _ (.int .i64 D.n) (.slice S2.key.a S2.key.n S2.key.c) (.int .i64 D.seq) (.int .i64 D.win.top) (.slice S2.win.bits.a S2.win.bits.n S2.win.bits.c)) (.inr (by have := SZF.out; omega))
     ·
      rw [ep_size]; have := SZF.out; omega
    | true =>
     obtain ⟨uv, huv⟩ : ∃ v, unsealB D.key role DF = v := ⟨_, rfl⟩
     have HUV : Hid (unsealB D.key role DF = uv) := huv
     obtain ⟨UL, hUL⟩ : ∃ v, unsealL D.key role DF = v := ⟨_, rfl⟩
     have HUL : Hid (unsealL D.key role DF = UL) := hUL
     clear huv hUL
     have d1 := KA6.out.cell 1 rfl
     obtain ⟨e0, e1, e2, e3, e4, e5, e6, e7, e8, e9, e10⟩ := cells11 KF6.out
     go_wp2_with fail
     refine (UnsS.specUnseal S.key D.key role SF DF x6 (HR.out.later B6.out).key (HF.out.later B6.out) (by have := HKL.out; omega)).mono ?_
     unfold UnsS.AnsBb
     rw [HUV.out, HUL.out]
     rintro e x7 ⟨S4, rfl, o, b⟩
     clear d1 e0 e1 e2 e3 e4 e5 e6 e7 e8 e9 e10
     have L7 := hid (b.size)
     have B7 := hid (B6.out.trans (b.mono B6.out.size))
     have KA7 := hid (KA6.out.later b)
     have KF7 := hid (KF6.out.later b)
     have KO7 := hid (KO6.out.later b)
     have O27 := hid (O26.out.later b)
     have KN7 := hid (KN6.out.later b)
     clear b B6 KA6 KF6 KO6 O26 KN6
     have O47 := hid (o)
     clear o
     cases uv with
     | false =>
      obtain rfl : c = 2 := by rw [← HC.out]; exact eo_2 HY.out HMV.out HUV.out
      obtain rfl : R = [] := by rw [← HRR.out]; exact eoL_no (by rw [HC.out]; decide)
      obtain rfl : D = Q := by rw [← HRE.out]; exact (eoE_no (by rw [HC.out]; decide)).symm
      have KX : Hid (Blk (x7.alloc (.cells #[] 5)) go 41 [.int .i64 0, .slice none 0 0, .int .i64 0, .int .i64 0, .slice none 0 0]) := KO7.out.alloc _
      have OX : Hid (EpOwn (x7.alloc (.cells #[] 5)) x1.heap.size x2.heap.size S2 D) := O27.out.later ((Below.refl _ _).alloc (Nat.le_refl _) _)
      have NX : Hid (SOwn (x7.alloc (.cells #[] 5)) x7.heap.size (x7.heap.size + 1) ⟨some ⟨x7.heap.size, 0, none⟩, 0, 0⟩ []) := own_new x7
      have BX : Hid (Below w.heap.size w (x7.alloc (.cells #[] 5))) := B7.out.alloc B7.out.size _
      obtain ⟨cn0, cn1, cn2, cn3, cn4⟩ := cells5 KN7.out
      obtain ⟨co0, co1, co2, co3, co4⟩ := cells5 KO7.out
      obtain ⟨cp0, cp1, cp2, cp3, cp4⟩ := cells5 KX.out
      obtain ⟨fo0, fo1, fo2, fo3, fo4⟩ := froz5 KX.out
      go_wp2
      have SZN : (x7.alloc (.cells #[] 5)).heap.size = x7.heap.size + 1 := new_size _
      have SZF : Hid (go + 1 ≤ x1.heap.size ∧ x1.heap.size ≤ x2.heap.size ∧ x2.heap.size ≤ x7.heap.size ∧ go + 1 ≤ x7.heap.size ∧ x7.heap.size + 1 ≤ (x7.alloc (.cells #[] 5)).heap.size ∧ w.heap.size + 2 = go) := by have := hid8 L1 Gga L2 L3 Ggn L4 L5 L6; have := L7.out; show _ ∧ _; omega
      obtain ⟨k1, k2, k3⟩ := ep_stored (D := D) (S := S2) (lo := x1.heap.size) (hi := x2.heap.size) KX.out OX.out (.inl (by have := SZF.out; omega))
      refine bodyPost_ret (v := .tuple #[epV D S2, .slice (some ⟨x7.heap.size, 0, none⟩) 0 0, .int .i64 2]) (res3 rfl (is_cell rfl k1 aggEp) (is_tmp rfl) (is_tmp rfl)) rfl ⟨S2, ⟨some ⟨x7.heap.size, 0, none⟩, 0, 0⟩, x1.heap.size, x2.heap.size, x7.heap.size, x7.heap.size + 1, rfl, k2, ?_, ?_, k3 _ _ (by have := SZF.out; omega) BX.out⟩
      ·
       exact NX.out.carry (ep_kept _ _ (.int .i64 D.n) (.slice S2.key.a S2.key.n S2.key.c) (.int .i64 D.seq) (.int .i64 D.win.top) (.slice S2.win.bits.a S2.win.bits.n S2.win.bits.c)) (.inr (by have := SZF.out; omega))
      ·
       rw [ep_size]; have := SZF.out; omega
     | true =>
      obtain ⟨Wd, hWd⟩ : ∃ Wd, addD D.win DF.seq = Wd := ⟨_, rfl⟩
      have HWD : Hid (addD D.win DF.seq = Wd) := hWd
      clear hWd
      obtain rfl : c = 0 := by rw [← HC.out]; exact eo_0 HY.out HMV.out HUV.out
      obtain rfl : UL = R := by rw [← HRR.out, ← HUL.out]; exact (eoL_yes HC.out).symm
      obtain rfl : Q = { D with win := Wd } := by rw [← HRE.out, ← HWD.out]; exact eoE_yes HC.out
      have d3 := KA7.out.cell 3 rfl
      have d4 := KA7.out.cell 4 rfl
      have d8 := KF7.out.cell 8 rfl
      go_wp2_with fail
      refine (WnU.specWinAdd S.win D.win DF.seq x7 (HR.out.later B7.out).win HL.out.win.bits).mono ?_
      unfold Added
      rw [HWD.out, HMV.out]
      rintro e x8 ⟨S3, rfl, o, b⟩
      clear d3 d4 d8
      have L8 := hid (b.size)
      have B8 := hid (B7.out.trans (b.mono B7.out.size))
      have KA8 := hid (KA7.out.later b)
      have KF8 := hid (KF7.out.later b)
      have KO8 := hid (KO7.out.later b)
      have O28 := hid (O27.out.later b)
      have KN8 := hid (KN7.out.later b)
      have O48 := hid (O47.out.later b)
      clear b B7 KA7 KF7 KO7 O27 KN7 O47
      have O38 := hid (o)
      clear o
      unfold wnV
      have z3 := KN8.out.cell 3 rfl
      have z4 := KN8.out.cell 4 rfl
      have y3 := KN8.out.frozen 3
      have y4 := KN8.out.frozen 4
      obtain ⟨x9, hx9⟩ : ∃ y, ((x8.setCell ⟨gn, 3, none⟩ (.int .i64 Wd.top)).setCell ⟨gn, 4, none⟩ (.slice S3.bits.a S3.bits.n S3.bits.c)) = y := ⟨_, rfl⟩
      have HW9 := hid (hx9)
      have KS : Blk x9 gn 41 [.int .i64 D.n, .slice S2.key.a S2.key.n S2.key.c, .int .i64 D.seq, .int .i64 Wd.top, .slice S3.bits.a S3.bits.n S3.bits.c] := by rw [← hx9]; exact (KN8.out.set 3 _ (by simp [maxLen])).set 4 _ (by simp [maxLen])
      have KQ : Kept gn (gn + 1) x8 x9 := by rw [← hx9]; exact (Kept.setCell _ _ _ _).trans (Kept.setCell _ _ _ _)
      clear hx9
      have L9 : Hid (x8.heap.size ≤ x9.heap.size) := KQ.size
      have B9 := hid (B8.out.trans (KQ.below (by have := hid8 L1 Gga L2 L3 Ggn L4 L5 L6; have := hid3 L7 L8 L9; omega) B8.out.size))
      have KA9 := hid (KA8.out.keep (KQ.block _ KA8.out.lt (by have := hid8 L1 Gga L2 L3 Ggn L4 L5 L6; have := hid3 L7 L8 L9; omega)))
      have KF9 := hid (KF8.out.keep (KQ.block _ KF8.out.lt (by have := hid8 L1 Gga L2 L3 Ggn L4 L5 L6; have := hid3 L7 L8 L9; omega)))
      have KO9 := hid (KO8.out.keep (KQ.block _ KO8.out.lt (by have := hid8 L1 Gga L2 L3 Ggn L4 L5 L6; have := hid3 L7 L8 L9; omega)))
      have O29 := hid (O28.out.carry KQ (by have := hid8 L1 Gga L2 L3 Ggn L4 L5 L6; have := hid3 L7 L8 L9; omega))
      have O49 := hid (O48.out.carry KQ (by have := hid8 L1 Gga L2 L3 Ggn L4 L5 L6; have := hid3 L7 L8 L9; omega))
      have O39 := hid (O38.out.carry KQ (by have := hid8 L1 Gga L2 L3 Ggn L4 L5 L6; have := hid3 L7 L8 L9; omega))
      clear KQ B8 KA8 KF8 KO8 O28 O48 O38
      clear KN8
      have KN9 := hid (KS)
      clear KS
      go_upto_region 10 with fail
      rw [HW9.out]
      clear HW9 z3 z4 y3 y4
      obtain ⟨d0, d1, d2, d3, d4⟩ := cells5 KN9.out
      obtain ⟨f0, f1, f2, f3, f4⟩ := cells5 KO9.out
      obtain ⟨g0, g1, g2, g3, g4⟩ := froz5 KO9.out
      go_wp2
      have SZF : Hid (go + 1 ≤ x1.heap.size ∧ x1.heap.size ≤ x2.heap.size ∧ x2.heap.size ≤ x7.heap.size ∧ x7.heap.size ≤ x8.heap.size ∧ x6.heap.size ≤ x7.heap.size ∧ x7.heap.size ≤ x9.heap.size ∧ x8.heap.size ≤ x9.heap.size ∧ go + 1 ≤ x6.heap.size ∧ w.heap.size + 2 = go) := by have := hid8 L1 Gga L2 L3 Ggn L4 L5 L6; have := hid3 L7 L8 L9; show _ ∧ _; omega
      clear d0 f0 g0 d1 f1 g1 d2 f2 g2 d3 f3 g3 d4 f4 g4
      obtain ⟨k1, k2, k3⟩ := ep_stored (D := { D with win := Wd }) (S := ⟨S2.key, S3⟩) (lo := x1.heap.size) (hi := x8.heap.size) KO9.out (with_win O29.out O39.out (by have := SZF.out; omega) (by have := SZF.out; omega) (by have := SZF.out; omega)) (.inl (by have := SZF.out; omega))
      refine bodyPost_ret (v := .tuple #[epV { D with win := Wd } ⟨S2.key, S3⟩, .slice S4.a S4.n S4.c, .int .i64 0]) (res3 rfl (is_cell rfl k1 aggEp) (is_tmp rfl) (is_tmp rfl)) rfl ⟨⟨S2.key, S3⟩, S4, x1.heap.size, x8.heap.size, x6.heap.size, x7.heap.size, rfl, k2, ?_, ?_, k3 _ _ (by have := SZF.out; omega) B9.out⟩
      ·
       exact O49.out.carry (ep_kept _ _ (.int .i64 D.n) (.slice S2.key.a S2.key.n S2.key.c) (.int .i64 D.seq) (.int .i64 Wd.top) (.slice S3.bits.a S3.bits.n S3.bits.c)) (.inr (by have := SZF.out; omega))
      ·
       rw [ep_size]; have := SZF.out; omega
end Go.Proofs.YtmcflfpckpjphaaGreatDoor.EpV

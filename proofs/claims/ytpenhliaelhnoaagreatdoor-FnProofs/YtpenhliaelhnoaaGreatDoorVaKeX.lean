/-
  What spec finishes of a cookie.
-/
import Derived.Test.YtpenhliaelhnoaaGreatDoorVaKeU
import Derived.Test.YtpenhliaelhnoaaGreatDoorVaDrCq
import Derived.Test.YtpenhliaelhnoaaGreatDoorVaFrGe
import Derived.Test.YtpenhliaelhnoaaGreatDoorVaGz16
set_option maxRecDepth 100000
namespace Go.Proofs.YtpenhliaelhnoaaGreatDoor.KeX
open Go.RowKit Mem App Blk Words Zone Res KeP KeQ KeW DiffP FrZ FrP Shp Each Copy Ops Guard FrL FrGet

theorem ne {w : World} {lo hi lo' hi' : Nat} {s t : Sl} {l k : List Int} (h : SOwn w lo hi s l) (h' : SOwn w lo' hi' t k) (d : hi ≤ lo' ∨ hi' ≤ lo) : s.a = none ∨ s.a ≠ t.a := by
 rcases h.2 with ⟨e, _⟩ | ⟨g, e, _, h1, h2, _⟩
 ·
  exact .inl (by rw [e])
 ·
  right
  rcases h'.2 with ⟨e', _⟩ | ⟨g', e', _, h1', h2', _⟩
  ·
   rw [e, e']; nofun
  ·
   rw [e, e']; intro hh; cases hh; omega
theorem fin_own {w : World} {lo hi lo1 hi1 lo2 hi2 : Nat} {S : FrS} {D : FrD} {T : Sl} {M : List Int} (id : Int) (hT : SOwn w lo1 hi1 T M) (hD : FrOwn w lo2 hi2 S D) (d : hi1 ≤ lo2) (h1 : lo ≤ lo1) (h2 : lo ≤ lo2) (h3 : hi1 ≤ hi) (h4 : hi2 ≤ hi) :
  FrOwn w lo hi ⟨S.cn, S.sn, S.cookie, T, S.body, S.tag⟩ { D with kind := 3, id := id, proof := M } :=
 ⟨hD.cn.mono h2 h4, hD.sn.mono h2 h4, hD.cookie.mono h2 h4, hT.mono h1 h3, hD.body.mono h2 h4, hD.tag.mono h2 h4,
  ⟨hD.apart.cnsn, hD.apart.cncookie, ne hD.cn hT (.inr d), hD.apart.cnbody, hD.apart.cntag, hD.apart.sncookie, ne hD.sn hT (.inr d), hD.apart.snbody, hD.apart.sntag, ne hD.cookie hT (.inr d), hD.apart.cookiebody, hD.apart.cookietag, ne hT hD.body (.inl d), ne hT hD.tag (.inl d), hD.apart.bodytag⟩⟩
theorem len_zero (n : Nat) (M : List Int) (h : n = M.length) : ((n : Int) == 0) = (M.length == 0) := by rw [h, Bool.eq_iff_iff]; simp
def AnsF (D : FrD) (ok : Bool) (w : World) : Ending → World → Prop := fun e w' => ∃ S0 : FrS, e = .returned (.tuple #[frV D S0, .bool ok]) ∧ FrOwn w' w.heap.size w'.heap.size S0 D ∧ Below w.heap.size w w'
set_option maxHeartbeats 8000000 in
theorem specFinishOf (q : Sl) (l : List Int) (id : Int) (SF : FrS) (F : FrD) (w : World) (hq : SRd w q l) (hf : FrRd w SF F) :
  Calls Tryz.prog 9 #[.slice q.a q.n q.c, .int .i64 id, frV F SF] w (AnsF (finD l id F) (finF l id F) w) := by
 have HQ := hid (hq)
 have HF := hid (hf)
 obtain ⟨R, hR⟩ : ∃ R, finD l id F = R := ⟨_, rfl⟩
 have HRD : Hid (finD l id F = R) := hR
 obtain ⟨v, hv⟩ : ∃ v, finF l id F = v := ⟨_, rfl⟩
 have HV : Hid (finF l id F = v) := hv
 obtain ⟨M, hM⟩ : ∃ M, proofK l id F.cn F.sn F.tick F.cookie = M := ⟨_, rfl⟩
 have HM : Hid (proofK l id F.cn F.sn F.tick F.cookie = M) := hM
 rw [hR, hv]
 clear hq hf hR hv hM
 obtain ⟨x1, hx1⟩ : ∃ zz, (w.alloc (.cells #[.int .i64 F.kind, .int .i64 F.id, .slice SF.cn.a SF.cn.n SF.cn.c, .slice SF.sn.a SF.sn.n SF.sn.c, .int .i64 F.tick, .slice SF.cookie.a SF.cookie.n SF.cookie.c, .slice SF.proof.a SF.proof.n SF.proof.c, .int .i64 F.epoch, .int .i64 F.seq, .slice SF.body.a SF.body.n SF.body.c, .slice SF.tag.a SF.tag.n SF.tag.c] 25)).alloc (.cells #[.int .i64 0, .int .i64 0, .slice none 0 0, .slice none 0 0, .int .i64 0, .slice none 0 0, .slice none 0 0, .int .i64 0, .int .i64 0, .slice none 0 0, .slice none 0 0] 25) = zz := ⟨_, rfl⟩
 have HWA := hid (hx1)
 have b1 : Below w.heap.size w x1 := by rw [← hx1]; exact (((Below.refl _ _).alloc (Nat.le_refl _) _).alloc (by simp) _)
 have KFN : Blk x1 (w.heap.size) 25 [.int .i64 F.kind, .int .i64 F.id, .slice SF.cn.a SF.cn.n SF.cn.c, .slice SF.sn.a SF.sn.n SF.sn.c, .int .i64 F.tick, .slice SF.cookie.a SF.cookie.n SF.cookie.c, .slice SF.proof.a SF.proof.n SF.proof.c, .int .i64 F.epoch, .int .i64 F.seq, .slice SF.body.a SF.body.n SF.body.c, .slice SF.tag.a SF.tag.n SF.tag.c] := by
  have q := (Blk.new (w) 25 [.int .i64 F.kind, .int .i64 F.id, .slice SF.cn.a SF.cn.n SF.cn.c, .slice SF.sn.a SF.sn.n SF.sn.c, .int .i64 F.tick, .slice SF.cookie.a SF.cookie.n SF.cookie.c, .slice SF.proof.a SF.proof.n SF.proof.c, .int .i64 F.epoch, .int .i64 F.seq, .slice SF.body.a SF.body.n SF.body.c, .slice SF.tag.a SF.tag.n SF.tag.c])
  skip
  rw [← hx1]; exact q.alloc _
 have KON : Blk x1 (w.heap.size + 1) 25 [.int .i64 0, .int .i64 0, .slice none 0 0, .slice none 0 0, .int .i64 0, .slice none 0 0, .slice none 0 0, .int .i64 0, .int .i64 0, .slice none 0 0, .slice none 0 0] := by
  have q := (Blk.new ((w.alloc (.cells #[.int .i64 F.kind, .int .i64 F.id, .slice SF.cn.a SF.cn.n SF.cn.c, .slice SF.sn.a SF.sn.n SF.sn.c, .int .i64 F.tick, .slice SF.cookie.a SF.cookie.n SF.cookie.c, .slice SF.proof.a SF.proof.n SF.proof.c, .int .i64 F.epoch, .int .i64 F.seq, .slice SF.body.a SF.body.n SF.body.c, .slice SF.tag.a SF.tag.n SF.tag.c] 25))) 25 [.int .i64 0, .int .i64 0, .slice none 0 0, .slice none 0 0, .int .i64 0, .slice none 0 0, .slice none 0 0, .int .i64 0, .int .i64 0, .slice none 0 0, .slice none 0 0])
  rw [World.size_alloc] at q
  rw [← hx1]; exact q
 have SZA : x1.heap.size = w.heap.size + 2 := by rw [← hx1]; simp
 clear hx1
 have L1 := hid (b1.size)
 have B1 := hid (b1)
 clear b1
 unfold frV
 go_enter Tryz.func9, Tryz.ntmps9
 go_upto_region 1 with fail
 rw [HWA.out]
 obtain ⟨gf, hgf⟩ : ∃ g, w.heap.size = g := ⟨_, rfl⟩
 obtain ⟨go, hgo⟩ : ∃ g, w.heap.size + 1 = g := ⟨_, rfl⟩
 have GA : Hid (w.heap.size = gf ∧ gf + 1 = go ∧ x1.heap.size = gf + 2) := ⟨hgf, by omega, by omega⟩
 rw [hgf] at KFN
 rw [hgo] at KON
 rw [hgo, hgf]
 clear HWA SZA hgf hgo
 have KF1 := hid (KFN)
 have KO1 := hid (KON)
 clear KFN KON
 obtain ⟨d0, d1, d2, d3, d4, d5, d6, d7, d8, d9, d10⟩ := cells11 KF1.out
 go_wp2_with fail
 refine (FrS.specFrameOk SF F x1 (HF.out.later B1.out)).mono ?_
 rintro e x2 ⟨rfl, b⟩
 have L2 := hid (b.size)
 have B2 := hid (B1.out.trans (b.mono B1.out.size))
 have KF2 := hid (KF1.out.later b)
 have KO2 := hid (KO1.out.later b)
 clear b B1 KF1 KO1
 clear d0 d1 d2 d3 d4 d5 d6 d7 d8 d9 d10
 obtain ⟨d0, d1, d2, d3, d4, d5, d6, d7, d8, d9, d10⟩ := cells11 KF2.out
 cases h0 : frameOk F with
 | false =>
  have HN : Hid (finF l id F = false) := by show finF _ _ _ = false; unfold finF; rw [h0]; rfl
  obtain rfl : v = false := by rw [← HV.out]; exact HN.out
  obtain rfl : R = FrG.zeroF := by rw [← HRD.out]; exact finD_no HN.out
  have co0 := KO2.out.cell 0 rfl
  have fo0 := KO2.out.frozen 0
  have co1 := KO2.out.cell 1 rfl
  have fo1 := KO2.out.frozen 1
  have co2 := KO2.out.cell 2 rfl
  have fo2 := KO2.out.frozen 2
  have co3 := KO2.out.cell 3 rfl
  have fo3 := KO2.out.frozen 3
  have co4 := KO2.out.cell 4 rfl
  have fo4 := KO2.out.frozen 4
  have co5 := KO2.out.cell 5 rfl
  have fo5 := KO2.out.frozen 5
  have co6 := KO2.out.cell 6 rfl
  have fo6 := KO2.out.frozen 6
  have co7 := KO2.out.cell 7 rfl
  have fo7 := KO2.out.frozen 7
  have co8 := KO2.out.cell 8 rfl
  have fo8 := KO2.out.frozen 8
  have co9 := KO2.out.cell 9 rfl
  have fo9 := KO2.out.frozen 9
  have co10 := KO2.out.cell 10 rfl
  have fo10 := KO2.out.frozen 10
  go_wp2
  obtain ⟨k1, k2, k3⟩ := fr_stored (D := FrG.zeroF) (S := (⟨⟨none, 0, 0⟩, ⟨none, 0, 0⟩, ⟨none, 0, 0⟩, ⟨none, 0, 0⟩, ⟨none, 0, 0⟩, ⟨none, 0, 0⟩⟩ : FrS)) KO2.out (own_nil x2 x2.heap.size x2.heap.size) (.inl (by have := hid3 L1 GA L2; omega))
  exact bodyPost_ret (v := .tuple #[frV FrG.zeroF (⟨⟨none, 0, 0⟩, ⟨none, 0, 0⟩, ⟨none, 0, 0⟩, ⟨none, 0, 0⟩, ⟨none, 0, 0⟩, ⟨none, 0, 0⟩⟩ : FrS), .bool false]) (res2 rfl (is_cell rfl k1 aggFr) (is_tmp rfl)) rfl ⟨(⟨⟨none, 0, 0⟩, ⟨none, 0, 0⟩, ⟨none, 0, 0⟩, ⟨none, 0, 0⟩, ⟨none, 0, 0⟩, ⟨none, 0, 0⟩⟩ : FrS), rfl, own_nil _ _ _, k3 _ _ (by have := hid3 L1 GA L2; omega) B2.out⟩
 | true =>
  cases h1 : (F.kind == 2) with
  | false =>
   have hne : (F.kind != 2) = true := by simpa using h1
   have HN : Hid (finF l id F = false) := by show finF _ _ _ = false; unfold finF; rw [h1]; simp
   obtain rfl : v = false := by rw [← HV.out]; exact HN.out
   obtain rfl : R = FrG.zeroF := by rw [← HRD.out]; exact finD_no HN.out
   have co0 := KO2.out.cell 0 rfl
   have fo0 := KO2.out.frozen 0
   have co1 := KO2.out.cell 1 rfl
   have fo1 := KO2.out.frozen 1
   have co2 := KO2.out.cell 2 rfl
   have fo2 := KO2.out.frozen 2
   have co3 := KO2.out.cell 3 rfl
   have fo3 := KO2.out.frozen 3
   have co4 := KO2.out.cell 4 rfl
   have fo4 := KO2.out.frozen 4
   have co5 := KO2.out.cell 5 rfl
   have fo5 := KO2.out.frozen 5
   have co6 := KO2.out.cell 6 rfl
   have fo6 := KO2.out.frozen 6
   have co7 := KO2.out.cell 7 rfl
   have fo7 := KO2.out.frozen 7
   have co8 := KO2.out.cell 8 rfl
   have fo8 := KO2.out.frozen 8
   have co9 := KO2.out.cell 9 rfl
   have fo9 := KO2.out.frozen 9
   have co10 := KO2.out.cell 10 rfl
   have fo10 := KO2.out.frozen 10
   go_wp2
   obtain ⟨k1, k2, k3⟩ := fr_stored (D := FrG.zeroF) (S := (⟨⟨none, 0, 0⟩, ⟨none, 0, 0⟩, ⟨none, 0, 0⟩, ⟨none, 0, 0⟩, ⟨none, 0, 0⟩, ⟨none, 0, 0⟩⟩ : FrS)) KO2.out (own_nil x2 x2.heap.size x2.heap.size) (.inl (by have := hid3 L1 GA L2; omega))
   exact bodyPost_ret (v := .tuple #[frV FrG.zeroF (⟨⟨none, 0, 0⟩, ⟨none, 0, 0⟩, ⟨none, 0, 0⟩, ⟨none, 0, 0⟩, ⟨none, 0, 0⟩, ⟨none, 0, 0⟩⟩ : FrS), .bool false]) (res2 rfl (is_cell rfl k1 aggFr) (is_tmp rfl)) rfl ⟨(⟨⟨none, 0, 0⟩, ⟨none, 0, 0⟩, ⟨none, 0, 0⟩, ⟨none, 0, 0⟩, ⟨none, 0, 0⟩, ⟨none, 0, 0⟩⟩ : FrS), rfl, own_nil _ _ _, k3 _ _ (by have := hid3 L1 GA L2; omega) B2.out⟩
  | true =>
   have hne : (F.kind != 2) = false := by simpa using h1
   have HSH : Hid (FrShort F 1000) := by have q := FrB.ok_lens F h0; exact ⟨by omega, by omega, by omega, by omega, by omega, by omega⟩
   go_wp2_with fail
   refine (KeT.specProof q l id SF.cn SF.sn F.cn F.sn F.tick SF.cookie F.cookie x2 (HQ.out.later B2.out) (HF.out.later B2.out).cn (HF.out.later B2.out).sn (HF.out.later B2.out).cookie).mono ?_
   rw [HM.out]
   rintro e x3 ⟨T, rfl, o, b⟩
   clear d0 d1 d2 d3 d4 d5 d6 d7 d8 d9 d10
   have L3 := hid (b.size)
   have B3 := hid (B2.out.trans (b.mono B2.out.size))
   have KF3 := hid (KF2.out.later b)
   have KO3 := hid (KO2.out.later b)
   clear b B2 KF2 KO2
   have OT3 := hid (o)
   clear o
   have HTZ : Hid (((T.n : Int) == 0) = (M.length == 0)) := len_zero _ _ OT3.out.len
   cases h2 : (M.length == 0) with
   | true =>
    have hz : ((T.n : Int) == 0) = true := HTZ.out.trans h2
    have HN : Hid (finF l id F = false) := by show finF _ _ _ = false; unfold finF; rw [HM.out, h2]; simp
    obtain rfl : v = false := by rw [← HV.out]; exact HN.out
    obtain rfl : R = FrG.zeroF := by rw [← HRD.out]; exact finD_no HN.out
    have co0 := KO3.out.cell 0 rfl
    have fo0 := KO3.out.frozen 0
    have co1 := KO3.out.cell 1 rfl
    have fo1 := KO3.out.frozen 1
    have co2 := KO3.out.cell 2 rfl
    have fo2 := KO3.out.frozen 2
    have co3 := KO3.out.cell 3 rfl
    have fo3 := KO3.out.frozen 3
    have co4 := KO3.out.cell 4 rfl
    have fo4 := KO3.out.frozen 4
    have co5 := KO3.out.cell 5 rfl
    have fo5 := KO3.out.frozen 5
    have co6 := KO3.out.cell 6 rfl
    have fo6 := KO3.out.frozen 6
    have co7 := KO3.out.cell 7 rfl
    have fo7 := KO3.out.frozen 7
    have co8 := KO3.out.cell 8 rfl
    have fo8 := KO3.out.frozen 8
    have co9 := KO3.out.cell 9 rfl
    have fo9 := KO3.out.frozen 9
    have co10 := KO3.out.cell 10 rfl
    have fo10 := KO3.out.frozen 10
    go_wp2
    obtain ⟨k1, k2, k3⟩ := fr_stored (D := FrG.zeroF) (S := (⟨⟨none, 0, 0⟩, ⟨none, 0, 0⟩, ⟨none, 0, 0⟩, ⟨none, 0, 0⟩, ⟨none, 0, 0⟩, ⟨none, 0, 0⟩⟩ : FrS)) KO3.out (own_nil x3 x3.heap.size x3.heap.size) (.inl (by have := hid4 L1 GA L2 L3; omega))
    exact bodyPost_ret (v := .tuple #[frV FrG.zeroF (⟨⟨none, 0, 0⟩, ⟨none, 0, 0⟩, ⟨none, 0, 0⟩, ⟨none, 0, 0⟩, ⟨none, 0, 0⟩, ⟨none, 0, 0⟩⟩ : FrS), .bool false]) (res2 rfl (is_cell rfl k1 aggFr) (is_tmp rfl)) rfl ⟨(⟨⟨none, 0, 0⟩, ⟨none, 0, 0⟩, ⟨none, 0, 0⟩, ⟨none, 0, 0⟩, ⟨none, 0, 0⟩, ⟨none, 0, 0⟩⟩ : FrS), rfl, own_nil _ _ _, k3 _ _ (by have := hid4 L1 GA L2 L3; omega) B3.out⟩
   | false =>
    have hz : ((T.n : Int) == 0) = false := HTZ.out.trans h2
    have HY : Hid (finF l id F = true) := by show finF _ _ _ = true; unfold finF; rw [HM.out, h0, h1, h2]; rfl
    obtain rfl : v = true := by rw [← HV.out]; exact HY.out
    obtain rfl : R = { F with kind := 3, id := id, proof := M } := by rw [← HRD.out, ← HM.out]; exact finD_yes HY.out
    obtain ⟨d0, d1, d2, d3, d4, d5, d6, d7, d8, d9, d10⟩ := cells11 KF3.out
    go_wp2_with fail
    refine (DrCq.l7CopyOwn SF F x3 (HF.out.later B3.out) HSH.out).mono ?_
    rintro e x4 ⟨S2, rfl, o, b⟩
    clear d0 d1 d2 d3 d4 d5 d6 d7 d8 d9 d10
    have L4 := hid (b.size)
    have B4 := hid (B3.out.trans (b.mono B3.out.size))
    have KF4 := hid (KF3.out.later b)
    have KO4 := hid (KO3.out.later b)
    have OT4 := hid (OT3.out.later b)
    clear b B3 KF3 KO3 OT3
    have OC4 := hid (o)
    clear o h0 h1 hne hz h2
    clear KF4
    obtain ⟨x5, hx5⟩ : ∃ x5, x4.alloc (.cells #[.int .i64 F.kind, .int .i64 F.id, .slice S2.cn.a S2.cn.n S2.cn.c, .slice S2.sn.a S2.sn.n S2.sn.c, .int .i64 F.tick, .slice S2.cookie.a S2.cookie.n S2.cookie.c, .slice S2.proof.a S2.proof.n S2.proof.c, .int .i64 F.epoch, .int .i64 F.seq, .slice S2.body.a S2.body.n S2.body.c, .slice S2.tag.a S2.tag.n S2.tag.c] 25) = x5 := ⟨_, rfl⟩
    have HW5 := hid (hx5)
    have b5 : Below x4.heap.size x4 x5 := by rw [← hx5]; exact (Below.refl _ _).alloc (Nat.le_refl _) _
    have KN : Blk x5 x4.heap.size 25 [.int .i64 F.kind, .int .i64 F.id, .slice S2.cn.a S2.cn.n S2.cn.c, .slice S2.sn.a S2.sn.n S2.sn.c, .int .i64 F.tick, .slice S2.cookie.a S2.cookie.n S2.cookie.c, .slice S2.proof.a S2.proof.n S2.proof.c, .int .i64 F.epoch, .int .i64 F.seq, .slice S2.body.a S2.body.n S2.body.c, .slice S2.tag.a S2.tag.n S2.tag.c] := by rw [← hx5]; exact Blk.new x4 _ _
    have HSZ5 : Hid (x5.heap.size = x4.heap.size + 1) := by rw [← hx5]; show _ = _; simp
    clear hx5
    have L5 := hid (b5.size)
    have B5 := hid (B4.out.trans (b5.mono B4.out.size))
    have KO5 := hid (KO4.out.later b5)
    have OT5 := hid (OT4.out.later b5)
    have OC5 := hid (OC4.out.later b5)
    clear b5 B4 KO4 OT4 OC4
    unfold frV
    go_upto_region 7 with fail
    rw [HW5.out]
    obtain ⟨gg, hgg⟩ : ∃ g, x4.heap.size = g := ⟨_, rfl⟩
    have Ggg : Hid (x4.heap.size = gg ∧ x5.heap.size = gg + 1) := ⟨hgg, by rw [← hgg]; exact HSZ5.out⟩
    rw [hgg] at KN ⊢
    clear HW5 HSZ5 hgg
    have KG5 := hid (KN)
    clear KN
    have co := KG5.out.cell 0 rfl
    have fo := KG5.out.frozen 0
    obtain ⟨x6, hx6⟩ : ∃ x6, x5.setCell ⟨gg, 0, none⟩ (.int .i64 3) = x6 := ⟨_, rfl⟩
    have HW6 := hid (hx6)
    have L6 : Hid (x6.heap.size = x5.heap.size) := by rw [← hx6]; show _ = _; simp
    have B6 : Hid (Below w.heap.size w x6) := by rw [← hx6]; exact B5.out.setCell (by show _ ≤ gg; have := hid7 L1 GA L2 L3 L4 L5 Ggg; omega) _
    have KO6 : Hid (Blk x6 go 25 [.int .i64 0, .int .i64 0, .slice none 0 0, .slice none 0 0, .int .i64 0, .slice none 0 0, .slice none 0 0, .int .i64 0, .int .i64 0, .slice none 0 0, .slice none 0 0]) := by rw [← hx6]; exact KO5.out.other (by show go ≠ gg; have := hid7 L1 GA L2 L3 L4 L5 Ggg; omega) _
    have OT6 : Hid (SOwn x6 x2.heap.size x3.heap.size T M) := by rw [← hx6]; exact OT5.out.carry (Kept.setCell _ _ _ _) (by have := hid7 L1 GA L2 L3 L4 L5 Ggg; omega)
    have OC6 : Hid (FrOwn x6 x3.heap.size x4.heap.size S2 F) := by rw [← hx6]; exact OC5.out.carry (Kept.setCell _ _ _ _) (by have := hid7 L1 GA L2 L3 L4 L5 Ggg; omega)
    have KG6 : Hid (Blk x6 gg 25 [.int .i64 3, .int .i64 F.id, .slice S2.cn.a S2.cn.n S2.cn.c, .slice S2.sn.a S2.sn.n S2.sn.c, .int .i64 F.tick, .slice S2.cookie.a S2.cookie.n S2.cookie.c, .slice S2.proof.a S2.proof.n S2.proof.c, .int .i64 F.epoch, .int .i64 F.seq, .slice S2.body.a S2.body.n S2.body.c, .slice S2.tag.a S2.tag.n S2.tag.c]) := by rw [← hx6]; exact KG5.out.set 0 _ (by simp [maxLen])
    clear hx6 B5 KO5 OT5 OC5 KG5
    go_upto_region 8 with fail
    rw [HW6.out]
    clear HW6 co fo
    have co := KG6.out.cell 1 rfl
    have fo := KG6.out.frozen 1
    obtain ⟨x7, hx7⟩ : ∃ x7, x6.setCell ⟨gg, 1, none⟩ (.int .i64 id) = x7 := ⟨_, rfl⟩
    have HW7 := hid (hx7)
    have L7 : Hid (x7.heap.size = x6.heap.size) := by rw [← hx7]; show _ = _; simp
    have B7 : Hid (Below w.heap.size w x7) := by rw [← hx7]; exact B6.out.setCell (by show _ ≤ gg; have := hid8 L1 GA L2 L3 L4 L5 Ggg L6; omega) _
    have KO7 : Hid (Blk x7 go 25 [.int .i64 0, .int .i64 0, .slice none 0 0, .slice none 0 0, .int .i64 0, .slice none 0 0, .slice none 0 0, .int .i64 0, .int .i64 0, .slice none 0 0, .slice none 0 0]) := by rw [← hx7]; exact KO6.out.other (by show go ≠ gg; have := hid8 L1 GA L2 L3 L4 L5 Ggg L6; omega) _
    have OT7 : Hid (SOwn x7 x2.heap.size x3.heap.size T M) := by rw [← hx7]; exact OT6.out.carry (Kept.setCell _ _ _ _) (by have := hid8 L1 GA L2 L3 L4 L5 Ggg L6; omega)
    have OC7 : Hid (FrOwn x7 x3.heap.size x4.heap.size S2 F) := by rw [← hx7]; exact OC6.out.carry (Kept.setCell _ _ _ _) (by have := hid8 L1 GA L2 L3 L4 L5 Ggg L6; omega)
    have KG7 : Hid (Blk x7 gg 25 [.int .i64 3, .int .i64 id, .slice S2.cn.a S2.cn.n S2.cn.c, .slice S2.sn.a S2.sn.n S2.sn.c, .int .i64 F.tick, .slice S2.cookie.a S2.cookie.n S2.cookie.c, .slice S2.proof.a S2.proof.n S2.proof.c, .int .i64 F.epoch, .int .i64 F.seq, .slice S2.body.a S2.body.n S2.body.c, .slice S2.tag.a S2.tag.n S2.tag.c]) := by rw [← hx7]; exact KG6.out.set 1 _ (by simp [maxLen])
    clear hx7 B6 KO6 OT6 OC6 KG6
    go_upto_region 9 with fail
    rw [HW7.out]
    clear HW7 co fo
    have co := KG7.out.cell 6 rfl
    have fo := KG7.out.frozen 6
    obtain ⟨x8, hx8⟩ : ∃ x8, x7.setCell ⟨gg, 6, none⟩ (.slice T.a T.n T.c) = x8 := ⟨_, rfl⟩
    have HW8 := hid (hx8)
    have L8 : Hid (x8.heap.size = x7.heap.size) := by rw [← hx8]; show _ = _; simp
    have B8 : Hid (Below w.heap.size w x8) := by rw [← hx8]; exact B7.out.setCell (by show _ ≤ gg; have := hid8 L1 GA L2 L3 L4 L5 Ggg L6; have := L7.out; omega) _
    have KO8 : Hid (Blk x8 go 25 [.int .i64 0, .int .i64 0, .slice none 0 0, .slice none 0 0, .int .i64 0, .slice none 0 0, .slice none 0 0, .int .i64 0, .int .i64 0, .slice none 0 0, .slice none 0 0]) := by rw [← hx8]; exact KO7.out.other (by show go ≠ gg; have := hid8 L1 GA L2 L3 L4 L5 Ggg L6; have := L7.out; omega) _
    have OT8 : Hid (SOwn x8 x2.heap.size x3.heap.size T M) := by rw [← hx8]; exact OT7.out.carry (Kept.setCell _ _ _ _) (by have := hid8 L1 GA L2 L3 L4 L5 Ggg L6; have := L7.out; omega)
    have OC8 : Hid (FrOwn x8 x3.heap.size x4.heap.size S2 F) := by rw [← hx8]; exact OC7.out.carry (Kept.setCell _ _ _ _) (by have := hid8 L1 GA L2 L3 L4 L5 Ggg L6; have := L7.out; omega)
    have KG8 : Hid (Blk x8 gg 25 [.int .i64 3, .int .i64 id, .slice S2.cn.a S2.cn.n S2.cn.c, .slice S2.sn.a S2.sn.n S2.sn.c, .int .i64 F.tick, .slice S2.cookie.a S2.cookie.n S2.cookie.c, .slice T.a T.n T.c, .int .i64 F.epoch, .int .i64 F.seq, .slice S2.body.a S2.body.n S2.body.c, .slice S2.tag.a S2.tag.n S2.tag.c]) := by rw [← hx8]; exact KG7.out.set 6 _ (by simp [maxLen])
    clear hx8 B7 KO7 OT7 OC7 KG7
    go_upto_region 10 with fail
    rw [HW8.out]
    clear HW8 co fo
    obtain ⟨d0, d1, d2, d3, d4, d5, d6, d7, d8, d9, d10⟩ := cells11 KG8.out
    have co0 := KO8.out.cell 0 rfl
    have fo0 := KO8.out.frozen 0
    have co1 := KO8.out.cell 1 rfl
    have fo1 := KO8.out.frozen 1
    have co2 := KO8.out.cell 2 rfl
    have fo2 := KO8.out.frozen 2
    have co3 := KO8.out.cell 3 rfl
    have fo3 := KO8.out.frozen 3
    have co4 := KO8.out.cell 4 rfl
    have fo4 := KO8.out.frozen 4
    have co5 := KO8.out.cell 5 rfl
    have fo5 := KO8.out.frozen 5
    have co6 := KO8.out.cell 6 rfl
    have fo6 := KO8.out.frozen 6
    have co7 := KO8.out.cell 7 rfl
    have fo7 := KO8.out.frozen 7
    have co8 := KO8.out.cell 8 rfl
    have fo8 := KO8.out.frozen 8
    have co9 := KO8.out.cell 9 rfl
    have fo9 := KO8.out.frozen 9
    have co10 := KO8.out.cell 10 rfl
    have fo10 := KO8.out.frozen 10
    go_wp2
    have OW : FrOwn x8 x2.heap.size x8.heap.size (⟨S2.cn, S2.sn, S2.cookie, T, S2.body, S2.tag⟩ : FrS) ({ F with kind := 3, id := id, proof := M } : FrD) := fin_own id OT8.out OC8.out (by have := hid8 L1 GA L2 L3 L4 L5 Ggg L6; have := hid2 L7 L8; omega) (by have := hid8 L1 GA L2 L3 L4 L5 Ggg L6; have := hid2 L7 L8; omega) (by have := hid8 L1 GA L2 L3 L4 L5 Ggg L6; have := hid2 L7 L8; omega) (by have := hid8 L1 GA L2 L3 L4 L5 Ggg L6; have := hid2 L7 L8; omega) (by have := hid8 L1 GA L2 L3 L4 L5 Ggg L6; have := hid2 L7 L8; omega)
    obtain ⟨k1, k2, k3⟩ := fr_stored (D := ({ F with kind := 3, id := id, proof := M } : FrD)) (S := (⟨S2.cn, S2.sn, S2.cookie, T, S2.body, S2.tag⟩ : FrS)) KO8.out OW (.inl (by have := hid8 L1 GA L2 L3 L4 L5 Ggg L6; have := hid2 L7 L8; omega))
    exact bodyPost_ret (v := .tuple #[frV ({ F with kind := 3, id := id, proof := M } : FrD) (⟨S2.cn, S2.sn, S2.cookie, T, S2.body, S2.tag⟩ : FrS), .bool true]) (res2 rfl (is_cell rfl k1 aggFr) (is_tmp rfl)) rfl ⟨(⟨S2.cn, S2.sn, S2.cookie, T, S2.body, S2.tag⟩ : FrS), rfl, k2.mono (by have := hid8 L1 GA L2 L3 L4 L5 Ggg L6; have := hid2 L7 L8; omega) (by rw [fr_size]; exact Nat.le_refl _), k3 _ _ (by have := hid8 L1 GA L2 L3 L4 L5 Ggg L6; have := hid2 L7 L8; omega) B8.out⟩
end Go.Proofs.YtpenhliaelhnoaaGreatDoor.KeX

/-
  What impl finishes of a cookie.
-/
import Derived.Test.YtpenhliaelhnoaaGreatDoorVaKeV
import Derived.Test.YtpenhliaelhnoaaGreatDoorVaFrW2
import Derived.Test.YtpenhliaelhnoaaGreatDoorVaFrGe
import Derived.Test.YtpenhliaelhnoaaGreatDoorVaGz16
set_option maxRecDepth 100000
namespace Go.Proofs.YtpenhliaelhnoaaGreatDoor.KeY
open Go.RowKit Mem App Blk Words Zone Res KeP KeQ KeW DiffP FrZ FrP Shp Each Copy Ops Guard Comp FrL FrGet FrW2

theorem putOwn (s : Sl) (l : List Int) (w : World) (h : SRd w s l) (hl : l.length ≤ 1000) :
  Calls Tryz.prog 51 #[.slice s.a s.n s.c, .slice none 0 0] w fun e w' => e = .returned (.slice (some ⟨w.heap.size, 0, none⟩) s.n s.n) ∧ Row w' w.heap.size s.n l ∧ Below w.heap.size w w' :=
 (putBytes s.a none s.n s.c 0 0 l [] w h.len rfl h.rd (fun i hi => by cases hi) h.nil (fun _ => rfl) (by omega) (by simp)).mono fun _ _ q => by simpa using q
theorem other_cell (w : World) (g i n : Nat) (v : Value) (h : i ≠ g) : (w.setCell ⟨g, n, none⟩ v).heap[i]? = w.heap[i]? := Below.heap_setCell w ⟨g, n, none⟩ v i h
theorem cook_put {w : World} {g : Nat} {u0 u1 u2 u3 : Value} (v0 v1 v2 v3 : Value) (k : Blk w g 54 [u0, u1, u2, u3]) :
  Blk ((((w.setCell ⟨g, 0, none⟩ v0).setCell ⟨g, 1, none⟩ v1).setCell ⟨g, 2, none⟩ v2).setCell ⟨g, 3, none⟩ v3) g 54 [v0, v1, v2, v3] ∧ (∀ B a, B ≤ g → Below B a w → Below B a ((((w.setCell ⟨g, 0, none⟩ v0).setCell ⟨g, 1, none⟩ v1).setCell ⟨g, 2, none⟩ v2).setCell ⟨g, 3, none⟩ v3)) ∧ (∀ i, i ≠ g → ((((w.setCell ⟨g, 0, none⟩ v0).setCell ⟨g, 1, none⟩ v1).setCell ⟨g, 2, none⟩ v2).setCell ⟨g, 3, none⟩ v3).heap[i]? = w.heap[i]?) := by
 refine ⟨(((k.set 0 _ (by simp [maxLen])).set 1 _ (by simp [maxLen])).set 2 _ (by simp [maxLen])).set 3 _ (by simp [maxLen]), fun B a hB h => (((h.setCell (by exact hB) _).setCell (by exact hB) _).setCell (by exact hB) _).setCell (by exact hB) _, fun i hi => ?_⟩
 rw [other_cell _ _ _ _ _ hi, other_cell _ _ _ _ _ hi, other_cell _ _ _ _ _ hi, other_cell _ _ _ _ _ hi]

abbrev DL1 : List Nat := [3, 4, 5, 6, 7, 8, 9, 10, 11, 12, 13, 14]
set_option maxHeartbeats 8000000 in
theorem ownCookie (SF : FrS) (F : FrD) (w : World) (hf : FrRd w SF F) (hs : FrShort F 1000) :
  Calls Tryz.prog 32 #[frV F SF] w fun e w' => ∃ g1 g2 g3, e = .returned (.agg #[.slice (some ⟨g1, 0, none⟩) SF.cn.n SF.cn.n, .slice (some ⟨g2, 0, none⟩) SF.sn.n SF.sn.n, .int .i64 F.tick, .slice (some ⟨g3, 0, none⟩) SF.cookie.n SF.cookie.n]) ∧ Row w' g1 SF.cn.n F.cn ∧ Row w' g2 SF.sn.n F.sn ∧ Row w' g3 SF.cookie.n F.cookie ∧ (w.heap.size ≤ g1 ∧ w.heap.size ≤ g2 ∧ w.heap.size ≤ g3 ∧ g1 ≠ g2 ∧ g1 ≠ g3 ∧ g2 ≠ g3) ∧ Below w.heap.size w w' := by
 have HF := hid (hf)
 have HSH := hid (hs)
 clear hf hs
 obtain ⟨x1, hx1⟩ : ∃ zz, (w.alloc (.cells #[.int .i64 F.kind, .int .i64 F.id, .slice SF.cn.a SF.cn.n SF.cn.c, .slice SF.sn.a SF.sn.n SF.sn.c, .int .i64 F.tick, .slice SF.cookie.a SF.cookie.n SF.cookie.c, .slice SF.proof.a SF.proof.n SF.proof.c, .int .i64 F.epoch, .int .i64 F.seq, .slice SF.body.a SF.body.n SF.body.c, .slice SF.tag.a SF.tag.n SF.tag.c] 25)).alloc (.cells #[.slice none 0 0, .slice none 0 0, .int .i64 0, .slice none 0 0] 54) = zz := ⟨_, rfl⟩
 have HWA := hid (hx1)
 have b1 : Below w.heap.size w x1 := by rw [← hx1]; exact (((Below.refl _ _).alloc (Nat.le_refl _) _).alloc (by simp) _)
 have KFN : Blk x1 (w.heap.size) 25 [.int .i64 F.kind, .int .i64 F.id, .slice SF.cn.a SF.cn.n SF.cn.c, .slice SF.sn.a SF.sn.n SF.sn.c, .int .i64 F.tick, .slice SF.cookie.a SF.cookie.n SF.cookie.c, .slice SF.proof.a SF.proof.n SF.proof.c, .int .i64 F.epoch, .int .i64 F.seq, .slice SF.body.a SF.body.n SF.body.c, .slice SF.tag.a SF.tag.n SF.tag.c] := by
  have q := (Blk.new (w) 25 [.int .i64 F.kind, .int .i64 F.id, .slice SF.cn.a SF.cn.n SF.cn.c, .slice SF.sn.a SF.sn.n SF.sn.c, .int .i64 F.tick, .slice SF.cookie.a SF.cookie.n SF.cookie.c, .slice SF.proof.a SF.proof.n SF.proof.c, .int .i64 F.epoch, .int .i64 F.seq, .slice SF.body.a SF.body.n SF.body.c, .slice SF.tag.a SF.tag.n SF.tag.c])
  skip
  rw [← hx1]; exact q.alloc _
 have KON : Blk x1 (w.heap.size + 1) 54 [.slice none 0 0, .slice none 0 0, .int .i64 0, .slice none 0 0] := by
  have q := (Blk.new ((w.alloc (.cells #[.int .i64 F.kind, .int .i64 F.id, .slice SF.cn.a SF.cn.n SF.cn.c, .slice SF.sn.a SF.sn.n SF.sn.c, .int .i64 F.tick, .slice SF.cookie.a SF.cookie.n SF.cookie.c, .slice SF.proof.a SF.proof.n SF.proof.c, .int .i64 F.epoch, .int .i64 F.seq, .slice SF.body.a SF.body.n SF.body.c, .slice SF.tag.a SF.tag.n SF.tag.c] 25))) 54 [.slice none 0 0, .slice none 0 0, .int .i64 0, .slice none 0 0])
  rw [World.size_alloc] at q
  rw [← hx1]; exact q
 have SZA : x1.heap.size = w.heap.size + 2 := by rw [← hx1]; simp
 clear hx1
 have L1 := hid (b1.size)
 have B1 := hid (b1)
 clear b1
 unfold frV
 go_enter Tryz.func32, Tryz.ntmps32
 go_upto_region 1 with fail
 rw [HWA.out]
 obtain ⟨gf, hgf⟩ : ∃ g, w.heap.size = g := ⟨_, rfl⟩
 obtain ⟨go, hgo⟩ : ∃ g, w.heap.size + 1 = g := ⟨_, rfl⟩
 have GA : Hid (w.heap.size = gf ∧ gf + 1 = go ∧ x1.heap.size = gf + 2) := ⟨hgf, by omega, by omega⟩
 rw [hgf] at KFN
 rw [hgo] at KON
 rw [hgo, hgf]
 clear HWA SZA hgf hgo
 have KF1 := hid (KFN)
 have KO1 := hid (KON)
 clear KFN KON
 go_cut [14] from 3 to 13 (fun s14 wx => ∃ g1 g2 g3, (x1.heap.size ≤ g1 ∧ x1.heap.size ≤ g2 ∧ x1.heap.size ≤ g3 ∧ g1 ≠ g2 ∧ g1 ≠ g3 ∧ g2 ≠ g3) ∧ Row wx g1 SF.cn.n F.cn ∧ Row wx g2 SF.sn.n F.sn ∧ Row wx g3 SF.cookie.n F.cookie ∧ Blk wx go 54 [.slice (some ⟨g1, 0, none⟩) SF.cn.n SF.cn.n, .slice (some ⟨g2, 0, none⟩) SF.sn.n SF.sn.n, .int .i64 F.tick, .slice (some ⟨g3, 0, none⟩) SF.cookie.n SF.cookie.n] ∧ Below w.heap.size w wx)
 case first =>
  rename_i J K' hRJ hMet
  generalize hA : Act.mk _ _ = A
  have a1' : A.eval (.tmp 1) = .pointer (some ⟨gf, 0, none⟩) := by rw [← hA]; rfl
  have a2' : A.eval (.tmp 2) = .pointer (some ⟨go, 0, none⟩) := by rw [← hA]; rfl
  have asz : A.tmps.size = 15 := by rw [← hA]; rfl
  have hKF : ∀ wx, Below x1.heap.size x1 wx → Blk wx gf 25 [.int .i64 F.kind, .int .i64 F.id, .slice SF.cn.a SF.cn.n SF.cn.c, .slice SF.sn.a SF.sn.n SF.sn.c, .int .i64 F.tick, .slice SF.cookie.a SF.cookie.n SF.cookie.c, .slice SF.proof.a SF.proof.n SF.proof.c, .int .i64 F.epoch, .int .i64 F.seq, .slice SF.body.a SF.body.n SF.body.c, .slice SF.tag.a SF.tag.n SF.tag.c] := fun wx hb => KF1.out.later hb
  have hKO : ∀ wx, Below x1.heap.size x1 wx → Blk wx go 54 [.slice none 0 0, .slice none 0 0, .int .i64 0, .slice none 0 0] := fun wx hb => KO1.out.later hb
  have hWB : ∀ wx, Below x1.heap.size x1 wx → Below w.heap.size w wx := fun wx hb => B1.out.trans (hb.mono B1.out.size)
  refine region_each (by kernel_rfl) DL1 12 (fun i => DL1.getD i 0) (fun i => [0, 0, 1, 0, 0, 2, 0, 0, 0, 0, 3, 0].getD i 0)
   (fun i gB v wx => match i with
    | 0 => v = .pointer (some ⟨gf, 2, none⟩)
    | 1 => v = .slice SF.cn.a SF.cn.n SF.cn.c
    | 2 => v = .slice (some ⟨gB, 0, none⟩) SF.cn.n SF.cn.n ∧ Row wx gB SF.cn.n F.cn ∧ x1.heap.size ≤ gB
    | 3 => v = .pointer (some ⟨gf, 3, none⟩)
    | 4 => v = .slice SF.sn.a SF.sn.n SF.sn.c
    | 5 => v = .slice (some ⟨gB, 0, none⟩) SF.sn.n SF.sn.n ∧ Row wx gB SF.sn.n F.sn ∧ x1.heap.size ≤ gB
    | 6 => v = .pointer (some ⟨gf, 4, none⟩)
    | 7 => v = .int .i64 F.tick
    | 8 => v = .pointer (some ⟨gf, 5, none⟩)
    | 9 => v = .slice SF.cookie.a SF.cookie.n SF.cookie.c
    | 10 => v = .slice (some ⟨gB, 0, none⟩) SF.cookie.n SF.cookie.n ∧ Row wx gB SF.cookie.n F.cookie ∧ x1.heap.size ≤ gB
    | 11 => ∃ g1 g2 g3, v = .agg #[.slice (some ⟨g1, 0, none⟩) SF.cn.n SF.cn.n, .slice (some ⟨g2, 0, none⟩) SF.sn.n SF.sn.n, .int .i64 F.tick, .slice (some ⟨g3, 0, none⟩) SF.cookie.n SF.cookie.n] ∧ Row wx g1 SF.cn.n F.cn ∧ Row wx g2 SF.sn.n F.sn ∧ Row wx g3 SF.cookie.n F.cookie ∧ Hid (x1.heap.size ≤ g1 ∧ x1.heap.size ≤ g2 ∧ x1.heap.size ≤ g3 ∧ g1 ≠ g2 ∧ g1 ≠ g3 ∧ g2 ≠ g3)
    | _ => False) (fun wx => Below x1.heap.size x1 wx) (by kernel_rfl) (Below.refl _ _).drew ?_ ?_ ?_
  ·
   intro i gB v wx wy hi hF hb _
   match i, hi with
   | 0, _ => exact hF
   | 1, _ => exact hF
   | 2, _ => obtain ⟨h0, h1, h2⟩ := hF; exact ⟨h0, h1.later hb, h2⟩
   | 3, _ => exact hF
   | 4, _ => exact hF
   | 5, _ => obtain ⟨h0, h1, h2⟩ := hF; exact ⟨h0, h1.later hb, h2⟩
   | 6, _ => exact hF
   | 7, _ => exact hF
   | 8, _ => exact hF
   | 9, _ => exact hF
   | 10, _ => obtain ⟨h0, h1, h2⟩ := hF; exact ⟨h0, h1.later hb, h2⟩
   | 11, _ => obtain ⟨g1, g2, g3, h0, h1, h2, h3, h4⟩ := hF; exact ⟨g1, g2, g3, h0, h1.later hb, h2.later hb, h3.later hb, h4⟩
  ·
   intro i hi t ρ wx hB hp hd
   match i, hi with
   | 0, _ =>
    have e1 : (fr DL1 A t).eval (.tmp 1) = .pointer (some ⟨gf, 0, none⟩) := (fr_eval_old _ _ _ 1 rfl).trans a1'
    refine op_run (v := .pointer (some ⟨gf, 2, none⟩)) (w' := wx) rfl rfl ?_ ?_
    ·
     clear hp hd; have ec : ∀ v, (fr DL1 A t).eval (.const v) = v := fun _ => rfl; generalize (fr DL1 A t).eval = ev at ec e1 ⊢; go_simp
    ·
     exact ⟨_, 0, rfl, hB, Below.refl _ _, rfl, .inl rfl⟩
   | 1, _ =>
    have e3 : (fr DL1 A t).eval (.tmp 3) = .pointer (some ⟨gf, 2, none⟩) := (fr_eval _ _ _ 3 rfl (by rw [asz]; decide)).trans (hp 0 (pre_mem (by kernel_rfl)))
    have hc := (hKF wx hB).cell 2 rfl
    refine op_run (v := .slice SF.cn.a SF.cn.n SF.cn.c) (w' := wx) rfl rfl ?_ ?_
    ·
     clear hp hd; have ec : ∀ v, (fr DL1 A t).eval (.const v) = v := fun _ => rfl; generalize (fr DL1 A t).eval = ev at ec e3 ⊢; go_simp
    ·
     exact ⟨_, 0, rfl, hB, Below.refl _ _, rfl, .inl rfl⟩
   | 2, _ =>
    have e4 : (fr DL1 A t).eval (.tmp 4) = .slice SF.cn.a SF.cn.n SF.cn.c := (fr_eval _ _ _ 4 rfl (by rw [asz]; decide)).trans (hp 1 (pre_mem (by kernel_rfl)))
    refine op_call (f := 51) (args := #[.slice SF.cn.a SF.cn.n SF.cn.c, .slice none 0 0]) rfl rfl ?_ (putOwn SF.cn F.cn wx (HF.out.later (hWB wx hB)).cn HSH.out.cn) ?_
    ·
     have ef : (fr DL1 A t).eval (.func 51) = .func (.func 51) #[] #[] := rfl; clear hp hd; have ec : ∀ v, (fr DL1 A t).eval (.const v) = v := fun _ => rfl; generalize (fr DL1 A t).eval = ev at ec e4 ef ⊢; go_simp
    ·
     rintro e wy ⟨rfl, rr, b1⟩
     exact ⟨_, rfl, _, wx.heap.size, rfl, hB.trans (b1.mono hB.size), b1, ⟨rfl, rr, hB.size⟩, .inr ⟨rr.lt, .inl (Nat.le_refl _)⟩⟩
   | 3, _ =>
    have e1 : (fr DL1 A t).eval (.tmp 1) = .pointer (some ⟨gf, 0, none⟩) := (fr_eval_old _ _ _ 1 rfl).trans a1'
    refine op_run (v := .pointer (some ⟨gf, 3, none⟩)) (w' := wx) rfl rfl ?_ ?_
    ·
     clear hp hd; have ec : ∀ v, (fr DL1 A t).eval (.const v) = v := fun _ => rfl; generalize (fr DL1 A t).eval = ev at ec e1 ⊢; go_simp
    ·
     exact ⟨_, 0, rfl, hB, Below.refl _ _, rfl, .inl rfl⟩
   | 4, _ =>
    have e6 : (fr DL1 A t).eval (.tmp 6) = .pointer (some ⟨gf, 3, none⟩) := (fr_eval _ _ _ 6 rfl (by rw [asz]; decide)).trans (hp 3 (pre_mem (by kernel_rfl)))
    have hc := (hKF wx hB).cell 3 rfl
    refine op_run (v := .slice SF.sn.a SF.sn.n SF.sn.c) (w' := wx) rfl rfl ?_ ?_
    ·
     clear hp hd; have ec : ∀ v, (fr DL1 A t).eval (.const v) = v := fun _ => rfl; generalize (fr DL1 A t).eval = ev at ec e6 ⊢; go_simp
    ·
     exact ⟨_, 0, rfl, hB, Below.refl _ _, rfl, .inl rfl⟩
   | 5, _ =>
    have e7 : (fr DL1 A t).eval (.tmp 7) = .slice SF.sn.a SF.sn.n SF.sn.c := (fr_eval _ _ _ 7 rfl (by rw [asz]; decide)).trans (hp 4 (pre_mem (by kernel_rfl)))
    refine op_call (f := 51) (args := #[.slice SF.sn.a SF.sn.n SF.sn.c, .slice none 0 0]) rfl rfl ?_ (putOwn SF.sn F.sn wx (HF.out.later (hWB wx hB)).sn HSH.out.sn) ?_
    ·
     have ef : (fr DL1 A t).eval (.func 51) = .func (.func 51) #[] #[] := rfl; clear hp hd; have ec : ∀ v, (fr DL1 A t).eval (.const v) = v := fun _ => rfl; generalize (fr DL1 A t).eval = ev at ec e7 ef ⊢; go_simp
    ·
     rintro e wy ⟨rfl, rr, b1⟩
     exact ⟨_, rfl, _, wx.heap.size, rfl, hB.trans (b1.mono hB.size), b1, ⟨rfl, rr, hB.size⟩, .inr ⟨rr.lt, .inl (Nat.le_refl _)⟩⟩
   | 6, _ =>
    have e1 : (fr DL1 A t).eval (.tmp 1) = .pointer (some ⟨gf, 0, none⟩) := (fr_eval_old _ _ _ 1 rfl).trans a1'
    refine op_run (v := .pointer (some ⟨gf, 4, none⟩)) (w' := wx) rfl rfl ?_ ?_
    ·
     clear hp hd; have ec : ∀ v, (fr DL1 A t).eval (.const v) = v := fun _ => rfl; generalize (fr DL1 A t).eval = ev at ec e1 ⊢; go_simp
    ·
     exact ⟨_, 0, rfl, hB, Below.refl _ _, rfl, .inl rfl⟩
   | 7, _ =>
    have e9 : (fr DL1 A t).eval (.tmp 9) = .pointer (some ⟨gf, 4, none⟩) := (fr_eval _ _ _ 9 rfl (by rw [asz]; decide)).trans (hp 6 (pre_mem (by kernel_rfl)))
    have hc := (hKF wx hB).cell 4 rfl
    refine op_run (v := .int .i64 F.tick) (w' := wx) rfl rfl ?_ ?_
    ·
     clear hp hd; have ec : ∀ v, (fr DL1 A t).eval (.const v) = v := fun _ => rfl; generalize (fr DL1 A t).eval = ev at ec e9 ⊢; go_simp
    ·
     exact ⟨_, 0, rfl, hB, Below.refl _ _, rfl, .inl rfl⟩
   | 8, _ =>
    have e1 : (fr DL1 A t).eval (.tmp 1) = .pointer (some ⟨gf, 0, none⟩) := (fr_eval_old _ _ _ 1 rfl).trans a1'
    refine op_run (v := .pointer (some ⟨gf, 5, none⟩)) (w' := wx) rfl rfl ?_ ?_
    ·
     clear hp hd; have ec : ∀ v, (fr DL1 A t).eval (.const v) = v := fun _ => rfl; generalize (fr DL1 A t).eval = ev at ec e1 ⊢; go_simp
    ·
     exact ⟨_, 0, rfl, hB, Below.refl _ _, rfl, .inl rfl⟩
   | 9, _ =>
    have e11 : (fr DL1 A t).eval (.tmp 11) = .pointer (some ⟨gf, 5, none⟩) := (fr_eval _ _ _ 11 rfl (by rw [asz]; decide)).trans (hp 8 (pre_mem (by kernel_rfl)))
    have hc := (hKF wx hB).cell 5 rfl
    refine op_run (v := .slice SF.cookie.a SF.cookie.n SF.cookie.c) (w' := wx) rfl rfl ?_ ?_
    ·
     clear hp hd; have ec : ∀ v, (fr DL1 A t).eval (.const v) = v := fun _ => rfl; generalize (fr DL1 A t).eval = ev at ec e11 ⊢; go_simp
    ·
     exact ⟨_, 0, rfl, hB, Below.refl _ _, rfl, .inl rfl⟩
   | 10, _ =>
    have e12 : (fr DL1 A t).eval (.tmp 12) = .slice SF.cookie.a SF.cookie.n SF.cookie.c := (fr_eval _ _ _ 12 rfl (by rw [asz]; decide)).trans (hp 9 (pre_mem (by kernel_rfl)))
    refine op_call (f := 51) (args := #[.slice SF.cookie.a SF.cookie.n SF.cookie.c, .slice none 0 0]) rfl rfl ?_ (putOwn SF.cookie F.cookie wx (HF.out.later (hWB wx hB)).cookie HSH.out.cookie) ?_
    ·
     have ef : (fr DL1 A t).eval (.func 51) = .func (.func 51) #[] #[] := rfl; clear hp hd; have ec : ∀ v, (fr DL1 A t).eval (.const v) = v := fun _ => rfl; generalize (fr DL1 A t).eval = ev at ec e12 ef ⊢; go_simp
    ·
     rintro e wy ⟨rfl, rr, b1⟩
     exact ⟨_, rfl, _, wx.heap.size, rfl, hB.trans (b1.mono hB.size), b1, ⟨rfl, rr, hB.size⟩, .inr ⟨rr.lt, .inl (Nat.le_refl _)⟩⟩
   | 11, _ =>
    obtain ⟨hv2, q2_0, q2_1⟩ := hp 2 (pre_mem (by kernel_rfl))
    have e5 : (fr DL1 A t).eval (.tmp 5) = .slice (some ⟨(ρ 2), 0, none⟩) SF.cn.n SF.cn.n := (fr_eval _ _ _ 5 rfl (by rw [asz]; decide)).trans hv2
    obtain ⟨hv5, q5_0, q5_1⟩ := hp 5 (pre_mem (by kernel_rfl))
    have e8 : (fr DL1 A t).eval (.tmp 8) = .slice (some ⟨(ρ 5), 0, none⟩) SF.sn.n SF.sn.n := (fr_eval _ _ _ 8 rfl (by rw [asz]; decide)).trans hv5
    have e10 : (fr DL1 A t).eval (.tmp 10) = .int .i64 F.tick := (fr_eval _ _ _ 10 rfl (by rw [asz]; decide)).trans (hp 7 (pre_mem (by kernel_rfl)))
    obtain ⟨hv10, q10_0, q10_1⟩ := hp 10 (pre_mem (by kernel_rfl))
    have e13 : (fr DL1 A t).eval (.tmp 13) = .slice (some ⟨(ρ 10), 0, none⟩) SF.cookie.n SF.cookie.n := (fr_eval _ _ _ 13 rfl (by rw [asz]; decide)).trans hv10
    refine op_run (v := .agg #[.slice (some ⟨(ρ 2), 0, none⟩) SF.cn.n SF.cn.n, .slice (some ⟨(ρ 5), 0, none⟩) SF.sn.n SF.sn.n, .int .i64 F.tick, .slice (some ⟨(ρ 10), 0, none⟩) SF.cookie.n SF.cookie.n]) (w' := wx) rfl rfl ?_ ?_
    ·
     clear hp hd q2_0 q2_1 q5_0 q5_1 q10_0 q10_1; have ec : ∀ v, (fr DL1 A t).eval (.const v) = v := fun _ => rfl; generalize (fr DL1 A t).eval = ev at ec e5 e8 e10 e13 ⊢; go_simp
    ·
     exact ⟨_, 0, rfl, hB, Below.refl _ _, ⟨_, _, _, rfl, q2_0, q5_0, q10_0, ⟨q2_1, q5_1, q10_1, hd 2 5 (pre_mem (by kernel_rfl)) (pre_mem (by kernel_rfl)) (by decide) (by decide) (by decide), hd 2 10 (pre_mem (by kernel_rfl)) (pre_mem (by kernel_rfl)) (by decide) (by decide) (by decide), hd 5 10 (pre_mem (by kernel_rfl)) (pre_mem (by kernel_rfl)) (by decide) (by decide) (by decide)⟩⟩, .inl rfl⟩
  ·
   intro t ρ wx hB hF hne
   obtain ⟨g111, g211, g311, hv11, q11_0, q11_1, q11_2, q11_3⟩ := hF 11 (by decide)
   have e14 : (fr DL1 A t).eval (.tmp 14) = .agg #[.slice (some ⟨g111, 0, none⟩) SF.cn.n SF.cn.n, .slice (some ⟨g211, 0, none⟩) SF.sn.n SF.sn.n, .int .i64 F.tick, .slice (some ⟨g311, 0, none⟩) SF.cookie.n SF.cookie.n] := (fr_eval _ _ _ 14 rfl (by rw [asz]; decide)).trans hv11
   have e2 : (fr DL1 A t).eval (.tmp 2) = .pointer (some ⟨go, 0, none⟩) := (fr_eval_old _ _ _ 2 rfl).trans a2'
   clear hne
   have kO : Hid (Blk wx go 54 [.slice none 0 0, .slice none 0 0, .int .i64 0, .slice none 0 0]) := hKO wx hB
   have HW : Hid (Below w.heap.size w wx) := hWB wx hB
   have R1 := hid (q11_0)
   have R2 := hid (q11_1)
   have R3 := hid (q11_2)
   have co0 := kO.out.cell 0 rfl
   have co1 := kO.out.cell 1 rfl
   have co2 := kO.out.cell 2 rfl
   have co3 := kO.out.cell 3 rfl
   have fo0 := kO.out.frozen 0
   have fo1 := kO.out.frozen 1
   have fo2 := kO.out.frozen 2
   have fo3 := kO.out.frozen 3
   refine op_wp rfl rfl ?_
   clear hF q11_0 q11_1 q11_2 hKF hKO hWB
   generalize hE : (fr DL1 A t).eval = ev at e14 e2
   unfold Oper.wp
   rw [hE]
   go_simp
   have N := q11_3.out
   have G := GA.out
   obtain ⟨k1, k2, k3⟩ := cook_put (.slice (some ⟨g111, 0, none⟩) SF.cn.n SF.cn.n) (.slice (some ⟨g211, 0, none⟩) SF.sn.n SF.sn.n) (.int .i64 F.tick) (.slice (some ⟨g311, 0, none⟩) SF.cookie.n SF.cookie.n) kO.out
   refine hMet _ _ (Met.intro (hRJ _ _ ⟨t 3, t 4, t 5, t 6, t 7, t 8, t 9, t 10, t 11, t 12, t 13, t 14, ⟨g111, g211, g311, N, R1.out.keep (k3 _ (by omega)), R2.out.keep (k3 _ (by omega)), R3.out.keep (k3 _ (by omega)), k1, k2 _ _ (by omega) HW.out⟩, ?_⟩))
   rw [← hA]; rfl
 case rest =>
  obtain ⟨g1, g2, g3, N, r1, r2, r3, kb, b⟩ := hcut
  have N1 : Hid (w.heap.size ≤ g1 ∧ w.heap.size ≤ g2 ∧ w.heap.size ≤ g3 ∧ g1 ≠ g2 ∧ g1 ≠ g3 ∧ g2 ≠ g3) := by have G := GA.out; show _ ∧ _; omega
  clear N
  go_wp2
  exact bodyPost_ret (v := .agg #[.slice (some ⟨g1, 0, none⟩) SF.cn.n SF.cn.n, .slice (some ⟨g2, 0, none⟩) SF.sn.n SF.sn.n, .int .i64 F.tick, .slice (some ⟨g3, 0, none⟩) SF.cookie.n SF.cookie.n]) (res1 rfl (is_cell rfl kb aggCook)) rfl ⟨g1, g2, g3, rfl, r1, r2, r3, N1.out, b⟩

theorem ne {w : World} {lo hi lo' hi' : Nat} {s t : Sl} {l k : List Int} (h : SOwn w lo hi s l) (h' : SOwn w lo' hi' t k) (d : hi ≤ lo' ∨ hi' ≤ lo) : s.a = none ∨ s.a ≠ t.a := by
 rcases h.2 with ⟨e, _⟩ | ⟨g, e, _, h1, h2, _⟩
 ·
  exact .inl (by rw [e])
 ·
  right
  rcases h'.2 with ⟨e', _⟩ | ⟨g', e', _, h1', h2', _⟩
  ·
   rw [e, e']; nofun
  ·
   rw [e, e']; intro hh; cases hh; omega
theorem len_zero (n : Nat) (M : List Int) (h : n = M.length) : ((n : Int) == 0) = (M.length == 0) := by rw [h, Bool.eq_iff_iff]; simp
def AnsF (D : FrD) (ok : Bool) (w : World) : Ending → World → Prop := fun e w' => ∃ S0 : FrS, e = .returned (.tuple #[frV D S0, .bool ok]) ∧ FrOwn w' w.heap.size w'.heap.size S0 D ∧ Below w.heap.size w w'
theorem fin_lit {l : List Int} {id : Int} {F : FrD} {M : List Int} (h : frameOk F = true) (h1 : (F.kind == 2) = true) (hy : finF l id F = true) (hM : proofK l id F.cn F.sn F.tick F.cookie = M) : finD l id F = ⟨3, id, F.cn, F.sn, F.tick, F.cookie, M, 0, 0, [], []⟩ := by
 rw [finD_yes hy, hM]
 have k : F.kind = 2 := by simpa using h1
 rcases (FrB.ok_iff F).1 h with q | ⟨e1, e2, e3, e4, _⟩
 ·
  omega
 ·
  rw [e1, e2, List.eq_nil_of_length_eq_zero e3, List.eq_nil_of_length_eq_zero e4]
theorem none_or (a : Option Addr) : a = none ∨ a ≠ none := by cases a <;> simp
set_option maxHeartbeats 8000000 in
theorem implFinishOf (q : Sl) (l : List Int) (id : Int) (SF : FrS) (F : FrD) (w : World) (hT : Tab w) (hq : SRd w q l) (hf : FrRd w SF F) :
  Calls Tryz.prog 8 #[.slice q.a q.n q.c, .int .i64 id, frV F SF] w (AnsF (finD l id F) (finF l id F) w) := by
 have HQ := hid (hq)
 have HF := hid (hf)
 have HT := hid (hT)
 clear hT
 obtain ⟨R, hR⟩ : ∃ R, finD l id F = R := ⟨_, rfl⟩
 have HRD : Hid (finD l id F = R) := hR
 obtain ⟨v, hv⟩ : ∃ v, finF l id F = v := ⟨_, rfl⟩
 have HV : Hid (finF l id F = v) := hv
 obtain ⟨M, hM⟩ : ∃ M, proofK l id F.cn F.sn F.tick F.cookie = M := ⟨_, rfl⟩
 have HM : Hid (proofK l id F.cn F.sn F.tick F.cookie = M) := hM
 rw [hR, hv]
 clear hq hf hR hv hM
 obtain ⟨x1, hx1⟩ : ∃ zz, (w.alloc (.cells #[.int .i64 F.kind, .int .i64 F.id, .slice SF.cn.a SF.cn.n SF.cn.c, .slice SF.sn.a SF.sn.n SF.sn.c, .int .i64 F.tick, .slice SF.cookie.a SF.cookie.n SF.cookie.c, .slice SF.proof.a SF.proof.n SF.proof.c, .int .i64 F.epoch, .int .i64 F.seq, .slice SF.body.a SF.body.n SF.body.c, .slice SF.tag.a SF.tag.n SF.tag.c] 25)).alloc (.cells #[.int .i64 0, .int .i64 0, .slice none 0 0, .slice none 0 0, .int .i64 0, .slice none 0 0, .slice none 0 0, .int .i64 0, .int .i64 0, .slice none 0 0, .slice none 0 0] 25) = zz := ⟨_, rfl⟩
 have HWA := hid (hx1)
 have b1 : Below w.heap.size w x1 := by rw [← hx1]; exact (((Below.refl _ _).alloc (Nat.le_refl _) _).alloc (by simp) _)
 have KFN : Blk x1 (w.heap.size) 25 [.int .i64 F.kind, .int .i64 F.id, .slice SF.cn.a SF.cn.n SF.cn.c, .slice SF.sn.a SF.sn.n SF.sn.c, .int .i64 F.tick, .slice SF.cookie.a SF.cookie.n SF.cookie.c, .slice SF.proof.a SF.proof.n SF.proof.c, .int .i64 F.epoch, .int .i64 F.seq, .slice SF.body.a SF.body.n SF.body.c, .slice SF.tag.a SF.tag.n SF.tag.c] := by
  have q := (Blk.new (w) 25 [.int .i64 F.kind, .int .i64 F.id, .slice SF.cn.a SF.cn.n SF.cn.c, .slice SF.sn.a SF.sn.n SF.sn.c, .int .i64 F.tick, .slice SF.cookie.a SF.cookie.n SF.cookie.c, .slice SF.proof.a SF.proof.n SF.proof.c, .int .i64 F.epoch, .int .i64 F.seq, .slice SF.body.a SF.body.n SF.body.c, .slice SF.tag.a SF.tag.n SF.tag.c])
  skip
  rw [← hx1]; exact q.alloc _
 have KON : Blk x1 (w.heap.size + 1) 25 [.int .i64 0, .int .i64 0, .slice none 0 0, .slice none 0 0, .int .i64 0, .slice none 0 0, .slice none 0 0, .int .i64 0, .int .i64 0, .slice none 0 0, .slice none 0 0] := by
  have q := (Blk.new ((w.alloc (.cells #[.int .i64 F.kind, .int .i64 F.id, .slice SF.cn.a SF.cn.n SF.cn.c, .slice SF.sn.a SF.sn.n SF.sn.c, .int .i64 F.tick, .slice SF.cookie.a SF.cookie.n SF.cookie.c, .slice SF.proof.a SF.proof.n SF.proof.c, .int .i64 F.epoch, .int .i64 F.seq, .slice SF.body.a SF.body.n SF.body.c, .slice SF.tag.a SF.tag.n SF.tag.c] 25))) 25 [.int .i64 0, .int .i64 0, .slice none 0 0, .slice none 0 0, .int .i64 0, .slice none 0 0, .slice none 0 0, .int .i64 0, .int .i64 0, .slice none 0 0, .slice none 0 0])
  rw [World.size_alloc] at q
  rw [← hx1]; exact q
 have SZA : x1.heap.size = w.heap.size + 2 := by rw [← hx1]; simp
 clear hx1
 have L1 := hid (b1.size)
 have B1 := hid (b1)
 clear b1
 unfold frV
 go_enter Tryz.func8, Tryz.ntmps8
 go_upto_region 1 with fail
 rw [HWA.out]
 obtain ⟨gf, hgf⟩ : ∃ g, w.heap.size = g := ⟨_, rfl⟩
 obtain ⟨go, hgo⟩ : ∃ g, w.heap.size + 1 = g := ⟨_, rfl⟩
 have GA : Hid (w.heap.size = gf ∧ gf + 1 = go ∧ x1.heap.size = gf + 2) := ⟨hgf, by omega, by omega⟩
 rw [hgf] at KFN
 rw [hgo] at KON
 rw [hgo, hgf]
 clear HWA SZA hgf hgo
 have KF1 := hid (KFN)
 have KO1 := hid (KON)
 clear KFN KON
 obtain ⟨d0, d1, d2, d3, d4, d5, d6, d7, d8, d9, d10⟩ := cells11 KF1.out
 go_wp2_with fail
 refine (KeJ.implProof q l id SF.cn SF.sn F.cn F.sn F.tick SF.cookie F.cookie x1 (HT.out.later B1.out) (HQ.out.later B1.out) (HF.out.later B1.out).cn (HF.out.later B1.out).sn (HF.out.later B1.out).cookie).mono ?_
 rw [HM.out]
 rintro e x2 ⟨T, rfl, o, b⟩
 clear d0 d1 d2 d3 d4 d5 d6 d7 d8 d9 d10
 have L2 := hid (b.size)
 have B2 := hid (B1.out.trans (b.mono B1.out.size))
 have KF2 := hid (KF1.out.later b)
 have KO2 := hid (KO1.out.later b)
 clear b B1 KF1 KO1
 have OT2 := hid (o)
 clear o
 obtain ⟨d0, d1, d2, d3, d4, d5, d6, d7, d8, d9, d10⟩ := cells11 KF2.out
 cases h1 : (F.kind == 2) with
 | false =>
  have hne : (F.kind != 2) = true := by simpa using h1
  have HN : Hid (finF l id F = false) := by show finF _ _ _ = false; unfold finF; rw [h1]; simp
  obtain rfl : v = false := by rw [← HV.out]; exact HN.out
  obtain rfl : R = FrG.zeroF := by rw [← HRD.out]; exact finD_no HN.out
  have co0 := KO2.out.cell 0 rfl
  have fo0 := KO2.out.frozen 0
  have co1 := KO2.out.cell 1 rfl
  have fo1 := KO2.out.frozen 1
  have co2 := KO2.out.cell 2 rfl
  have fo2 := KO2.out.frozen 2
  have co3 := KO2.out.cell 3 rfl
  have fo3 := KO2.out.frozen 3
  have co4 := KO2.out.cell 4 rfl
  have fo4 := KO2.out.frozen 4
  have co5 := KO2.out.cell 5 rfl
  have fo5 := KO2.out.frozen 5
  have co6 := KO2.out.cell 6 rfl
  have fo6 := KO2.out.frozen 6
  have co7 := KO2.out.cell 7 rfl
  have fo7 := KO2.out.frozen 7
  have co8 := KO2.out.cell 8 rfl
  have fo8 := KO2.out.frozen 8
  have co9 := KO2.out.cell 9 rfl
  have fo9 := KO2.out.frozen 9
  have co10 := KO2.out.cell 10 rfl
  have fo10 := KO2.out.frozen 10
  go_wp2
  obtain ⟨k1, k2, k3⟩ := fr_stored (D := FrG.zeroF) (S := (⟨⟨none, 0, 0⟩, ⟨none, 0, 0⟩, ⟨none, 0, 0⟩, ⟨none, 0, 0⟩, ⟨none, 0, 0⟩, ⟨none, 0, 0⟩⟩ : FrS)) KO2.out (own_nil x2 x2.heap.size x2.heap.size) (.inl (by have := hid3 L1 GA L2; omega))
  exact bodyPost_ret (v := .tuple #[frV FrG.zeroF (⟨⟨none, 0, 0⟩, ⟨none, 0, 0⟩, ⟨none, 0, 0⟩, ⟨none, 0, 0⟩, ⟨none, 0, 0⟩, ⟨none, 0, 0⟩⟩ : FrS), .bool false]) (res2 rfl (is_cell rfl k1 aggFr) (is_tmp rfl)) rfl ⟨(⟨⟨none, 0, 0⟩, ⟨none, 0, 0⟩, ⟨none, 0, 0⟩, ⟨none, 0, 0⟩, ⟨none, 0, 0⟩, ⟨none, 0, 0⟩⟩ : FrS), rfl, own_nil _ _ _, k3 _ _ (by have := hid3 L1 GA L2; omega) B2.out⟩
 | true =>
  have hne : (F.kind != 2) = false := by simpa using h1
  go_wp2_with fail
  refine (FrO2.implFrameOk SF F x2 (HF.out.later B2.out)).mono ?_
  rintro e x3 ⟨rfl, b⟩
  have L3 := hid (b.size)
  have B3 := hid (B2.out.trans (b.mono B2.out.size))
  have KF3 := hid (KF2.out.later b)
  have KO3 := hid (KO2.out.later b)
  have OT3 := hid (OT2.out.later b)
  clear b B2 KF2 KO2 OT2
  clear d0 d1 d2 d3 d4 d5 d6 d7 d8 d9 d10
  obtain ⟨d0, d1, d2, d3, d4, d5, d6, d7, d8, d9, d10⟩ := cells11 KF3.out
  cases h0 : frameOk F with
  | false =>
   have HN : Hid (finF l id F = false) := by show finF _ _ _ = false; unfold finF; rw [h0]; rfl
   obtain rfl : v = false := by rw [← HV.out]; exact HN.out
   obtain rfl : R = FrG.zeroF := by rw [← HRD.out]; exact finD_no HN.out
   have co0 := KO3.out.cell 0 rfl
   have fo0 := KO3.out.frozen 0
   have co1 := KO3.out.cell 1 rfl
   have fo1 := KO3.out.frozen 1
   have co2 := KO3.out.cell 2 rfl
   have fo2 := KO3.out.frozen 2
   have co3 := KO3.out.cell 3 rfl
   have fo3 := KO3.out.frozen 3
   have co4 := KO3.out.cell 4 rfl
   have fo4 := KO3.out.frozen 4
   have co5 := KO3.out.cell 5 rfl
   have fo5 := KO3.out.frozen 5
   have co6 := KO3.out.cell 6 rfl
   have fo6 := KO3.out.frozen 6
   have co7 := KO3.out.cell 7 rfl
   have fo7 := KO3.out.frozen 7
   have co8 := KO3.out.cell 8 rfl
   have fo8 := KO3.out.frozen 8
   have co9 := KO3.out.cell 9 rfl
   have fo9 := KO3.out.frozen 9
   have co10 := KO3.out.cell 10 rfl
   have fo10 := KO3.out.frozen 10
   go_wp2
   obtain ⟨k1, k2, k3⟩ := fr_stored (D := FrG.zeroF) (S := (⟨⟨none, 0, 0⟩, ⟨none, 0, 0⟩, ⟨none, 0, 0⟩, ⟨none, 0, 0⟩, ⟨none, 0, 0⟩, ⟨none, 0, 0⟩⟩ : FrS)) KO3.out (own_nil x3 x3.heap.size x3.heap.size) (.inl (by have := hid4 L1 GA L2 L3; omega))
   exact bodyPost_ret (v := .tuple #[frV FrG.zeroF (⟨⟨none, 0, 0⟩, ⟨none, 0, 0⟩, ⟨none, 0, 0⟩, ⟨none, 0, 0⟩, ⟨none, 0, 0⟩, ⟨none, 0, 0⟩⟩ : FrS), .bool false]) (res2 rfl (is_cell rfl k1 aggFr) (is_tmp rfl)) rfl ⟨(⟨⟨none, 0, 0⟩, ⟨none, 0, 0⟩, ⟨none, 0, 0⟩, ⟨none, 0, 0⟩, ⟨none, 0, 0⟩, ⟨none, 0, 0⟩⟩ : FrS), rfl, own_nil _ _ _, k3 _ _ (by have := hid4 L1 GA L2 L3; omega) B3.out⟩
  | true =>
   have HSH : Hid (FrShort F 1000) := by have q := FrB.ok_lens F h0; exact ⟨by omega, by omega, by omega, by omega, by omega, by omega⟩
   have HTZ : Hid (((T.n : Int) == 0) = (M.length == 0)) := len_zero _ _ OT3.out.len
   cases h2 : (M.length == 0) with
   | true =>
    have hz : ((T.n : Int) == 0) = true := HTZ.out.trans h2
    have HN : Hid (finF l id F = false) := by show finF _ _ _ = false; unfold finF; rw [HM.out, h2]; simp
    obtain rfl : v = false := by rw [← HV.out]; exact HN.out
    obtain rfl : R = FrG.zeroF := by rw [← HRD.out]; exact finD_no HN.out
    have co0 := KO3.out.cell 0 rfl
    have fo0 := KO3.out.frozen 0
    have co1 := KO3.out.cell 1 rfl
    have fo1 := KO3.out.frozen 1
    have co2 := KO3.out.cell 2 rfl
    have fo2 := KO3.out.frozen 2
    have co3 := KO3.out.cell 3 rfl
    have fo3 := KO3.out.frozen 3
    have co4 := KO3.out.cell 4 rfl
    have fo4 := KO3.out.frozen 4
    have co5 := KO3.out.cell 5 rfl
    have fo5 := KO3.out.frozen 5
    have co6 := KO3.out.cell 6 rfl
    have fo6 := KO3.out.frozen 6
    have co7 := KO3.out.cell 7 rfl
    have fo7 := KO3.out.frozen 7
    have co8 := KO3.out.cell 8 rfl
    have fo8 := KO3.out.frozen 8
    have co9 := KO3.out.cell 9 rfl
    have fo9 := KO3.out.frozen 9
    have co10 := KO3.out.cell 10 rfl
    have fo10 := KO3.out.frozen 10
    go_wp2
    obtain ⟨k1, k2, k3⟩ := fr_stored (D := FrG.zeroF) (S := (⟨⟨none, 0, 0⟩, ⟨none, 0, 0⟩, ⟨none, 0, 0⟩, ⟨none, 0, 0⟩, ⟨none, 0, 0⟩, ⟨none, 0, 0⟩⟩ : FrS)) KO3.out (own_nil x3 x3.heap.size x3.heap.size) (.inl (by have := hid4 L1 GA L2 L3; omega))
    exact bodyPost_ret (v := .tuple #[frV FrG.zeroF (⟨⟨none, 0, 0⟩, ⟨none, 0, 0⟩, ⟨none, 0, 0⟩, ⟨none, 0, 0⟩, ⟨none, 0, 0⟩, ⟨none, 0, 0⟩⟩ : FrS), .bool false]) (res2 rfl (is_cell rfl k1 aggFr) (is_tmp rfl)) rfl ⟨(⟨⟨none, 0, 0⟩, ⟨none, 0, 0⟩, ⟨none, 0, 0⟩, ⟨none, 0, 0⟩, ⟨none, 0, 0⟩, ⟨none, 0, 0⟩⟩ : FrS), rfl, own_nil _ _ _, k3 _ _ (by have := hid4 L1 GA L2 L3; omega) B3.out⟩
   | false =>
    have hz : ((T.n : Int) == 0) = false := HTZ.out.trans h2
    have HY : Hid (finF l id F = true) := by show finF _ _ _ = true; unfold finF; rw [HM.out, h0, h1, h2]; rfl
    obtain rfl : v = true := by rw [← HV.out]; exact HY.out
    obtain rfl : R = (⟨3, id, F.cn, F.sn, F.tick, F.cookie, M, 0, 0, [], []⟩ : FrD) := by rw [← HRD.out]; exact fin_lit h0 h1 HY.out HM.out
    go_wp2_with fail
    refine (ownCookie SF F x3 (HF.out.later B3.out) HSH.out).mono ?_
    rintro e x4 ⟨g1, g2, g3, rfl, r1, r2, r3, N, b⟩
    have N1 : Hid (_ ∧ _) := N
    clear N
    clear d0 d1 d2 d3 d4 d5 d6 d7 d8 d9 d10
    have L4 := hid (b.size)
    have B4 := hid (B3.out.trans (b.mono B3.out.size))
    have KF4 := hid (KF3.out.later b)
    have KO4 := hid (KO3.out.later b)
    have OT4 := hid (OT3.out.later b)
    clear b B3 KF3 KO3 OT3
    have N4 : Hid (g1 < x4.heap.size ∧ g2 < x4.heap.size ∧ g3 < x4.heap.size) := ⟨r1.lt, r2.lt, r3.lt⟩
    have P14 : Hid (SOwn x4 g1 (g1 + 1) ⟨some ⟨g1, 0, none⟩, SF.cn.n, SF.cn.n⟩ F.cn) := SOwn.row r1 HF.out.cn.len HF.out.cn.bytes (Nat.le_refl _) (Nat.lt_succ_self _)
    have P24 : Hid (SOwn x4 g2 (g2 + 1) ⟨some ⟨g2, 0, none⟩, SF.sn.n, SF.sn.n⟩ F.sn) := SOwn.row r2 HF.out.sn.len HF.out.sn.bytes (Nat.le_refl _) (Nat.lt_succ_self _)
    have P34 : Hid (SOwn x4 g3 (g3 + 1) ⟨some ⟨g3, 0, none⟩, SF.cookie.n, SF.cookie.n⟩ F.cookie) := SOwn.row r3 HF.out.cookie.len HF.out.cookie.bytes (Nat.le_refl _) (Nat.lt_succ_self _)
    clear r1 r2 r3 h0 h1 hne hz h2
    clear KF4
    go_wp2_with fail
    refine (FrW2.finFrame id ⟨some ⟨g1, 0, none⟩, SF.cn.n, SF.cn.n⟩ ⟨some ⟨g2, 0, none⟩, SF.sn.n, SF.sn.n⟩ F.tick ⟨some ⟨g3, 0, none⟩, SF.cookie.n, SF.cookie.n⟩ T x4).mono ?_
    rintro e x5 ⟨rfl, b⟩
    have L5 := hid (b.size)
    have B5 := hid (B4.out.trans (b.mono B4.out.size))
    have KO5 := hid (KO4.out.later b)
    have OT5 := hid (OT4.out.later b)
    have P15 := hid (P14.out.later b)
    have P25 := hid (P24.out.later b)
    have P35 := hid (P34.out.later b)
    clear b B4 KO4 OT4 P14 P24 P34
    have co0 := KO5.out.cell 0 rfl
    have fo0 := KO5.out.frozen 0
    have co1 := KO5.out.cell 1 rfl
    have fo1 := KO5.out.frozen 1
    have co2 := KO5.out.cell 2 rfl
    have fo2 := KO5.out.frozen 2
    have co3 := KO5.out.cell 3 rfl
    have fo3 := KO5.out.frozen 3
    have co4 := KO5.out.cell 4 rfl
    have fo4 := KO5.out.frozen 4
    have co5 := KO5.out.cell 5 rfl
    have fo5 := KO5.out.frozen 5
    have co6 := KO5.out.cell 6 rfl
    have fo6 := KO5.out.frozen 6
    have co7 := KO5.out.cell 7 rfl
    have fo7 := KO5.out.frozen 7
    have co8 := KO5.out.cell 8 rfl
    have fo8 := KO5.out.frozen 8
    have co9 := KO5.out.cell 9 rfl
    have fo9 := KO5.out.frozen 9
    have co10 := KO5.out.cell 10 rfl
    have fo10 := KO5.out.frozen 10
    go_wp2
    have OW : FrOwn x5 x1.heap.size x5.heap.size (⟨⟨some ⟨g1, 0, none⟩, SF.cn.n, SF.cn.n⟩, ⟨some ⟨g2, 0, none⟩, SF.sn.n, SF.sn.n⟩, ⟨some ⟨g3, 0, none⟩, SF.cookie.n, SF.cookie.n⟩, T, ⟨none, 0, 0⟩, ⟨none, 0, 0⟩⟩ : FrS) (⟨3, id, F.cn, F.sn, F.tick, F.cookie, M, 0, 0, [], []⟩ : FrD) := ⟨P15.out.mono (by have := hid8 L1 GA L2 L3 L4 N1 N4 L5; omega) (by have := hid8 L1 GA L2 L3 L4 N1 N4 L5; omega), P25.out.mono (by have := hid8 L1 GA L2 L3 L4 N1 N4 L5; omega) (by have := hid8 L1 GA L2 L3 L4 N1 N4 L5; omega), P35.out.mono (by have := hid8 L1 GA L2 L3 L4 N1 N4 L5; omega) (by have := hid8 L1 GA L2 L3 L4 N1 N4 L5; omega), OT5.out.mono (by have := hid8 L1 GA L2 L3 L4 N1 N4 L5; omega) (by have := hid8 L1 GA L2 L3 L4 N1 N4 L5; omega), (own_nil _ _ _).body, (own_nil _ _ _).tag, ⟨ne P15.out P25.out (by have := hid8 L1 GA L2 L3 L4 N1 N4 L5; omega), ne P15.out P35.out (by have := hid8 L1 GA L2 L3 L4 N1 N4 L5; omega), ne P15.out OT5.out (by have := hid8 L1 GA L2 L3 L4 N1 N4 L5; omega), none_or _, none_or _, ne P25.out P35.out (by have := hid8 L1 GA L2 L3 L4 N1 N4 L5; omega), ne P25.out OT5.out (by have := hid8 L1 GA L2 L3 L4 N1 N4 L5; omega), none_or _, none_or _, ne P35.out OT5.out (by have := hid8 L1 GA L2 L3 L4 N1 N4 L5; omega), none_or _, none_or _, none_or _, none_or _, .inl rfl⟩⟩
    obtain ⟨k1, k2, k3⟩ := fr_stored (D := (⟨3, id, F.cn, F.sn, F.tick, F.cookie, M, 0, 0, [], []⟩ : FrD)) (S := (⟨⟨some ⟨g1, 0, none⟩, SF.cn.n, SF.cn.n⟩, ⟨some ⟨g2, 0, none⟩, SF.sn.n, SF.sn.n⟩, ⟨some ⟨g3, 0, none⟩, SF.cookie.n, SF.cookie.n⟩, T, ⟨none, 0, 0⟩, ⟨none, 0, 0⟩⟩ : FrS)) KO5.out OW (.inl (by have := hid8 L1 GA L2 L3 L4 N1 N4 L5; omega))
    exact bodyPost_ret (v := .tuple #[frV (⟨3, id, F.cn, F.sn, F.tick, F.cookie, M, 0, 0, [], []⟩ : FrD) (⟨⟨some ⟨g1, 0, none⟩, SF.cn.n, SF.cn.n⟩, ⟨some ⟨g2, 0, none⟩, SF.sn.n, SF.sn.n⟩, ⟨some ⟨g3, 0, none⟩, SF.cookie.n, SF.cookie.n⟩, T, ⟨none, 0, 0⟩, ⟨none, 0, 0⟩⟩ : FrS), .bool true]) (res2 rfl (is_cell rfl k1 aggFr) (is_tmp rfl)) rfl ⟨(⟨⟨some ⟨g1, 0, none⟩, SF.cn.n, SF.cn.n⟩, ⟨some ⟨g2, 0, none⟩, SF.sn.n, SF.sn.n⟩, ⟨some ⟨g3, 0, none⟩, SF.cookie.n, SF.cookie.n⟩, T, ⟨none, 0, 0⟩, ⟨none, 0, 0⟩⟩ : FrS), rfl, k2.mono (by have := hid8 L1 GA L2 L3 L4 N1 N4 L5; omega) (by rw [fr_size]; exact Nat.le_refl _), k3 _ _ (by have := hid8 L1 GA L2 L3 L4 N1 N4 L5; omega) B5.out⟩
end Go.Proofs.YtpenhliaelhnoaaGreatDoor.KeY

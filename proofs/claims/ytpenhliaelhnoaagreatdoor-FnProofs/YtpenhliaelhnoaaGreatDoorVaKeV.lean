/-
  What impl's ProofOk answers.
-/
import Derived.Test.YtpenhliaelhnoaaGreatDoorVaGz7
import Derived.Test.YtpenhliaelhnoaaGreatDoorVaGz10
import Derived.Test.YtpenhliaelhnoaaGreatDoorVaUnsI
import Derived.Test.YtpenhliaelhnoaaGreatDoorVaGz13
import Derived.Test.YtpenhliaelhnoaaGreatDoorVaGz8
import Derived.Test.YtpenhliaelhnoaaGreatDoorVaGz16
set_option maxRecDepth 100000
namespace Go.Proofs.YtpenhliaelhnoaaGreatDoor.KeV
open Go.RowKit Mem App Blk Words Zone Res KeP KeQ KeW DiffP FrZ FrP Shp Each Copy Ops Guard Comp

theorem fokV (S : FrS) (D : FrD) (v : Bool) (w : World) (h : FrRd w S D) (hv : frameOk D = v) : Calls Tryz.prog 15 #[frV D S] w fun e w' => e = .returned (.bool v) ∧ Below w.heap.size w w' := by
 subst hv; exact FrO2.implFrameOk S D w h
abbrev DL1 : List Nat := [5, 6, 7, 8, 9, 10, 11, 12, 13, 14, 15, 16, 17, 18, 19, 20, 21, 22, 23, 24, 25, 26, 27, 28]
set_option maxHeartbeats 8000000 in
theorem implProofOk (q : Sl) (l : List Int) (SF : FrS) (F : FrD) (w : World) (hT : Tab w) (hq : SRd w q l) (hf : FrRd w SF F) :
  Calls Tryz.prog 12 #[.slice q.a q.n q.c, frV F SF] w fun e w' => e = .returned (.bool (pOk l F)) ∧ Below w.heap.size w w' := by
 have HQ := hid (hq)
 have HF := hid (hf)
 have HT := hid (hT)
 clear hT
 obtain ⟨vo, hv⟩ : ∃ v, pOk l F = v := ⟨_, rfl⟩
 have HV : Hid (pOk l F = vo) := hv
 obtain ⟨k1, hk1⟩ : ∃ v, frameOk F = v := ⟨_, rfl⟩
 have HK1 : Hid (frameOk F = k1) := hk1
 obtain ⟨k2, hk2⟩ : ∃ v, (F.kind == 3) = v := ⟨_, rfl⟩
 rw [hv]
 clear hq hf hv hk1
 unfold frV
 go_enter Tryz.func12, Tryz.ntmps12
 obtain ⟨x1, hx1⟩ : ∃ x1, w.alloc (.cells #[.int .i64 F.kind, .int .i64 F.id, .slice SF.cn.a SF.cn.n SF.cn.c, .slice SF.sn.a SF.sn.n SF.sn.c, .int .i64 F.tick, .slice SF.cookie.a SF.cookie.n SF.cookie.c, .slice SF.proof.a SF.proof.n SF.proof.c, .int .i64 F.epoch, .int .i64 F.seq, .slice SF.body.a SF.body.n SF.body.c, .slice SF.tag.a SF.tag.n SF.tag.c] 25) = x1 := ⟨_, rfl⟩
 have HW1 := hid (hx1)
 have b1 : Below w.heap.size w x1 := by rw [← hx1]; exact (Below.refl _ _).alloc (Nat.le_refl _) _
 have KN : Blk x1 w.heap.size 25 [.int .i64 F.kind, .int .i64 F.id, .slice SF.cn.a SF.cn.n SF.cn.c, .slice SF.sn.a SF.sn.n SF.sn.c, .int .i64 F.tick, .slice SF.cookie.a SF.cookie.n SF.cookie.c, .slice SF.proof.a SF.proof.n SF.proof.c, .int .i64 F.epoch, .int .i64 F.seq, .slice SF.body.a SF.body.n SF.body.c, .slice SF.tag.a SF.tag.n SF.tag.c] := by rw [← hx1]; exact Blk.new w _ _
 have HSZ1 : Hid (x1.heap.size = w.heap.size + 1) := by rw [← hx1]; show _ = _; simp
 clear hx1
 have L1 := hid (b1.size)
 have B1 := hid (b1)
 clear b1
 go_upto_region 1 with fail
 rw [HW1.out]
 obtain ⟨gf, hgf⟩ : ∃ g, w.heap.size = g := ⟨_, rfl⟩
 have Ggf : Hid (w.heap.size = gf ∧ x1.heap.size = gf + 1) := ⟨hgf, by rw [← hgf]; exact HSZ1.out⟩
 rw [hgf] at KN ⊢
 clear HW1 HSZ1 hgf
 have KF1 := hid (KN)
 clear KN
 cases k2 with
 | false =>
  obtain rfl : vo = false := by rw [← HV.out]; exact pOk_2 hk2
  go_cut [4] from 5 to 28 (fun sv wx => sv = .bool false ∧ Below x1.heap.size x1 wx)
  case first =>
   rename_i J K' hRJ hMet
   generalize hA : Act.mk _ _ = A
   have a0' : A.eval (.tmp 0) = .slice q.a q.n q.c := by rw [← hA]; rfl
   have a3' : A.eval (.tmp 3) = .pointer (some ⟨gf, 0, none⟩) := by rw [← hA]; rfl
   have asz : A.tmps.size = 29 := by rw [← hA]; rfl
   have hKF : ∀ wx, Below x1.heap.size x1 wx → Blk wx gf 25 [.int .i64 F.kind, .int .i64 F.id, .slice SF.cn.a SF.cn.n SF.cn.c, .slice SF.sn.a SF.sn.n SF.sn.c, .int .i64 F.tick, .slice SF.cookie.a SF.cookie.n SF.cookie.c, .slice SF.proof.a SF.proof.n SF.proof.c, .int .i64 F.epoch, .int .i64 F.seq, .slice SF.body.a SF.body.n SF.body.c, .slice SF.tag.a SF.tag.n SF.tag.c] := fun wx hb => KF1.out.later hb
   have hWB : ∀ wx, Below x1.heap.size x1 wx → Below w.heap.size w wx := fun wx hb => B1.out.trans (hb.mono B1.out.size)
   refine region_each (by kernel_rfl) DL1 24 (fun i => DL1.getD i 0) (fun _ => 0)
    (fun i gB v wx => match i with
     | 0 => v = .pointer (some ⟨gf, 0, none⟩)
     | 1 => v = .int .i64 F.kind
     | 2 => v = .bool false
     | 3 => v = .bool false
     | 4 => v = undef
     | 5 => v = undef
     | 6 => v = .bool false
     | 7 => v = .bool false
     | 8 => v = undef
     | 9 => v = undef
     | 10 => v = undef
     | 11 => v = undef
     | 12 => v = undef
     | 13 => v = undef
     | 14 => v = undef
     | 15 => v = undef
     | 16 => v = undef
     | 17 => v = undef
     | 18 => v = undef
     | 19 => v = undef
     | 20 => v = undef
     | 21 => v = undef
     | 22 => v = undef
     | 23 => v = .bool false
     | _ => False) (fun wx => Below x1.heap.size x1 wx) (by kernel_rfl) (Below.refl _ _).drew ?_ ?_ ?_
   ·
    intro i gB v wx wy hi hF hb _
    match i, hi with
    | 0, _ => exact hF
    | 1, _ => exact hF
    | 2, _ => exact hF
    | 3, _ => exact hF
    | 4, _ => exact hF
    | 5, _ => exact hF
    | 6, _ => exact hF
    | 7, _ => exact hF
    | 8, _ => exact hF
    | 9, _ => exact hF
    | 10, _ => exact hF
    | 11, _ => exact hF
    | 12, _ => exact hF
    | 13, _ => exact hF
    | 14, _ => exact hF
    | 15, _ => exact hF
    | 16, _ => exact hF
    | 17, _ => exact hF
    | 18, _ => exact hF
    | 19, _ => exact hF
    | 20, _ => exact hF
    | 21, _ => exact hF
    | 22, _ => exact hF
    | 23, _ => exact hF
    | n + 24, hi => exact absurd hi (by omega)
   ·
    intro i hi t ρ wx hB hp hd
    match i, hi with
    | 0, _ =>
     have e3 : (fr DL1 A t).eval (.tmp 3) = .pointer (some ⟨gf, 0, none⟩) := (fr_eval_old _ _ _ 3 rfl).trans a3'
     refine op_run (v := .pointer (some ⟨gf, 0, none⟩)) (w' := wx) rfl rfl ?_ ?_
     ·
      clear hp hd; have ec : ∀ v, (fr DL1 A t).eval (.const v) = v := fun _ => rfl; generalize (fr DL1 A t).eval = ev at ec e3 ⊢; go_simp
     ·
      exact ⟨_, 0, rfl, hB, Below.refl _ _, rfl, .inl rfl⟩
    | 1, _ =>
     have e5 : (fr DL1 A t).eval (.tmp 5) = .pointer (some ⟨gf, 0, none⟩) := (fr_eval _ _ _ 5 rfl (by rw [asz]; decide)).trans (hp 0 (pre_mem (by kernel_rfl)))
     have hc := (hKF wx hB).cell 0 rfl
     refine op_run (v := .int .i64 F.kind) (w' := wx) rfl rfl ?_ ?_
     ·
      clear hp hd; have ec : ∀ v, (fr DL1 A t).eval (.const v) = v := fun _ => rfl; generalize (fr DL1 A t).eval = ev at ec e5 ⊢; go_simp
     ·
      exact ⟨_, 0, rfl, hB, Below.refl _ _, rfl, .inl rfl⟩
    | 2, _ =>
     have e6 : (fr DL1 A t).eval (.tmp 6) = .int .i64 F.kind := (fr_eval _ _ _ 6 rfl (by rw [asz]; decide)).trans (hp 1 (pre_mem (by kernel_rfl)))
     have hh := hk2
     refine op_run (v := .bool false) (w' := wx) rfl rfl ?_ ?_
     ·
      clear hp hd; have ec : ∀ v, (fr DL1 A t).eval (.const v) = v := fun _ => rfl; generalize (fr DL1 A t).eval = ev at ec e6 ⊢; go_simp
     ·
      exact ⟨_, 0, rfl, hB, Below.refl _ _, rfl, .inl rfl⟩
    | 3, _ =>
     have e7 : (fr DL1 A t).eval (.tmp 7) = .bool false := (fr_eval _ _ _ 7 rfl (by rw [asz]; decide)).trans (hp 2 (pre_mem (by kernel_rfl)))
     refine op_run (v := .bool false) (w' := wx) rfl rfl ?_ ?_
     ·
      clear hp hd; have ec : ∀ v, (fr DL1 A t).eval (.const v) = v := fun _ => rfl; generalize (fr DL1 A t).eval = ev at ec e7 ⊢; go_simp
     ·
      exact ⟨_, 0, rfl, hB, Below.refl _ _, rfl, .inl rfl⟩
    | 4, _ =>
     have e8 : (fr DL1 A t).eval (.tmp 8) = .bool false := (fr_eval _ _ _ 8 rfl (by rw [asz]; decide)).trans (hp 3 (pre_mem (by kernel_rfl)))
     refine op_skip rfl (wanted_false rfl rfl e8 rfl) ?_
     exact ⟨_, 0, rfl, hB, Below.refl _ _, rfl, .inl rfl⟩
    | 5, _ =>
     have e8 : (fr DL1 A t).eval (.tmp 8) = .bool false := (fr_eval _ _ _ 8 rfl (by rw [asz]; decide)).trans (hp 3 (pre_mem (by kernel_rfl)))
     refine op_skip rfl (wanted_false rfl rfl e8 rfl) ?_
     exact ⟨_, 0, rfl, hB, Below.refl _ _, rfl, .inl rfl⟩
    | 6, _ =>
     have e8 : (fr DL1 A t).eval (.tmp 8) = .bool false := (fr_eval _ _ _ 8 rfl (by rw [asz]; decide)).trans (hp 3 (pre_mem (by kernel_rfl)))
     have e10 : (fr DL1 A t).eval (.tmp 10) = undef := (fr_eval _ _ _ 10 rfl (by rw [asz]; decide)).trans (hp 5 (pre_mem (by kernel_rfl)))
     refine op_run (v := .bool false) (w' := wx) rfl rfl ?_ ?_
     ·
      clear hp hd; have ec : ∀ v, (fr DL1 A t).eval (.const v) = v := fun _ => rfl; generalize (fr DL1 A t).eval = ev at ec e8 e10 ⊢; go_simp
     ·
      exact ⟨_, 0, rfl, hB, Below.refl _ _, rfl, .inl rfl⟩
    | 7, _ =>
     have e11 : (fr DL1 A t).eval (.tmp 11) = .bool false := (fr_eval _ _ _ 11 rfl (by rw [asz]; decide)).trans (hp 6 (pre_mem (by kernel_rfl)))
     refine op_run (v := .bool false) (w' := wx) rfl rfl ?_ ?_
     ·
      clear hp hd; have ec : ∀ v, (fr DL1 A t).eval (.const v) = v := fun _ => rfl; generalize (fr DL1 A t).eval = ev at ec e11 ⊢; go_simp
     ·
      exact ⟨_, 0, rfl, hB, Below.refl _ _, rfl, .inl rfl⟩
    | 8, _ =>
     have e12 : (fr DL1 A t).eval (.tmp 12) = .bool false := (fr_eval _ _ _ 12 rfl (by rw [asz]; decide)).trans (hp 7 (pre_mem (by kernel_rfl)))
     refine op_skip rfl (wanted_false rfl rfl e12 rfl) ?_
     exact ⟨_, 0, rfl, hB, Below.refl _ _, rfl, .inl rfl⟩
    | 9, _ =>
     have e12 : (fr DL1 A t).eval (.tmp 12) = .bool false := (fr_eval _ _ _ 12 rfl (by rw [asz]; decide)).trans (hp 7 (pre_mem (by kernel_rfl)))
     refine op_skip rfl (wanted_false rfl rfl e12 rfl) ?_
     exact ⟨_, 0, rfl, hB, Below.refl _ _, rfl, .inl rfl⟩
    | 10, _ =>
     have e12 : (fr DL1 A t).eval (.tmp 12) = .bool false := (fr_eval _ _ _ 12 rfl (by rw [asz]; decide)).trans (hp 7 (pre_mem (by kernel_rfl)))
     refine op_skip rfl (wanted_false rfl rfl e12 rfl) ?_
     exact ⟨_, 0, rfl, hB, Below.refl _ _, rfl, .inl rfl⟩
    | 11, _ =>
     have e12 : (fr DL1 A t).eval (.tmp 12) = .bool false := (fr_eval _ _ _ 12 rfl (by rw [asz]; decide)).trans (hp 7 (pre_mem (by kernel_rfl)))
     refine op_skip rfl (wanted_false rfl rfl e12 rfl) ?_
     exact ⟨_, 0, rfl, hB, Below.refl _ _, rfl, .inl rfl⟩
    | 12, _ =>
     have e12 : (fr DL1 A t).eval (.tmp 12) = .bool false := (fr_eval _ _ _ 12 rfl (by rw [asz]; decide)).trans (hp 7 (pre_mem (by kernel_rfl)))
     refine op_skip rfl (wanted_false rfl rfl e12 rfl) ?_
     exact ⟨_, 0, rfl, hB, Below.refl _ _, rfl, .inl rfl⟩
    | 13, _ =>
     have e12 : (fr DL1 A t).eval (.tmp 12) = .bool false := (fr_eval _ _ _ 12 rfl (by rw [asz]; decide)).trans (hp 7 (pre_mem (by kernel_rfl)))
     refine op_skip rfl (wanted_false rfl rfl e12 rfl) ?_
     exact ⟨_, 0, rfl, hB, Below.refl _ _, rfl, .inl rfl⟩
    | 14, _ =>
     have e12 : (fr DL1 A t).eval (.tmp 12) = .bool false := (fr_eval _ _ _ 12 rfl (by rw [asz]; decide)).trans (hp 7 (pre_mem (by kernel_rfl)))
     refine op_skip rfl (wanted_false rfl rfl e12 rfl) ?_
     exact ⟨_, 0, rfl, hB, Below.refl _ _, rfl, .inl rfl⟩
    | 15, _ =>
     have e12 : (fr DL1 A t).eval (.tmp 12) = .bool false := (fr_eval _ _ _ 12 rfl (by rw [asz]; decide)).trans (hp 7 (pre_mem (by kernel_rfl)))
     refine op_skip rfl (wanted_false rfl rfl e12 rfl) ?_
     exact ⟨_, 0, rfl, hB, Below.refl _ _, rfl, .inl rfl⟩
    | 16, _ =>
     have e12 : (fr DL1 A t).eval (.tmp 12) = .bool false := (fr_eval _ _ _ 12 rfl (by rw [asz]; decide)).trans (hp 7 (pre_mem (by kernel_rfl)))
     refine op_skip rfl (wanted_false rfl rfl e12 rfl) ?_
     exact ⟨_, 0, rfl, hB, Below.refl _ _, rfl, .inl rfl⟩
    | 17, _ =>
     have e12 : (fr DL1 A t).eval (.tmp 12) = .bool false := (fr_eval _ _ _ 12 rfl (by rw [asz]; decide)).trans (hp 7 (pre_mem (by kernel_rfl)))
     refine op_skip rfl (wanted_false rfl rfl e12 rfl) ?_
     exact ⟨_, 0, rfl, hB, Below.refl _ _, rfl, .inl rfl⟩
    | 18, _ =>
     have e12 : (fr DL1 A t).eval (.tmp 12) = .bool false := (fr_eval _ _ _ 12 rfl (by rw [asz]; decide)).trans (hp 7 (pre_mem (by kernel_rfl)))
     refine op_skip rfl (wanted_false rfl rfl e12 rfl) ?_
     exact ⟨_, 0, rfl, hB, Below.refl _ _, rfl, .inl rfl⟩
    | 19, _ =>
     have e12 : (fr DL1 A t).eval (.tmp 12) = .bool false := (fr_eval _ _ _ 12 rfl (by rw [asz]; decide)).trans (hp 7 (pre_mem (by kernel_rfl)))
     refine op_skip rfl (wanted_false rfl rfl e12 rfl) ?_
     exact ⟨_, 0, rfl, hB, Below.refl _ _, rfl, .inl rfl⟩
    | 20, _ =>
     have e12 : (fr DL1 A t).eval (.tmp 12) = .bool false := (fr_eval _ _ _ 12 rfl (by rw [asz]; decide)).trans (hp 7 (pre_mem (by kernel_rfl)))
     refine op_skip rfl (wanted_false rfl rfl e12 rfl) ?_
     exact ⟨_, 0, rfl, hB, Below.refl _ _, rfl, .inl rfl⟩
    | 21, _ =>
     have e12 : (fr DL1 A t).eval (.tmp 12) = .bool false := (fr_eval _ _ _ 12 rfl (by rw [asz]; decide)).trans (hp 7 (pre_mem (by kernel_rfl)))
     refine op_skip rfl (wanted_false rfl rfl e12 rfl) ?_
     exact ⟨_, 0, rfl, hB, Below.refl _ _, rfl, .inl rfl⟩
    | 22, _ =>
     have e12 : (fr DL1 A t).eval (.tmp 12) = .bool false := (fr_eval _ _ _ 12 rfl (by rw [asz]; decide)).trans (hp 7 (pre_mem (by kernel_rfl)))
     refine op_skip rfl (wanted_false rfl rfl e12 rfl) ?_
     exact ⟨_, 0, rfl, hB, Below.refl _ _, rfl, .inl rfl⟩
    | 23, _ =>
     have e12 : (fr DL1 A t).eval (.tmp 12) = .bool false := (fr_eval _ _ _ 12 rfl (by rw [asz]; decide)).trans (hp 7 (pre_mem (by kernel_rfl)))
     have e27 : (fr DL1 A t).eval (.tmp 27) = undef := (fr_eval _ _ _ 27 rfl (by rw [asz]; decide)).trans (hp 22 (pre_mem (by kernel_rfl)))
     refine op_run (v := .bool false) (w' := wx) rfl rfl ?_ ?_
     ·
      clear hp hd; have ec : ∀ v, (fr DL1 A t).eval (.const v) = v := fun _ => rfl; generalize (fr DL1 A t).eval = ev at ec e12 e27 ⊢; go_simp
     ·
      exact ⟨_, 0, rfl, hB, Below.refl _ _, rfl, .inl rfl⟩
    | n + 24, hi => exact absurd hi (by omega)
   ·
    intro t ρ wx hB hF hne
    have e28 : (fr DL1 A t).eval (.tmp 28) = .bool false := (fr_eval _ _ _ 28 rfl (by rw [asz]; decide)).trans (hF 23 (by decide))
    clear hne
    refine op_wp rfl rfl ?_
    generalize hE : (fr DL1 A t).eval = ev at e28
    unfold Oper.wp
    rw [hE]
    go_simp
    refine hMet _ _ (Met.intro (hRJ _ _ ⟨_, t 5, t 6, t 7, t 8, t 9, t 10, t 11, t 12, t 13, t 14, t 15, t 16, t 17, t 18, t 19, t 20, t 21, t 22, t 23, t 24, t 25, t 26, t 27, t 28, ⟨rfl, hB⟩, ?_⟩))
    rw [← hA]; rfl
  case rest =>
   obtain ⟨rfl, b⟩ := hcut
   go_wp2
   go_ret
   exact ⟨rfl, B1.out.trans (b.mono B1.out.size)⟩
 | true =>
  cases k1 with
  | false =>
   obtain rfl : vo = false := by rw [← HV.out]; exact pOk_1 HK1.out
   go_cut [4] from 5 to 28 (fun sv wx => sv = .bool false ∧ Below x1.heap.size x1 wx)
   case first =>
    rename_i J K' hRJ hMet
    generalize hA : Act.mk _ _ = A
    have a0' : A.eval (.tmp 0) = .slice q.a q.n q.c := by rw [← hA]; rfl
    have a3' : A.eval (.tmp 3) = .pointer (some ⟨gf, 0, none⟩) := by rw [← hA]; rfl
    have asz : A.tmps.size = 29 := by rw [← hA]; rfl
    have hKF : ∀ wx, Below x1.heap.size x1 wx → Blk wx gf 25 [.int .i64 F.kind, .int .i64 F.id, .slice SF.cn.a SF.cn.n SF.cn.c, .slice SF.sn.a SF.sn.n SF.sn.c, .int .i64 F.tick, .slice SF.cookie.a SF.cookie.n SF.cookie.c, .slice SF.proof.a SF.proof.n SF.proof.c, .int .i64 F.epoch, .int .i64 F.seq, .slice SF.body.a SF.body.n SF.body.c, .slice SF.tag.a SF.tag.n SF.tag.c] := fun wx hb => KF1.out.later hb
    have hWB : ∀ wx, Below x1.heap.size x1 wx → Below w.heap.size w wx := fun wx hb => B1.out.trans (hb.mono B1.out.size)
    refine region_each (by kernel_rfl) DL1 24 (fun i => DL1.getD i 0) (fun _ => 0)
     (fun i gB v wx => match i with
      | 0 => v = .pointer (some ⟨gf, 0, none⟩)
      | 1 => v = .int .i64 F.kind
      | 2 => v = .bool true
      | 3 => v = .bool true
      | 4 => v = .agg #[.int .i64 F.kind, .int .i64 F.id, .slice SF.cn.a SF.cn.n SF.cn.c, .slice SF.sn.a SF.sn.n SF.sn.c, .int .i64 F.tick, .slice SF.cookie.a SF.cookie.n SF.cookie.c, .slice SF.proof.a SF.proof.n SF.proof.c, .int .i64 F.epoch, .int .i64 F.seq, .slice SF.body.a SF.body.n SF.body.c, .slice SF.tag.a SF.tag.n SF.tag.c]
      | 5 => v = .bool false
      | 6 => v = .bool false
      | 7 => v = .bool false
      | 8 => v = undef
      | 9 => v = undef
      | 10 => v = undef
      | 11 => v = undef
      | 12 => v = undef
      | 13 => v = undef
      | 14 => v = undef
      | 15 => v = undef
      | 16 => v = undef
      | 17 => v = undef
      | 18 => v = undef
      | 19 => v = undef
      | 20 => v = undef
      | 21 => v = undef
      | 22 => v = undef
      | 23 => v = .bool false
      | _ => False) (fun wx => Below x1.heap.size x1 wx) (by kernel_rfl) (Below.refl _ _).drew ?_ ?_ ?_
    ·
     intro i gB v wx wy hi hF hb _
     match i, hi with
     | 0, _ => exact hF
     | 1, _ => exact hF
     | 2, _ => exact hF
     | 3, _ => exact hF
     | 4, _ => exact hF
     | 5, _ => exact hF
     | 6, _ => exact hF
     | 7, _ => exact hF
     | 8, _ => exact hF
     | 9, _ => exact hF
     | 10, _ => exact hF
     | 11, _ => exact hF
     | 12, _ => exact hF
     | 13, _ => exact hF
     | 14, _ => exact hF
     | 15, _ => exact hF
     | 16, _ => exact hF
     | 17, _ => exact hF
     | 18, _ => exact hF
     | 19, _ => exact hF
     | 20, _ => exact hF
     | 21, _ => exact hF
     | 22, _ => exact hF
     | 23, _ => exact hF
     | n + 24, hi => exact absurd hi (by omega)
    ·
     intro i hi t ρ wx hB hp hd
     match i, hi with
     | 0, _ =>
      have e3 : (fr DL1 A t).eval (.tmp 3) = .pointer (some ⟨gf, 0, none⟩) := (fr_eval_old _ _ _ 3 rfl).trans a3'
      refine op_run (v := .pointer (some ⟨gf, 0, none⟩)) (w' := wx) rfl rfl ?_ ?_
      ·
       clear hp hd; have ec : ∀ v, (fr DL1 A t).eval (.const v) = v := fun _ => rfl; generalize (fr DL1 A t).eval = ev at ec e3 ⊢; go_simp
      ·
       exact ⟨_, 0, rfl, hB, Below.refl _ _, rfl, .inl rfl⟩
     | 1, _ =>
      have e5 : (fr DL1 A t).eval (.tmp 5) = .pointer (some ⟨gf, 0, none⟩) := (fr_eval _ _ _ 5 rfl (by rw [asz]; decide)).trans (hp 0 (pre_mem (by kernel_rfl)))
      have hc := (hKF wx hB).cell 0 rfl
      refine op_run (v := .int .i64 F.kind) (w' := wx) rfl rfl ?_ ?_
      ·
       clear hp hd; have ec : ∀ v, (fr DL1 A t).eval (.const v) = v := fun _ => rfl; generalize (fr DL1 A t).eval = ev at ec e5 ⊢; go_simp
      ·
       exact ⟨_, 0, rfl, hB, Below.refl _ _, rfl, .inl rfl⟩
     | 2, _ =>
      have e6 : (fr DL1 A t).eval (.tmp 6) = .int .i64 F.kind := (fr_eval _ _ _ 6 rfl (by rw [asz]; decide)).trans (hp 1 (pre_mem (by kernel_rfl)))
      have hh := hk2
      refine op_run (v := .bool true) (w' := wx) rfl rfl ?_ ?_
      ·
       clear hp hd; have ec : ∀ v, (fr DL1 A t).eval (.const v) = v := fun _ => rfl; generalize (fr DL1 A t).eval = ev at ec e6 ⊢; go_simp
      ·
       exact ⟨_, 0, rfl, hB, Below.refl _ _, rfl, .inl rfl⟩
     | 3, _ =>
      have e7 : (fr DL1 A t).eval (.tmp 7) = .bool true := (fr_eval _ _ _ 7 rfl (by rw [asz]; decide)).trans (hp 2 (pre_mem (by kernel_rfl)))
      refine op_run (v := .bool true) (w' := wx) rfl rfl ?_ ?_
      ·
       clear hp hd; have ec : ∀ v, (fr DL1 A t).eval (.const v) = v := fun _ => rfl; generalize (fr DL1 A t).eval = ev at ec e7 ⊢; go_simp
      ·
       exact ⟨_, 0, rfl, hB, Below.refl _ _, rfl, .inl rfl⟩
     | 4, _ =>
      have e3 : (fr DL1 A t).eval (.tmp 3) = .pointer (some ⟨gf, 0, none⟩) := (fr_eval_old _ _ _ 3 rfl).trans a3'
      have e8 : (fr DL1 A t).eval (.tmp 8) = .bool true := (fr_eval _ _ _ 8 rfl (by rw [asz]; decide)).trans (hp 3 (pre_mem (by kernel_rfl)))
      obtain ⟨hc0, hc1, hc2, hc3, hc4, hc5, hc6, hc7, hc8, hc9, hc10⟩ := cells11 (hKF wx hB)
      refine op_run_g (v := .agg #[.int .i64 F.kind, .int .i64 F.id, .slice SF.cn.a SF.cn.n SF.cn.c, .slice SF.sn.a SF.sn.n SF.sn.c, .int .i64 F.tick, .slice SF.cookie.a SF.cookie.n SF.cookie.c, .slice SF.proof.a SF.proof.n SF.proof.c, .int .i64 F.epoch, .int .i64 F.seq, .slice SF.body.a SF.body.n SF.body.c, .slice SF.tag.a SF.tag.n SF.tag.c]) (w' := wx) rfl (wanted_true rfl rfl e8) ?_ ?_
      ·
       clear hp hd; have ec : ∀ v, (fr DL1 A t).eval (.const v) = v := fun _ => rfl; generalize (fr DL1 A t).eval = ev at ec e3 e8 ⊢; go_simp
      ·
       exact ⟨_, 0, rfl, hB, Below.refl _ _, rfl, .inl rfl⟩
     | 5, _ =>
      have e9 : (fr DL1 A t).eval (.tmp 9) = .agg #[.int .i64 F.kind, .int .i64 F.id, .slice SF.cn.a SF.cn.n SF.cn.c, .slice SF.sn.a SF.sn.n SF.sn.c, .int .i64 F.tick, .slice SF.cookie.a SF.cookie.n SF.cookie.c, .slice SF.proof.a SF.proof.n SF.proof.c, .int .i64 F.epoch, .int .i64 F.seq, .slice SF.body.a SF.body.n SF.body.c, .slice SF.tag.a SF.tag.n SF.tag.c] := (fr_eval _ _ _ 9 rfl (by rw [asz]; decide)).trans (hp 4 (pre_mem (by kernel_rfl)))
      have e8 : (fr DL1 A t).eval (.tmp 8) = .bool true := (fr_eval _ _ _ 8 rfl (by rw [asz]; decide)).trans (hp 3 (pre_mem (by kernel_rfl)))
      refine op_call_g (f := 15) (args := #[.agg #[.int .i64 F.kind, .int .i64 F.id, .slice SF.cn.a SF.cn.n SF.cn.c, .slice SF.sn.a SF.sn.n SF.sn.c, .int .i64 F.tick, .slice SF.cookie.a SF.cookie.n SF.cookie.c, .slice SF.proof.a SF.proof.n SF.proof.c, .int .i64 F.epoch, .int .i64 F.seq, .slice SF.body.a SF.body.n SF.body.c, .slice SF.tag.a SF.tag.n SF.tag.c]]) rfl (wanted_true rfl rfl e8) ?_ (fokV SF F false wx (HF.out.later (hWB wx hB)) HK1.out) ?_
      ·
       have ef : (fr DL1 A t).eval (.func 15) = .func (.func 15) #[] #[] := rfl; clear hp hd; have ec : ∀ v, (fr DL1 A t).eval (.const v) = v := fun _ => rfl; generalize (fr DL1 A t).eval = ev at ec e9 e8 ef ⊢; go_simp
      ·
       rintro e wy ⟨rfl, b1⟩
       exact ⟨_, rfl, _, 0, rfl, hB.trans (b1.mono hB.size), b1, rfl, .inl rfl⟩
     | 6, _ =>
      have e8 : (fr DL1 A t).eval (.tmp 8) = .bool true := (fr_eval _ _ _ 8 rfl (by rw [asz]; decide)).trans (hp 3 (pre_mem (by kernel_rfl)))
      have hv5 := hp 5 (pre_mem (by kernel_rfl))
      have e10 : (fr DL1 A t).eval (.tmp 10) = .bool false := (fr_eval _ _ _ 10 rfl (by rw [asz]; decide)).trans hv5
      refine op_run (v := .bool false) (w' := wx) rfl rfl ?_ ?_
      ·
       clear hp hd; have ec : ∀ v, (fr DL1 A t).eval (.const v) = v := fun _ => rfl; generalize (fr DL1 A t).eval = ev at ec e8 e10 ⊢; go_simp
      ·
       exact ⟨_, 0, rfl, hB, Below.refl _ _, rfl, .inl rfl⟩
     | 7, _ =>
      have e11 : (fr DL1 A t).eval (.tmp 11) = .bool false := (fr_eval _ _ _ 11 rfl (by rw [asz]; decide)).trans (hp 6 (pre_mem (by kernel_rfl)))
      refine op_run (v := .bool false) (w' := wx) rfl rfl ?_ ?_
      ·
       clear hp hd; have ec : ∀ v, (fr DL1 A t).eval (.const v) = v := fun _ => rfl; generalize (fr DL1 A t).eval = ev at ec e11 ⊢; go_simp
      ·
       exact ⟨_, 0, rfl, hB, Below.refl _ _, rfl, .inl rfl⟩
     | 8, _ =>
      have e12 : (fr DL1 A t).eval (.tmp 12) = .bool false := (fr_eval _ _ _ 12 rfl (by rw [asz]; decide)).trans (hp 7 (pre_mem (by kernel_rfl)))
      refine op_skip rfl (wanted_false rfl rfl e12 rfl) ?_
      exact ⟨_, 0, rfl, hB, Below.refl _ _, rfl, .inl rfl⟩
     | 9, _ =>
      have e12 : (fr DL1 A t).eval (.tmp 12) = .bool false := (fr_eval _ _ _ 12 rfl (by rw [asz]; decide)).trans (hp 7 (pre_mem (by kernel_rfl)))
      refine op_skip rfl (wanted_false rfl rfl e12 rfl) ?_
      exact ⟨_, 0, rfl, hB, Below.refl _ _, rfl, .inl rfl⟩
     | 10, _ =>
      have e12 : (fr DL1 A t).eval (.tmp 12) = .bool false := (fr_eval _ _ _ 12 rfl (by rw [asz]; decide)).trans (hp 7 (pre_mem (by kernel_rfl)))
      refine op_skip rfl (wanted_false rfl rfl e12 rfl) ?_
      exact ⟨_, 0, rfl, hB, Below.refl _ _, rfl, .inl rfl⟩
     | 11, _ =>
      have e12 : (fr DL1 A t).eval (.tmp 12) = .bool false := (fr_eval _ _ _ 12 rfl (by rw [asz]; decide)).trans (hp 7 (pre_mem (by kernel_rfl)))
      refine op_skip rfl (wanted_false rfl rfl e12 rfl) ?_
      exact ⟨_, 0, rfl, hB, Below.refl _ _, rfl, .inl rfl⟩
     | 12, _ =>
      have e12 : (fr DL1 A t).eval (.tmp 12) = .bool false := (fr_eval _ _ _ 12 rfl (by rw [asz]; decide)).trans (hp 7 (pre_mem (by kernel_rfl)))
      refine op_skip rfl (wanted_false rfl rfl e12 rfl) ?_
      exact ⟨_, 0, rfl, hB, Below.refl _ _, rfl, .inl rfl⟩
     | 13, _ =>
      have e12 : (fr DL1 A t).eval (.tmp 12) = .bool false := (fr_eval _ _ _ 12 rfl (by rw [asz]; decide)).trans (hp 7 (pre_mem (by kernel_rfl)))
      refine op_skip rfl (wanted_false rfl rfl e12 rfl) ?_
      exact ⟨_, 0, rfl, hB, Below.refl _ _, rfl, .inl rfl⟩
     | 14, _ =>
      have e12 : (fr DL1 A t).eval (.tmp 12) = .bool false := (fr_eval _ _ _ 12 rfl (by rw [asz]; decide)).trans (hp 7 (pre_mem (by kernel_rfl)))
      refine op_skip rfl (wanted_false rfl rfl e12 rfl) ?_
      exact ⟨_, 0, rfl, hB, Below.refl _ _, rfl, .inl rfl⟩
     | 15, _ =>
      have e12 : (fr DL1 A t).eval (.tmp 12) = .bool false := (fr_eval _ _ _ 12 rfl (by rw [asz]; decide)).trans (hp 7 (pre_mem (by kernel_rfl)))
      refine op_skip rfl (wanted_false rfl rfl e12 rfl) ?_
      exact ⟨_, 0, rfl, hB, Below.refl _ _, rfl, .inl rfl⟩
     | 16, _ =>
      have e12 : (fr DL1 A t).eval (.tmp 12) = .bool false := (fr_eval _ _ _ 12 rfl (by rw [asz]; decide)).trans (hp 7 (pre_mem (by kernel_rfl)))
      refine op_skip rfl (wanted_false rfl rfl e12 rfl) ?_
      exact ⟨_, 0, rfl, hB, Below.refl _ _, rfl, .inl rfl⟩
     | 17, _ =>
      have e12 : (fr DL1 A t).eval (.tmp 12) = .bool false := (fr_eval _ _ _ 12 rfl (by rw [asz]; decide)).trans (hp 7 (pre_mem (by kernel_rfl)))
      refine op_skip rfl (wanted_false rfl rfl e12 rfl) ?_
      exact ⟨_, 0, rfl, hB, Below.refl _ _, rfl, .inl rfl⟩
     | 18, _ =>
      have e12 : (fr DL1 A t).eval (.tmp 12) = .bool false := (fr_eval _ _ _ 12 rfl (by rw [asz]; decide)).trans (hp 7 (pre_mem (by kernel_rfl)))
      refine op_skip rfl (wanted_false rfl rfl e12 rfl) ?_
      exact ⟨_, 0, rfl, hB, Below.refl _ _, rfl, .inl rfl⟩
     | 19, _ =>
      have e12 : (fr DL1 A t).eval (.tmp 12) = .bool false := (fr_eval _ _ _ 12 rfl (by rw [asz]; decide)).trans (hp 7 (pre_mem (by kernel_rfl)))
      refine op_skip rfl (wanted_false rfl rfl e12 rfl) ?_
      exact ⟨_, 0, rfl, hB, Below.refl _ _, rfl, .inl rfl⟩
     | 20, _ =>
      have e12 : (fr DL1 A t).eval (.tmp 12) = .bool false := (fr_eval _ _ _ 12 rfl (by rw [asz]; decide)).trans (hp 7 (pre_mem (by kernel_rfl)))
      refine op_skip rfl (wanted_false rfl rfl e12 rfl) ?_
      exact ⟨_, 0, rfl, hB, Below.refl _ _, rfl, .inl rfl⟩
     | 21, _ =>
      have e12 : (fr DL1 A t).eval (.tmp 12) = .bool false := (fr_eval _ _ _ 12 rfl (by rw [asz]; decide)).trans (hp 7 (pre_mem (by kernel_rfl)))
      refine op_skip rfl (wanted_false rfl rfl e12 rfl) ?_
      exact ⟨_, 0, rfl, hB, Below.refl _ _, rfl, .inl rfl⟩
     | 22, _ =>
      have e12 : (fr DL1 A t).eval (.tmp 12) = .bool false := (fr_eval _ _ _ 12 rfl (by rw [asz]; decide)).trans (hp 7 (pre_mem (by kernel_rfl)))
      refine op_skip rfl (wanted_false rfl rfl e12 rfl) ?_
      exact ⟨_, 0, rfl, hB, Below.refl _ _, rfl, .inl rfl⟩
     | 23, _ =>
      have e12 : (fr DL1 A t).eval (.tmp 12) = .bool false := (fr_eval _ _ _ 12 rfl (by rw [asz]; decide)).trans (hp 7 (pre_mem (by kernel_rfl)))
      have e27 : (fr DL1 A t).eval (.tmp 27) = undef := (fr_eval _ _ _ 27 rfl (by rw [asz]; decide)).trans (hp 22 (pre_mem (by kernel_rfl)))
      refine op_run (v := .bool false) (w' := wx) rfl rfl ?_ ?_
      ·
       clear hp hd; have ec : ∀ v, (fr DL1 A t).eval (.const v) = v := fun _ => rfl; generalize (fr DL1 A t).eval = ev at ec e12 e27 ⊢; go_simp
      ·
       exact ⟨_, 0, rfl, hB, Below.refl _ _, rfl, .inl rfl⟩
     | n + 24, hi => exact absurd hi (by omega)
    ·
     intro t ρ wx hB hF hne
     have e28 : (fr DL1 A t).eval (.tmp 28) = .bool false := (fr_eval _ _ _ 28 rfl (by rw [asz]; decide)).trans (hF 23 (by decide))
     clear hne
     refine op_wp rfl rfl ?_
     generalize hE : (fr DL1 A t).eval = ev at e28
     unfold Oper.wp
     rw [hE]
     go_simp
     refine hMet _ _ (Met.intro (hRJ _ _ ⟨_, t 5, t 6, t 7, t 8, t 9, t 10, t 11, t 12, t 13, t 14, t 15, t 16, t 17, t 18, t 19, t 20, t 21, t 22, t 23, t 24, t 25, t 26, t 27, t 28, ⟨rfl, hB⟩, ?_⟩))
     rw [← hA]; rfl
   case rest =>
    obtain ⟨rfl, b⟩ := hcut
    go_wp2
    go_ret
    exact ⟨rfl, B1.out.trans (b.mono B1.out.size)⟩
  | true =>
   have HSV : Hid (sameI F.proof (ofF l F) = vo) := by show _ = _; rw [← HV.out]; exact (pOk_3 HK1.out hk2).symm
   have HPL : Hid (F.proof.length ≤ 16) := (FrB.ok_lens F HK1.out).2.2.2.1
   go_cut [4] from 5 to 28 (fun sv wx => sv = .bool vo ∧ Below x1.heap.size x1 wx)
   case first =>
    rename_i J K' hRJ hMet
    generalize hA : Act.mk _ _ = A
    have a0' : A.eval (.tmp 0) = .slice q.a q.n q.c := by rw [← hA]; rfl
    have a3' : A.eval (.tmp 3) = .pointer (some ⟨gf, 0, none⟩) := by rw [← hA]; rfl
    have asz : A.tmps.size = 29 := by rw [← hA]; rfl
    have hKF : ∀ wx, Below x1.heap.size x1 wx → Blk wx gf 25 [.int .i64 F.kind, .int .i64 F.id, .slice SF.cn.a SF.cn.n SF.cn.c, .slice SF.sn.a SF.sn.n SF.sn.c, .int .i64 F.tick, .slice SF.cookie.a SF.cookie.n SF.cookie.c, .slice SF.proof.a SF.proof.n SF.proof.c, .int .i64 F.epoch, .int .i64 F.seq, .slice SF.body.a SF.body.n SF.body.c, .slice SF.tag.a SF.tag.n SF.tag.c] := fun wx hb => KF1.out.later hb
    have hWB : ∀ wx, Below x1.heap.size x1 wx → Below w.heap.size w wx := fun wx hb => B1.out.trans (hb.mono B1.out.size)
    refine region_each (by kernel_rfl) DL1 24 (fun i => DL1.getD i 0) (fun _ => 0)
     (fun i gB v wx => match i with
      | 0 => v = .pointer (some ⟨gf, 0, none⟩)
      | 1 => v = .int .i64 F.kind
      | 2 => v = .bool true
      | 3 => v = .bool true
      | 4 => v = .agg #[.int .i64 F.kind, .int .i64 F.id, .slice SF.cn.a SF.cn.n SF.cn.c, .slice SF.sn.a SF.sn.n SF.sn.c, .int .i64 F.tick, .slice SF.cookie.a SF.cookie.n SF.cookie.c, .slice SF.proof.a SF.proof.n SF.proof.c, .int .i64 F.epoch, .int .i64 F.seq, .slice SF.body.a SF.body.n SF.body.c, .slice SF.tag.a SF.tag.n SF.tag.c]
      | 5 => v = .bool true
      | 6 => v = .bool true
      | 7 => v = .bool true
      | 8 => v = .pointer (some ⟨gf, 6, none⟩)
      | 9 => v = .slice SF.proof.a SF.proof.n SF.proof.c
      | 10 => v = .slice q.a q.n q.c
      | 11 => v = .pointer (some ⟨gf, 1, none⟩)
      | 12 => v = .int .i64 F.id
      | 13 => v = .pointer (some ⟨gf, 2, none⟩)
      | 14 => v = .slice SF.cn.a SF.cn.n SF.cn.c
      | 15 => v = .pointer (some ⟨gf, 3, none⟩)
      | 16 => v = .slice SF.sn.a SF.sn.n SF.sn.c
      | 17 => v = .pointer (some ⟨gf, 4, none⟩)
      | 18 => v = .int .i64 F.tick
      | 19 => v = .pointer (some ⟨gf, 5, none⟩)
      | 20 => v = .slice SF.cookie.a SF.cookie.n SF.cookie.c
      | 21 => ∃ T, v = .slice T.a T.n T.c ∧ SRd wx T (ofF l F)
      | 22 => v = .bool vo
      | 23 => v = .bool vo
      | _ => False) (fun wx => Below x1.heap.size x1 wx) (by kernel_rfl) (Below.refl _ _).drew ?_ ?_ ?_
    ·
     intro i gB v wx wy hi hF hb _
     match i, hi with
     | 0, _ => exact hF
     | 1, _ => exact hF
     | 2, _ => exact hF
     | 3, _ => exact hF
     | 4, _ => exact hF
     | 5, _ => exact hF
     | 6, _ => exact hF
     | 7, _ => exact hF
     | 8, _ => exact hF
     | 9, _ => exact hF
     | 10, _ => exact hF
     | 11, _ => exact hF
     | 12, _ => exact hF
     | 13, _ => exact hF
     | 14, _ => exact hF
     | 15, _ => exact hF
     | 16, _ => exact hF
     | 17, _ => exact hF
     | 18, _ => exact hF
     | 19, _ => exact hF
     | 20, _ => exact hF
     | 21, _ => obtain ⟨T, h0, h1⟩ := hF; exact ⟨T, h0, h1.later hb⟩
     | 22, _ => exact hF
     | 23, _ => exact hF
     | n + 24, hi => exact absurd hi (by omega)
    ·
     intro i hi t ρ wx hB hp hd
     match i, hi with
     | 0, _ =>
      have e3 : (fr DL1 A t).eval (.tmp 3) = .pointer (some ⟨gf, 0, none⟩) := (fr_eval_old _ _ _ 3 rfl).trans a3'
      refine op_run (v := .pointer (some ⟨gf, 0, none⟩)) (w' := wx) rfl rfl ?_ ?_
      ·
       clear hp hd; have ec : ∀ v, (fr DL1 A t).eval (.const v) = v := fun _ => rfl; generalize (fr DL1 A t).eval = ev at ec e3 ⊢; go_simp
      ·
       exact ⟨_, 0, rfl, hB, Below.refl _ _, rfl, .inl rfl⟩
     | 1, _ =>
      have e5 : (fr DL1 A t).eval (.tmp 5) = .pointer (some ⟨gf, 0, none⟩) := (fr_eval _ _ _ 5 rfl (by rw [asz]; decide)).trans (hp 0 (pre_mem (by kernel_rfl)))
      have hc := (hKF wx hB).cell 0 rfl
      refine op_run (v := .int .i64 F.kind) (w' := wx) rfl rfl ?_ ?_
      ·
       clear hp hd; have ec : ∀ v, (fr DL1 A t).eval (.const v) = v := fun _ => rfl; generalize (fr DL1 A t).eval = ev at ec e5 ⊢; go_simp
      ·
       exact ⟨_, 0, rfl, hB, Below.refl _ _, rfl, .inl rfl⟩
     | 2, _ =>
      have e6 : (fr DL1 A t).eval (.tmp 6) = .int .i64 F.kind := (fr_eval _ _ _ 6 rfl (by rw [asz]; decide)).trans (hp 1 (pre_mem (by kernel_rfl)))
      have hh := hk2
      refine op_run (v := .bool true) (w' := wx) rfl rfl ?_ ?_
      ·
       clear hp hd; have ec : ∀ v, (fr DL1 A t).eval (.const v) = v := fun _ => rfl; generalize (fr DL1 A t).eval = ev at ec e6 ⊢; go_simp
      ·
       exact ⟨_, 0, rfl, hB, Below.refl _ _, rfl, .inl rfl⟩
     | 3, _ =>
      have e7 : (fr DL1 A t).eval (.tmp 7) = .bool true := (fr_eval _ _ _ 7 rfl (by rw [asz]; decide)).trans (hp 2 (pre_mem (by kernel_rfl)))
      refine op_run (v := .bool true) (w' := wx) rfl rfl ?_ ?_
      ·
       clear hp hd; have ec : ∀ v, (fr DL1 A t).eval (.const v) = v := fun _ => rfl; generalize (fr DL1 A t).eval = ev at ec e7 ⊢; go_simp
      ·
       exact ⟨_, 0, rfl, hB, Below.refl _ _, rfl, .inl rfl⟩
     | 4, _ =>
      have e3 : (fr DL1 A t).eval (.tmp 3) = .pointer (some ⟨gf, 0, none⟩) := (fr_eval_old _ _ _ 3 rfl).trans a3'
      have e8 : (fr DL1 A t).eval (.tmp 8) = .bool true := (fr_eval _ _ _ 8 rfl (by rw [asz]; decide)).trans (hp 3 (pre_mem (by kernel_rfl)))
      obtain ⟨hc0, hc1, hc2, hc3, hc4, hc5, hc6, hc7, hc8, hc9, hc10⟩ := cells11 (hKF wx hB)
      refine op_run_g (v := .agg #[.int .i64 F.kind, .int .i64 F.id, .slice SF.cn.a SF.cn.n SF.cn.c, .slice SF.sn.a SF.sn.n SF.sn.c, .int .i64 F.tick, .slice SF.cookie.a SF.cookie.n SF.cookie.c, .slice SF.proof.a SF.proof.n SF.proof.c, .int .i64 F.epoch, .int .i64 F.seq, .slice SF.body.a SF.body.n SF.body.c, .slice SF.tag.a SF.tag.n SF.tag.c]) (w' := wx) rfl (wanted_true rfl rfl e8) ?_ ?_
      ·
       clear hp hd; have ec : ∀ v, (fr DL1 A t).eval (.const v) = v := fun _ => rfl; generalize (fr DL1 A t).eval = ev at ec e3 e8 ⊢; go_simp
      ·
       exact ⟨_, 0, rfl, hB, Below.refl _ _, rfl, .inl rfl⟩
     | 5, _ =>
      have e9 : (fr DL1 A t).eval (.tmp 9) = .agg #[.int .i64 F.kind, .int .i64 F.id, .slice SF.cn.a SF.cn.n SF.cn.c, .slice SF.sn.a SF.sn.n SF.sn.c, .int .i64 F.tick, .slice SF.cookie.a SF.cookie.n SF.cookie.c, .slice SF.proof.a SF.proof.n SF.proof.c, .int .i64 F.epoch, .int .i64 F.seq, .slice SF.body.a SF.body.n SF.body.c, .slice SF.tag.a SF.tag.n SF.tag.c] := (fr_eval _ _ _ 9 rfl (by rw [asz]; decide)).trans (hp 4 (pre_mem (by kernel_rfl)))
      have e8 : (fr DL1 A t).eval (.tmp 8) = .bool true := (fr_eval _ _ _ 8 rfl (by rw [asz]; decide)).trans (hp 3 (pre_mem (by kernel_rfl)))
      refine op_call_g (f := 15) (args := #[.agg #[.int .i64 F.kind, .int .i64 F.id, .slice SF.cn.a SF.cn.n SF.cn.c, .slice SF.sn.a SF.sn.n SF.sn.c, .int .i64 F.tick, .slice SF.cookie.a SF.cookie.n SF.cookie.c, .slice SF.proof.a SF.proof.n SF.proof.c, .int .i64 F.epoch, .int .i64 F.seq, .slice SF.body.a SF.body.n SF.body.c, .slice SF.tag.a SF.tag.n SF.tag.c]]) rfl (wanted_true rfl rfl e8) ?_ (fokV SF F true wx (HF.out.later (hWB wx hB)) HK1.out) ?_
      ·
       have ef : (fr DL1 A t).eval (.func 15) = .func (.func 15) #[] #[] := rfl; clear hp hd; have ec : ∀ v, (fr DL1 A t).eval (.const v) = v := fun _ => rfl; generalize (fr DL1 A t).eval = ev at ec e9 e8 ef ⊢; go_simp
      ·
       rintro e wy ⟨rfl, b1⟩
       exact ⟨_, rfl, _, 0, rfl, hB.trans (b1.mono hB.size), b1, rfl, .inl rfl⟩
     | 6, _ =>
      have e8 : (fr DL1 A t).eval (.tmp 8) = .bool true := (fr_eval _ _ _ 8 rfl (by rw [asz]; decide)).trans (hp 3 (pre_mem (by kernel_rfl)))
      have hv5 := hp 5 (pre_mem (by kernel_rfl))
      have e10 : (fr DL1 A t).eval (.tmp 10) = .bool true := (fr_eval _ _ _ 10 rfl (by rw [asz]; decide)).trans hv5
      refine op_run (v := .bool true) (w' := wx) rfl rfl ?_ ?_
      ·
       clear hp hd; have ec : ∀ v, (fr DL1 A t).eval (.const v) = v := fun _ => rfl; generalize (fr DL1 A t).eval = ev at ec e8 e10 ⊢; go_simp
      ·
       exact ⟨_, 0, rfl, hB, Below.refl _ _, rfl, .inl rfl⟩
     | 7, _ =>
      have e11 : (fr DL1 A t).eval (.tmp 11) = .bool true := (fr_eval _ _ _ 11 rfl (by rw [asz]; decide)).trans (hp 6 (pre_mem (by kernel_rfl)))
      refine op_run (v := .bool true) (w' := wx) rfl rfl ?_ ?_
      ·
       clear hp hd; have ec : ∀ v, (fr DL1 A t).eval (.const v) = v := fun _ => rfl; generalize (fr DL1 A t).eval = ev at ec e11 ⊢; go_simp
      ·
       exact ⟨_, 0, rfl, hB, Below.refl _ _, rfl, .inl rfl⟩
     | 8, _ =>
      have e3 : (fr DL1 A t).eval (.tmp 3) = .pointer (some ⟨gf, 0, none⟩) := (fr_eval_old _ _ _ 3 rfl).trans a3'
      have e12 : (fr DL1 A t).eval (.tmp 12) = .bool true := (fr_eval _ _ _ 12 rfl (by rw [asz]; decide)).trans (hp 7 (pre_mem (by kernel_rfl)))
      refine op_run_g (v := .pointer (some ⟨gf, 6, none⟩)) (w' := wx) rfl (wanted_true rfl rfl e12) ?_ ?_
      ·
       clear hp hd; have ec : ∀ v, (fr DL1 A t).eval (.const v) = v := fun _ => rfl; generalize (fr DL1 A t).eval = ev at ec e3 e12 ⊢; go_simp
      ·
       exact ⟨_, 0, rfl, hB, Below.refl _ _, rfl, .inl rfl⟩
     | 9, _ =>
      have e13 : (fr DL1 A t).eval (.tmp 13) = .pointer (some ⟨gf, 6, none⟩) := (fr_eval _ _ _ 13 rfl (by rw [asz]; decide)).trans (hp 8 (pre_mem (by kernel_rfl)))
      have e12 : (fr DL1 A t).eval (.tmp 12) = .bool true := (fr_eval _ _ _ 12 rfl (by rw [asz]; decide)).trans (hp 7 (pre_mem (by kernel_rfl)))
      have hc := (hKF wx hB).cell 6 rfl
      refine op_run_g (v := .slice SF.proof.a SF.proof.n SF.proof.c) (w' := wx) rfl (wanted_true rfl rfl e12) ?_ ?_
      ·
       clear hp hd; have ec : ∀ v, (fr DL1 A t).eval (.const v) = v := fun _ => rfl; generalize (fr DL1 A t).eval = ev at ec e13 e12 ⊢; go_simp
      ·
       exact ⟨_, 0, rfl, hB, Below.refl _ _, rfl, .inl rfl⟩
     | 10, _ =>
      have e0 : (fr DL1 A t).eval (.tmp 0) = .slice q.a q.n q.c := (fr_eval_old _ _ _ 0 rfl).trans a0'
      have e12 : (fr DL1 A t).eval (.tmp 12) = .bool true := (fr_eval _ _ _ 12 rfl (by rw [asz]; decide)).trans (hp 7 (pre_mem (by kernel_rfl)))
      refine op_run_g (v := .slice q.a q.n q.c) (w' := wx) rfl (wanted_true rfl rfl e12) ?_ ?_
      ·
       clear hp hd; have ec : ∀ v, (fr DL1 A t).eval (.const v) = v := fun _ => rfl; generalize (fr DL1 A t).eval = ev at ec e0 e12 ⊢; go_simp
      ·
       exact ⟨_, 0, rfl, hB, Below.refl _ _, rfl, .inl rfl⟩
     | 11, _ =>
      have e3 : (fr DL1 A t).eval (.tmp 3) = .pointer (some ⟨gf, 0, none⟩) := (fr_eval_old _ _ _ 3 rfl).trans a3'
      have e12 : (fr DL1 A t).eval (.tmp 12) = .bool true := (fr_eval _ _ _ 12 rfl (by rw [asz]; decide)).trans (hp 7 (pre_mem (by kernel_rfl)))
      refine op_run_g (v := .pointer (some ⟨gf, 1, none⟩)) (w' := wx) rfl (wanted_true rfl rfl e12) ?_ ?_
      ·
       clear hp hd; have ec : ∀ v, (fr DL1 A t).eval (.const v) = v := fun _ => rfl; generalize (fr DL1 A t).eval = ev at ec e3 e12 ⊢; go_simp
      ·
       exact ⟨_, 0, rfl, hB, Below.refl _ _, rfl, .inl rfl⟩
     | 12, _ =>
      have e16 : (fr DL1 A t).eval (.tmp 16) = .pointer (some ⟨gf, 1, none⟩) := (fr_eval _ _ _ 16 rfl (by rw [asz]; decide)).trans (hp 11 (pre_mem (by kernel_rfl)))
      have e12 : (fr DL1 A t).eval (.tmp 12) = .bool true := (fr_eval _ _ _ 12 rfl (by rw [asz]; decide)).trans (hp 7 (pre_mem (by kernel_rfl)))
      have hc := (hKF wx hB).cell 1 rfl
      refine op_run_g (v := .int .i64 F.id) (w' := wx) rfl (wanted_true rfl rfl e12) ?_ ?_
      ·
       clear hp hd; have ec : ∀ v, (fr DL1 A t).eval (.const v) = v := fun _ => rfl; generalize (fr DL1 A t).eval = ev at ec e16 e12 ⊢; go_simp
      ·
       exact ⟨_, 0, rfl, hB, Below.refl _ _, rfl, .inl rfl⟩
     | 13, _ =>
      have e3 : (fr DL1 A t).eval (.tmp 3) = .pointer (some ⟨gf, 0, none⟩) := (fr_eval_old _ _ _ 3 rfl).trans a3'
      have e12 : (fr DL1 A t).eval (.tmp 12) = .bool true := (fr_eval _ _ _ 12 rfl (by rw [asz]; decide)).trans (hp 7 (pre_mem (by kernel_rfl)))
      refine op_run_g (v := .pointer (some ⟨gf, 2, none⟩)) (w' := wx) rfl (wanted_true rfl rfl e12) ?_ ?_
      ·
       clear hp hd; have ec : ∀ v, (fr DL1 A t).eval (.const v) = v := fun _ => rfl; generalize (fr DL1 A t).eval = ev at ec e3 e12 ⊢; go_simp
      ·
       exact ⟨_, 0, rfl, hB, Below.refl _ _, rfl, .inl rfl⟩
     | 14, _ =>
      have e18 : (fr DL1 A t).eval (.tmp 18) = .pointer (some ⟨gf, 2, none⟩) := (fr_eval _ _ _ 18 rfl (by rw [asz]; decide)).trans (hp 13 (pre_mem (by kernel_rfl)))
      have e12 : (fr DL1 A t).eval (.tmp 12) = .bool true := (fr_eval _ _ _ 12 rfl (by rw [asz]; decide)).trans (hp 7 (pre_mem (by kernel_rfl)))
      have hc := (hKF wx hB).cell 2 rfl
      refine op_run_g (v := .slice SF.cn.a SF.cn.n SF.cn.c) (w' := wx) rfl (wanted_true rfl rfl e12) ?_ ?_
      ·
       clear hp hd; have ec : ∀ v, (fr DL1 A t).eval (.const v) = v := fun _ => rfl; generalize (fr DL1 A t).eval = ev at ec e18 e12 ⊢; go_simp
      ·
       exact ⟨_, 0, rfl, hB, Below.refl _ _, rfl, .inl rfl⟩
     | 15, _ =>
      have e3 : (fr DL1 A t).eval (.tmp 3) = .pointer (some ⟨gf, 0, none⟩) := (fr_eval_old _ _ _ 3 rfl).trans a3'
      have e12 : (fr DL1 A t).eval (.tmp 12) = .bool true := (fr_eval _ _ _ 12 rfl (by rw [asz]; decide)).trans (hp 7 (pre_mem (by kernel_rfl)))
      refine op_run_g (v := .pointer (some ⟨gf, 3, none⟩)) (w' := wx) rfl (wanted_true rfl rfl e12) ?_ ?_
      ·
       clear hp hd; have ec : ∀ v, (fr DL1 A t).eval (.const v) = v := fun _ => rfl; generalize (fr DL1 A t).eval = ev at ec e3 e12 ⊢; go_simp
      ·
       exact ⟨_, 0, rfl, hB, Below.refl _ _, rfl, .inl rfl⟩
     | 16, _ =>
      have e20 : (fr DL1 A t).eval (.tmp 20) = .pointer (some ⟨gf, 3, none⟩) := (fr_eval _ _ _ 20 rfl (by rw [asz]; decide)).trans (hp 15 (pre_mem (by kernel_rfl)))
      have e12 : (fr DL1 A t).eval (.tmp 12) = .bool true := (fr_eval _ _ _ 12 rfl (by rw [asz]; decide)).trans (hp 7 (pre_mem (by kernel_rfl)))
      have hc := (hKF wx hB).cell 3 rfl
      refine op_run_g (v := .slice SF.sn.a SF.sn.n SF.sn.c) (w' := wx) rfl (wanted_true rfl rfl e12) ?_ ?_
      ·
       clear hp hd; have ec : ∀ v, (fr DL1 A t).eval (.const v) = v := fun _ => rfl; generalize (fr DL1 A t).eval = ev at ec e20 e12 ⊢; go_simp
      ·
       exact ⟨_, 0, rfl, hB, Below.refl _ _, rfl, .inl rfl⟩
     | 17, _ =>
      have e3 : (fr DL1 A t).eval (.tmp 3) = .pointer (some ⟨gf, 0, none⟩) := (fr_eval_old _ _ _ 3 rfl).trans a3'
      have e12 : (fr DL1 A t).eval (.tmp 12) = .bool true := (fr_eval _ _ _ 12 rfl (by rw [asz]; decide)).trans (hp 7 (pre_mem (by kernel_rfl)))
      refine op_run_g (v := .pointer (some ⟨gf, 4, none⟩)) (w' := wx) rfl (wanted_true rfl rfl e12) ?_ ?_
      ·
       clear hp hd; have ec : ∀ v, (fr DL1 A t).eval (.const v) = v := fun _ => rfl; generalize (fr DL1 A t).eval = ev at ec e3 e12 ⊢; go_simp
      ·
       exact ⟨_, 0, rfl, hB, Below.refl _ _, rfl, .inl rfl⟩
     | 18, _ =>
      have e22 : (fr DL1 A t).eval (.tmp 22) = .pointer (some ⟨gf, 4, none⟩) := (fr_eval _ _ _ 22 rfl (by rw [asz]; decide)).trans (hp 17 (pre_mem (by kernel_rfl)))
      have e12 : (fr DL1 A t).eval (.tmp 12) = .bool true := (fr_eval _ _ _ 12 rfl (by rw [asz]; decide)).trans (hp 7 (pre_mem (by kernel_rfl)))
      have hc := (hKF wx hB).cell 4 rfl
      refine op_run_g (v := .int .i64 F.tick) (w' := wx) rfl (wanted_true rfl rfl e12) ?_ ?_
      ·
       clear hp hd; have ec : ∀ v, (fr DL1 A t).eval (.const v) = v := fun _ => rfl; generalize (fr DL1 A t).eval = ev at ec e22 e12 ⊢; go_simp
      ·
       exact ⟨_, 0, rfl, hB, Below.refl _ _, rfl, .inl rfl⟩
     | 19, _ =>
      have e3 : (fr DL1 A t).eval (.tmp 3) = .pointer (some ⟨gf, 0, none⟩) := (fr_eval_old _ _ _ 3 rfl).trans a3'
      have e12 : (fr DL1 A t).eval (.tmp 12) = .bool true := (fr_eval _ _ _ 12 rfl (by rw [asz]; decide)).trans (hp 7 (pre_mem (by kernel_rfl)))
      refine op_run_g (v := .pointer (some ⟨gf, 5, none⟩)) (w' := wx) rfl (wanted_true rfl rfl e12) ?_ ?_
      ·
       clear hp hd; have ec : ∀ v, (fr DL1 A t).eval (.const v) = v := fun _ => rfl; generalize (fr DL1 A t).eval = ev at ec e3 e12 ⊢; go_simp
      ·
       exact ⟨_, 0, rfl, hB, Below.refl _ _, rfl, .inl rfl⟩
     | 20, _ =>
      have e24 : (fr DL1 A t).eval (.tmp 24) = .pointer (some ⟨gf, 5, none⟩) := (fr_eval _ _ _ 24 rfl (by rw [asz]; decide)).trans (hp 19 (pre_mem (by kernel_rfl)))
      have e12 : (fr DL1 A t).eval (.tmp 12) = .bool true := (fr_eval _ _ _ 12 rfl (by rw [asz]; decide)).trans (hp 7 (pre_mem (by kernel_rfl)))
      have hc := (hKF wx hB).cell 5 rfl
      refine op_run_g (v := .slice SF.cookie.a SF.cookie.n SF.cookie.c) (w' := wx) rfl (wanted_true rfl rfl e12) ?_ ?_
      ·
       clear hp hd; have ec : ∀ v, (fr DL1 A t).eval (.const v) = v := fun _ => rfl; generalize (fr DL1 A t).eval = ev at ec e24 e12 ⊢; go_simp
      ·
       exact ⟨_, 0, rfl, hB, Below.refl _ _, rfl, .inl rfl⟩
     | 21, _ =>
      have e15 : (fr DL1 A t).eval (.tmp 15) = .slice q.a q.n q.c := (fr_eval _ _ _ 15 rfl (by rw [asz]; decide)).trans (hp 10 (pre_mem (by kernel_rfl)))
      have e17 : (fr DL1 A t).eval (.tmp 17) = .int .i64 F.id := (fr_eval _ _ _ 17 rfl (by rw [asz]; decide)).trans (hp 12 (pre_mem (by kernel_rfl)))
      have e19 : (fr DL1 A t).eval (.tmp 19) = .slice SF.cn.a SF.cn.n SF.cn.c := (fr_eval _ _ _ 19 rfl (by rw [asz]; decide)).trans (hp 14 (pre_mem (by kernel_rfl)))
      have e21 : (fr DL1 A t).eval (.tmp 21) = .slice SF.sn.a SF.sn.n SF.sn.c := (fr_eval _ _ _ 21 rfl (by rw [asz]; decide)).trans (hp 16 (pre_mem (by kernel_rfl)))
      have e23 : (fr DL1 A t).eval (.tmp 23) = .int .i64 F.tick := (fr_eval _ _ _ 23 rfl (by rw [asz]; decide)).trans (hp 18 (pre_mem (by kernel_rfl)))
      have e25 : (fr DL1 A t).eval (.tmp 25) = .slice SF.cookie.a SF.cookie.n SF.cookie.c := (fr_eval _ _ _ 25 rfl (by rw [asz]; decide)).trans (hp 20 (pre_mem (by kernel_rfl)))
      have e12 : (fr DL1 A t).eval (.tmp 12) = .bool true := (fr_eval _ _ _ 12 rfl (by rw [asz]; decide)).trans (hp 7 (pre_mem (by kernel_rfl)))
      refine op_call_g (f := 31) (args := #[.slice q.a q.n q.c, .int .i64 F.id, .slice SF.cn.a SF.cn.n SF.cn.c, .slice SF.sn.a SF.sn.n SF.sn.c, .int .i64 F.tick, .slice SF.cookie.a SF.cookie.n SF.cookie.c]) rfl (wanted_true rfl rfl e12) ?_ (KeJ.implProof q l F.id SF.cn SF.sn F.cn F.sn F.tick SF.cookie F.cookie wx (HT.out.later (hWB wx hB)) (HQ.out.later (hWB wx hB)) (HF.out.later (hWB wx hB)).cn (HF.out.later (hWB wx hB)).sn (HF.out.later (hWB wx hB)).cookie) ?_
      ·
       have ef : (fr DL1 A t).eval (.func 31) = .func (.func 31) #[] #[] := rfl; clear hp hd; have ec : ∀ v, (fr DL1 A t).eval (.const v) = v := fun _ => rfl; generalize (fr DL1 A t).eval = ev at ec e15 e17 e19 e21 e23 e25 e12 ef ⊢; go_simp
      ·
       rintro e wy ⟨T, rfl, o1, b1⟩
       exact ⟨_, rfl, _, 0, rfl, hB.trans (b1.mono hB.size), b1, ⟨T, rfl, o1.rd⟩, .inl rfl⟩
     | 22, _ =>
      have e14 : (fr DL1 A t).eval (.tmp 14) = .slice SF.proof.a SF.proof.n SF.proof.c := (fr_eval _ _ _ 14 rfl (by rw [asz]; decide)).trans (hp 9 (pre_mem (by kernel_rfl)))
      obtain ⟨T21, hv21, q21_0⟩ := hp 21 (pre_mem (by kernel_rfl))
      have e26 : (fr DL1 A t).eval (.tmp 26) = .slice T21.a T21.n T21.c := (fr_eval _ _ _ 26 rfl (by rw [asz]; decide)).trans hv21
      have e12 : (fr DL1 A t).eval (.tmp 12) = .bool true := (fr_eval _ _ _ 12 rfl (by rw [asz]; decide)).trans (hp 7 (pre_mem (by kernel_rfl)))
      refine op_call_g (f := 39) (args := #[.slice SF.proof.a SF.proof.n SF.proof.c, .slice T21.a T21.n T21.c]) rfl (wanted_true rfl rfl e12) ?_ (UnsI.sameTagV SF.proof T21 F.proof (ofF l F) vo wx (HF.out.later (hWB wx hB)).proof q21_0 (by have := HPL.out; omega) (by have := proofK_le l F.id F.cn F.sn F.tick F.cookie; unfold ofF; omega) HSV.out) ?_
      ·
       have ef : (fr DL1 A t).eval (.func 39) = .func (.func 39) #[] #[] := rfl; clear hp hd q21_0; have ec : ∀ v, (fr DL1 A t).eval (.const v) = v := fun _ => rfl; generalize (fr DL1 A t).eval = ev at ec e14 e26 e12 ef ⊢; go_simp
      ·
       rintro e wy ⟨rfl, b1⟩
       exact ⟨_, rfl, _, 0, rfl, hB.trans (b1.mono hB.size), b1, rfl, .inl rfl⟩
     | 23, _ =>
      have e12 : (fr DL1 A t).eval (.tmp 12) = .bool true := (fr_eval _ _ _ 12 rfl (by rw [asz]; decide)).trans (hp 7 (pre_mem (by kernel_rfl)))
      have hv22 := hp 22 (pre_mem (by kernel_rfl))
      have e27 : (fr DL1 A t).eval (.tmp 27) = .bool vo := (fr_eval _ _ _ 27 rfl (by rw [asz]; decide)).trans hv22
      refine op_run (v := .bool vo) (w' := wx) rfl rfl ?_ ?_
      ·
       clear hp hd; have ec : ∀ v, (fr DL1 A t).eval (.const v) = v := fun _ => rfl; generalize (fr DL1 A t).eval = ev at ec e12 e27 ⊢; go_simp
      ·
       exact ⟨_, 0, rfl, hB, Below.refl _ _, rfl, .inl rfl⟩
     | n + 24, hi => exact absurd hi (by omega)
    ·
     intro t ρ wx hB hF hne
     have e28 : (fr DL1 A t).eval (.tmp 28) = .bool vo := (fr_eval _ _ _ 28 rfl (by rw [asz]; decide)).trans (hF 23 (by decide))
     clear hne
     refine op_wp rfl rfl ?_
     generalize hE : (fr DL1 A t).eval = ev at e28
     unfold Oper.wp
     rw [hE]
     go_simp
     refine hMet _ _ (Met.intro (hRJ _ _ ⟨_, t 5, t 6, t 7, t 8, t 9, t 10, t 11, t 12, t 13, t 14, t 15, t 16, t 17, t 18, t 19, t 20, t 21, t 22, t 23, t 24, t 25, t 26, t 27, t 28, ⟨rfl, hB⟩, ?_⟩))
     rw [← hA]; rfl
   case rest =>
    obtain ⟨rfl, b⟩ := hcut
    go_wp2
    go_ret
    exact ⟨rfl, B1.out.trans (b.mono B1.out.size)⟩
end Go.Proofs.YtpenhliaelhnoaaGreatDoor.KeV

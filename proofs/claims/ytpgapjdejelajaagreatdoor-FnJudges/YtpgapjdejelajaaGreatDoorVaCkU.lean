/-
  What spec's Judge answers.
-/
import Derived.Test.YtpgapjdejelajaaGreatDoorVaGr9
import Derived.Test.YtpgapjdejelajaaGreatDoorVaGr8
import Derived.Test.YtpgapjdejelajaaGreatDoorVaGr17
import Derived.Test.YtpgapjdejelajaaGreatDoorVaGr12
import Derived.Test.YtpgapjdejelajaaGreatDoorVaGr4
set_option maxRecDepth 100000
namespace Go.Proofs.YtpgapjdejelajaaGreatDoor.CkU
open Go.RowKit Mem App Blk Words Zone Res AddrP AddrS JaZ JaL CkP Shp CkQ MacP KdfP Str FrZ FrP DiffP Each Copy Ops

abbrev DL1 : List Nat := [37, 38, 39, 40, 41, 42, 43, 44, 45, 46, 47, 48, 49, 50]
set_option maxHeartbeats 8000000 in
theorem specJudge (S : JaS) (D : JaD) (now h p : Int) (SF : FrS) (F : FrD) (w : World) (hj : JaRd w S D) (hf : FrRd w SF F) :
  Calls Tryz.prog 20 #[jaV D S, .int .i64 now, addrV h p, frV F SF] w fun e w' => e = .returned (.int .i64 (judgeC D now h p F)) ∧ Below w.heap.size w w' := by
 have HJ : Hid (JaRd w S D) := hj
 have HF := hid (hf)
 obtain ⟨C, hC⟩ : ∃ C, judgeC D now h p F = C := ⟨_, rfl⟩
 have HCD : Hid (judgeC D now h p F = C) := hC
 rw [hC]
 clear hj hf hC
 obtain ⟨x1, hx1⟩ : ∃ zz, ((w.alloc (.cells #[.slice S.secret.a S.secret.n S.secret.c] 25)).alloc (.cells #[.int .i64 h, .int .i64 p] 27)).alloc (.cells #[.int .i64 F.kind, .int .i64 F.id, .slice SF.cn.a SF.cn.n SF.cn.c, .slice SF.sn.a SF.sn.n SF.sn.c, .int .i64 F.tick, .slice SF.cookie.a SF.cookie.n SF.cookie.c, .slice SF.proof.a SF.proof.n SF.proof.c, .int .i64 F.epoch, .int .i64 F.seq, .slice SF.body.a SF.body.n SF.body.c, .slice SF.tag.a SF.tag.n SF.tag.c] 35) = zz := ⟨_, rfl⟩
 have HWA := hid (hx1)
 have b1 : Below w.heap.size w x1 := by rw [← hx1]; exact ((((Below.refl _ _).alloc (Nat.le_refl _) _).alloc (by simp) _).alloc (by simp; omega) _)
 have KJN : Blk x1 (w.heap.size) 25 [.slice S.secret.a S.secret.n S.secret.c] := by
  have q := (Blk.new (w) 25 [.slice S.secret.a S.secret.n S.secret.c])
  skip
  rw [← hx1]; exact (q.alloc _).alloc _
 have KAN : Blk x1 (w.heap.size + 1) 27 [.int .i64 h, .int .i64 p] := by
  have q := (Blk.new ((w.alloc (.cells #[.slice S.secret.a S.secret.n S.secret.c] 25))) 27 [.int .i64 h, .int .i64 p])
  rw [World.size_alloc] at q
  rw [← hx1]; exact q.alloc _
 have KFN : Blk x1 (w.heap.size + 1 + 1) 35 [.int .i64 F.kind, .int .i64 F.id, .slice SF.cn.a SF.cn.n SF.cn.c, .slice SF.sn.a SF.sn.n SF.sn.c, .int .i64 F.tick, .slice SF.cookie.a SF.cookie.n SF.cookie.c, .slice SF.proof.a SF.proof.n SF.proof.c, .int .i64 F.epoch, .int .i64 F.seq, .slice SF.body.a SF.body.n SF.body.c, .slice SF.tag.a SF.tag.n SF.tag.c] := by
  have q := (Blk.new (((w.alloc (.cells #[.slice S.secret.a S.secret.n S.secret.c] 25)).alloc (.cells #[.int .i64 h, .int .i64 p] 27))) 35 [.int .i64 F.kind, .int .i64 F.id, .slice SF.cn.a SF.cn.n SF.cn.c, .slice SF.sn.a SF.sn.n SF.sn.c, .int .i64 F.tick, .slice SF.cookie.a SF.cookie.n SF.cookie.c, .slice SF.proof.a SF.proof.n SF.proof.c, .int .i64 F.epoch, .int .i64 F.seq, .slice SF.body.a SF.body.n SF.body.c, .slice SF.tag.a SF.tag.n SF.tag.c])
  rw [World.size_alloc, World.size_alloc] at q
  rw [← hx1]; exact q
 have SZA : x1.heap.size = w.heap.size + 3 := by rw [← hx1]; simp
 clear hx1
 have L1 := hid (b1.size)
 have B1 := hid (b1)
 clear b1
 unfold jaV addrV frV
 go_enter Tryz.func20, Tryz.ntmps20
 go_upto_region 1 with fail
 rw [HWA.out]
 obtain ⟨gj, hgj⟩ : ∃ g, w.heap.size = g := ⟨_, rfl⟩
 obtain ⟨ga, hga⟩ : ∃ g, w.heap.size + 1 = g := ⟨_, rfl⟩
 obtain ⟨gf, hgf⟩ : ∃ g, w.heap.size + 1 + 1 = g := ⟨_, rfl⟩
 have GA : Hid (w.heap.size = gj ∧ gj + 1 = ga ∧ ga + 1 = gf ∧ x1.heap.size = gj + 3) := ⟨hgj, by omega, by omega, by omega⟩
 rw [hgj] at KJN
 rw [hga] at KAN
 rw [hgf] at KFN
 rw [hgf, hga, hgj]
 clear HWA SZA hgj hga hgf
 have KJ1 := hid (KJN)
 have KA1 := hid (KAN)
 have KF1 := hid (KFN)
 clear KJN KAN KFN
 have d0 := KJ1.out.cell 0 rfl
 have e0 := KA1.out.cell 0 rfl
 have e1 := KA1.out.cell 1 rfl
 obtain ⟨f0, f1, f2, f3, f4, f5, f6, f7, f8, f9, f10⟩ := cells11 KF1.out
 go_wp2_with fail
 refine (CkS.specJarOk S D x1 (HJ.out.later B1.out)).mono ?_
 rintro e x2 ⟨rfl, b⟩
 have L2 := hid (b.size)
 have B2 := hid (B1.out.trans (b.mono B1.out.size))
 have KJ2 := hid (KJ1.out.later b)
 have KA2 := hid (KA1.out.later b)
 have KF2 := hid (KF1.out.later b)
 clear b B1 KJ1 KA1 KF1
 clear d0
 clear e0 e1
 clear f0 f1 f2 f3 f4 f5 f6 f7 f8 f9 f10
 cases h0 : (jarOk D) with
 | false =>
  obtain rfl : C = 1 := by rw [← HCD.out]; exact judge_1 (by unfold judgeF; simp [h0])
  go_wp2
  go_ret
  exact ⟨rfl, B2.out⟩
 | true =>
  have d0 := KJ2.out.cell 0 rfl
  have e0 := KA2.out.cell 0 rfl
  have e1 := KA2.out.cell 1 rfl
  obtain ⟨f0, f1, f2, f3, f4, f5, f6, f7, f8, f9, f10⟩ := cells11 KF2.out
  go_wp2_with fail
  refine (Words.l1In now 0 1000000 x2).mono ?_
  rintro e y ⟨rfl, rfl⟩
  clear d0
  clear e0 e1
  clear f0 f1 f2 f3 f4 f5 f6 f7 f8 f9 f10
  cases h1 : (isIn now 0 1000000) with
  | false =>
   obtain rfl : C = 1 := by rw [← HCD.out]; exact judge_1 (by unfold judgeF; simp [h0, h1])
   go_wp2
   go_ret
   exact ⟨rfl, B2.out⟩
  | true =>
   have d0 := KJ2.out.cell 0 rfl
   have e0 := KA2.out.cell 0 rfl
   have e1 := KA2.out.cell 1 rfl
   obtain ⟨f0, f1, f2, f3, f4, f5, f6, f7, f8, f9, f10⟩ := cells11 KF2.out
   go_wp2_with fail
   refine (specAddrOk h p x2).mono ?_
   rintro e x3 ⟨rfl, b⟩
   have L3 := hid (b.size)
   have B3 := hid (B2.out.trans (b.mono B2.out.size))
   have KJ3 := hid (KJ2.out.later b)
   have KA3 := hid (KA2.out.later b)
   have KF3 := hid (KF2.out.later b)
   clear b B2 KJ2 KA2 KF2
   clear d0
   clear e0 e1
   clear f0 f1 f2 f3 f4 f5 f6 f7 f8 f9 f10
   cases h2 : (addrOk h p) with
   | false =>
    obtain rfl : C = 1 := by rw [← HCD.out]; exact judge_1 (by unfold judgeF; simp [h0, h1, h2])
    go_wp2
    go_ret
    exact ⟨rfl, B3.out⟩
   | true =>
    have d0 := KJ3.out.cell 0 rfl
    have e0 := KA3.out.cell 0 rfl
    have e1 := KA3.out.cell 1 rfl
    obtain ⟨f0, f1, f2, f3, f4, f5, f6, f7, f8, f9, f10⟩ := cells11 KF3.out
    go_wp2_with fail
    refine (FrS.specFrameOk SF F x3 (HF.out.later B3.out)).mono ?_
    rintro e x4 ⟨rfl, b⟩
    have L4 := hid (b.size)
    have B4 := hid (B3.out.trans (b.mono B3.out.size))
    have KJ4 := hid (KJ3.out.later b)
    have KA4 := hid (KA3.out.later b)
    have KF4 := hid (KF3.out.later b)
    clear b B3 KJ3 KA3 KF3
    clear d0
    clear e0 e1
    clear f0 f1 f2 f3 f4 f5 f6 f7 f8 f9 f10
    cases h3 : (frameOk F) with
    | false =>
     obtain rfl : C = 1 := by rw [← HCD.out]; exact judge_1 (by unfold judgeF; simp [h0, h1, h2, h3])
     go_wp2
     go_ret
     exact ⟨rfl, B4.out⟩
    | true =>
     have d0 := KJ4.out.cell 0 rfl
     have e0 := KA4.out.cell 0 rfl
     have e1 := KA4.out.cell 1 rfl
     obtain ⟨f0, f1, f2, f3, f4, f5, f6, f7, f8, f9, f10⟩ := cells11 KF4.out
     cases h4 : (F.kind == 3) with
     | false =>
      have hne : (F.kind != 3) = true := by simpa using h4
      obtain rfl : C = 1 := by rw [← HCD.out]; exact judge_1 (by unfold judgeF; simp [h0, h1, h2, h3, h4])
      go_wp2
      go_ret
      exact ⟨rfl, B4.out⟩
     | true =>
      have hne : (F.kind != 3) = false := by simpa using h4
      have HY : Hid (judgeF D now h p F = true) := by show judgeF _ _ _ _ _ = true; unfold judgeF; simp [h0, h1, h2, h3, h4]
      have HLN : Hid (F.cookie.length ≤ 16) := (FrB.ok_lens F h3).2.2.1
      go_wp2_with fail
      refine (CkS.specFresh now F.tick x4).mono ?_
      rintro e y ⟨rfl, rfl⟩
      clear d0
      clear e0 e1
      clear f0 f1 f2 f3 f4 f5 f6 f7 f8 f9 f10
      cases h5 : freshB now F.tick with
      | false =>
       obtain rfl : C = 9 := by rw [← HCD.out]; exact judge_9 HY.out h5
       go_wp2
       go_ret
       exact ⟨rfl, B4.out⟩
      | true =>
       obtain ⟨vv, hvv⟩ : ∃ v, sameI F.cookie (mint D h p F.id F.cn F.sn F.tick) = v := ⟨_, rfl⟩
       have HSV : Hid (sameI F.cookie (mint D h p F.id F.cn F.sn F.tick) = vv) := hvv
       clear hvv h0 h1 h2 h3 h4 hne
       go_upto_region 5 with fail
       go_cut [51] from 37 to 50 (fun sv wx => sv = .bool (!vv) ∧ Below x4.heap.size x4 wx)
       case first =>
        rename_i J K' hRJ hMet
        generalize hA : Act.mk _ _ = A
        have a4' : A.eval (.tmp 4) = .pointer (some ⟨gj, 0, none⟩) := by rw [← hA]; rfl
        have a6' : A.eval (.tmp 6) = .pointer (some ⟨ga, 0, none⟩) := by rw [← hA]; rfl
        have a7' : A.eval (.tmp 7) = .pointer (some ⟨gf, 0, none⟩) := by rw [← hA]; rfl
        have asz : A.tmps.size = 52 := by rw [← hA]; rfl
        have hKJ : ∀ wx, Below x4.heap.size x4 wx → Blk wx gj 25 [.slice S.secret.a S.secret.n S.secret.c] := fun wx hb => KJ4.out.later hb
        have hKA : ∀ wx, Below x4.heap.size x4 wx → Blk wx ga 27 [.int .i64 h, .int .i64 p] := fun wx hb => KA4.out.later hb
        have hKF : ∀ wx, Below x4.heap.size x4 wx → Blk wx gf 35 [.int .i64 F.kind, .int .i64 F.id, .slice SF.cn.a SF.cn.n SF.cn.c, .slice SF.sn.a SF.sn.n SF.sn.c, .int .i64 F.tick, .slice SF.cookie.a SF.cookie.n SF.cookie.c, .slice SF.proof.a SF.proof.n SF.proof.c, .int .i64 F.epoch, .int .i64 F.seq, .slice SF.body.a SF.body.n SF.body.c, .slice SF.tag.a SF.tag.n SF.tag.c] := fun wx hb => KF4.out.later hb
        have hWB : ∀ wx, Below x4.heap.size x4 wx → Below w.heap.size w wx := fun wx hb => B4.out.trans (hb.mono B4.out.size)
        refine region_each (by kernel_rfl) DL1 14 (fun i => DL1.getD i 0) (fun _ => 0)
         (fun i gB v wx => match i with
          | 0 => v = .pointer (some ⟨gf, 5, none⟩)
          | 1 => v = .slice SF.cookie.a SF.cookie.n SF.cookie.c
          | 2 => v = .agg #[.slice S.secret.a S.secret.n S.secret.c]
          | 3 => v = .agg #[.int .i64 h, .int .i64 p]
          | 4 => v = .pointer (some ⟨gf, 1, none⟩)
          | 5 => v = .int .i64 F.id
          | 6 => v = .pointer (some ⟨gf, 2, none⟩)
          | 7 => v = .slice SF.cn.a SF.cn.n SF.cn.c
          | 8 => v = .pointer (some ⟨gf, 3, none⟩)
          | 9 => v = .slice SF.sn.a SF.sn.n SF.sn.c
          | 10 => v = .pointer (some ⟨gf, 4, none⟩)
          | 11 => v = .int .i64 F.tick
          | 12 => ∃ T, v = .slice T.a T.n T.c ∧ SRd wx T (mint D h p F.id F.cn F.sn F.tick)
          | 13 => v = .bool vv
          | _ => False) (fun wx => Below x4.heap.size x4 wx) (by kernel_rfl) (Below.refl _ _).drew ?_ ?_ ?_
        ·
         intro i gB v wx wy hi hF hb _
         match i, hi with
         | 0, _ => exact hF
         | 1, _ => exact hF
         | 2, _ => exact hF
         | 3, _ => exact hF
         | 4, _ => exact hF
         | 5, _ => exact hF
         | 6, _ => exact hF
         | 7, _ => exact hF
         | 8, _ => exact hF
         | 9, _ => exact hF
         | 10, _ => exact hF
         | 11, _ => exact hF
         | 12, _ => obtain ⟨T, h0, h1⟩ := hF; exact ⟨T, h0, h1.later hb⟩
         | 13, _ => exact hF
        ·
         intro i hi t ρ wx hB hp hd
         match i, hi with
         | 0, _ =>
          have e7 : (fr DL1 A t).eval (.tmp 7) = .pointer (some ⟨gf, 0, none⟩) := (fr_eval_old _ _ _ 7 rfl).trans a7'
          refine op_run (v := .pointer (some ⟨gf, 5, none⟩)) (w' := wx) rfl rfl ?_ ?_
          ·
           clear hp hd; have ec : ∀ v, (fr DL1 A t).eval (.const v) = v := fun _ => rfl; generalize (fr DL1 A t).eval = ev at ec e7 ⊢; go_simp
          ·
           exact ⟨_, 0, rfl, hB, Below.refl _ _, rfl, .inl rfl⟩
         | 1, _ =>
          have e37 : (fr DL1 A t).eval (.tmp 37) = .pointer (some ⟨gf, 5, none⟩) := (fr_eval _ _ _ 37 rfl (by rw [asz]; decide)).trans (hp 0 (pre_mem (by kernel_rfl)))
          have hc := (hKF wx hB).cell 5 rfl
          refine op_run (v := .slice SF.cookie.a SF.cookie.n SF.cookie.c) (w' := wx) rfl rfl ?_ ?_
          ·
           clear hp hd; have ec : ∀ v, (fr DL1 A t).eval (.const v) = v := fun _ => rfl; generalize (fr DL1 A t).eval = ev at ec e37 ⊢; go_simp
          ·
           exact ⟨_, 0, rfl, hB, Below.refl _ _, rfl, .inl rfl⟩
         | 2, _ =>
          have e4 : (fr DL1 A t).eval (.tmp 4) = .pointer (some ⟨gj, 0, none⟩) := (fr_eval_old _ _ _ 4 rfl).trans a4'
          have hc := (hKJ wx hB).cell 0 rfl
          refine op_run (v := .agg #[.slice S.secret.a S.secret.n S.secret.c]) (w' := wx) rfl rfl ?_ ?_
          ·
           clear hp hd; have ec : ∀ v, (fr DL1 A t).eval (.const v) = v := fun _ => rfl; generalize (fr DL1 A t).eval = ev at ec e4 ⊢; go_simp
          ·
           exact ⟨_, 0, rfl, hB, Below.refl _ _, rfl, .inl rfl⟩
         | 3, _ =>
          have e6 : (fr DL1 A t).eval (.tmp 6) = .pointer (some ⟨ga, 0, none⟩) := (fr_eval_old _ _ _ 6 rfl).trans a6'
          have hc0 := (hKA wx hB).cell 0 rfl
          have hc1 := (hKA wx hB).cell 1 rfl
          refine op_run (v := .agg #[.int .i64 h, .int .i64 p]) (w' := wx) rfl rfl ?_ ?_
          ·
           clear hp hd; have ec : ∀ v, (fr DL1 A t).eval (.const v) = v := fun _ => rfl; generalize (fr DL1 A t).eval = ev at ec e6 ⊢; go_simp
          ·
           exact ⟨_, 0, rfl, hB, Below.refl _ _, rfl, .inl rfl⟩
         | 4, _ =>
          have e7 : (fr DL1 A t).eval (.tmp 7) = .pointer (some ⟨gf, 0, none⟩) := (fr_eval_old _ _ _ 7 rfl).trans a7'
          refine op_run (v := .pointer (some ⟨gf, 1, none⟩)) (w' := wx) rfl rfl ?_ ?_
          ·
           clear hp hd; have ec : ∀ v, (fr DL1 A t).eval (.const v) = v := fun _ => rfl; generalize (fr DL1 A t).eval = ev at ec e7 ⊢; go_simp
          ·
           exact ⟨_, 0, rfl, hB, Below.refl _ _, rfl, .inl rfl⟩
         | 5, _ =>
          have e41 : (fr DL1 A t).eval (.tmp 41) = .pointer (some ⟨gf, 1, none⟩) := (fr_eval _ _ _ 41 rfl (by rw [asz]; decide)).trans (hp 4 (pre_mem (by kernel_rfl)))
          have hc := (hKF wx hB).cell 1 rfl
          refine op_run (v := .int .i64 F.id) (w' := wx) rfl rfl ?_ ?_
          ·
           clear hp hd; have ec : ∀ v, (fr DL1 A t).eval (.const v) = v := fun _ => rfl; generalize (fr DL1 A t).eval = ev at ec e41 ⊢; go_simp
          ·
           exact ⟨_, 0, rfl, hB, Below.refl _ _, rfl, .inl rfl⟩
         | 6, _ =>
          have e7 : (fr DL1 A t).eval (.tmp 7) = .pointer (some ⟨gf, 0, none⟩) := (fr_eval_old _ _ _ 7 rfl).trans a7'
          refine op_run (v := .pointer (some ⟨gf, 2, none⟩)) (w' := wx) rfl rfl ?_ ?_
          ·
           clear hp hd; have ec : ∀ v, (fr DL1 A t).eval (.const v) = v := fun _ => rfl; generalize (fr DL1 A t).eval = ev at ec e7 ⊢; go_simp
          ·
           exact ⟨_, 0, rfl, hB, Below.refl _ _, rfl, .inl rfl⟩
         | 7, _ =>
          have e43 : (fr DL1 A t).eval (.tmp 43) = .pointer (some ⟨gf, 2, none⟩) := (fr_eval _ _ _ 43 rfl (by rw [asz]; decide)).trans (hp 6 (pre_mem (by kernel_rfl)))
          have hc := (hKF wx hB).cell 2 rfl
          refine op_run (v := .slice SF.cn.a SF.cn.n SF.cn.c) (w' := wx) rfl rfl ?_ ?_
          ·
           clear hp hd; have ec : ∀ v, (fr DL1 A t).eval (.const v) = v := fun _ => rfl; generalize (fr DL1 A t).eval = ev at ec e43 ⊢; go_simp
          ·
           exact ⟨_, 0, rfl, hB, Below.refl _ _, rfl, .inl rfl⟩
         | 8, _ =>
          have e7 : (fr DL1 A t).eval (.tmp 7) = .pointer (some ⟨gf, 0, none⟩) := (fr_eval_old _ _ _ 7 rfl).trans a7'
          refine op_run (v := .pointer (some ⟨gf, 3, none⟩)) (w' := wx) rfl rfl ?_ ?_
          ·
           clear hp hd; have ec : ∀ v, (fr DL1 A t).eval (.const v) = v := fun _ => rfl; generalize (fr DL1 A t).eval = ev at ec e7 ⊢; go_simp
          ·
           exact ⟨_, 0, rfl, hB, Below.refl _ _, rfl, .inl rfl⟩
         | 9, _ =>
          have e45 : (fr DL1 A t).eval (.tmp 45) = .pointer (some ⟨gf, 3, none⟩) := (fr_eval _ _ _ 45 rfl (by rw [asz]; decide)).trans (hp 8 (pre_mem (by kernel_rfl)))
          have hc := (hKF wx hB).cell 3 rfl
          refine op_run (v := .slice SF.sn.a SF.sn.n SF.sn.c) (w' := wx) rfl rfl ?_ ?_
          ·
           clear hp hd; have ec : ∀ v, (fr DL1 A t).eval (.const v) = v := fun _ => rfl; generalize (fr DL1 A t).eval = ev at ec e45 ⊢; go_simp
          ·
           exact ⟨_, 0, rfl, hB, Below.refl _ _, rfl, .inl rfl⟩
         | 10, _ =>
          have e7 : (fr DL1 A t).eval (.tmp 7) = .pointer (some ⟨gf, 0, none⟩) := (fr_eval_old _ _ _ 7 rfl).trans a7'
          refine op_run (v := .pointer (some ⟨gf, 4, none⟩)) (w' := wx) rfl rfl ?_ ?_
          ·
           clear hp hd; have ec : ∀ v, (fr DL1 A t).eval (.const v) = v := fun _ => rfl; generalize (fr DL1 A t).eval = ev at ec e7 ⊢; go_simp
          ·
           exact ⟨_, 0, rfl, hB, Below.refl _ _, rfl, .inl rfl⟩
         | 11, _ =>
          have e47 : (fr DL1 A t).eval (.tmp 47) = .pointer (some ⟨gf, 4, none⟩) := (fr_eval _ _ _ 47 rfl (by rw [asz]; decide)).trans (hp 10 (pre_mem (by kernel_rfl)))
          have hc := (hKF wx hB).cell 4 rfl
          refine op_run (v := .int .i64 F.tick) (w' := wx) rfl rfl ?_ ?_
          ·
           clear hp hd; have ec : ∀ v, (fr DL1 A t).eval (.const v) = v := fun _ => rfl; generalize (fr DL1 A t).eval = ev at ec e47 ⊢; go_simp
          ·
           exact ⟨_, 0, rfl, hB, Below.refl _ _, rfl, .inl rfl⟩
         | 12, _ =>
          have e39 : (fr DL1 A t).eval (.tmp 39) = .agg #[.slice S.secret.a S.secret.n S.secret.c] := (fr_eval _ _ _ 39 rfl (by rw [asz]; decide)).trans (hp 2 (pre_mem (by kernel_rfl)))
          have e40 : (fr DL1 A t).eval (.tmp 40) = .agg #[.int .i64 h, .int .i64 p] := (fr_eval _ _ _ 40 rfl (by rw [asz]; decide)).trans (hp 3 (pre_mem (by kernel_rfl)))
          have e42 : (fr DL1 A t).eval (.tmp 42) = .int .i64 F.id := (fr_eval _ _ _ 42 rfl (by rw [asz]; decide)).trans (hp 5 (pre_mem (by kernel_rfl)))
          have e44 : (fr DL1 A t).eval (.tmp 44) = .slice SF.cn.a SF.cn.n SF.cn.c := (fr_eval _ _ _ 44 rfl (by rw [asz]; decide)).trans (hp 7 (pre_mem (by kernel_rfl)))
          have e46 : (fr DL1 A t).eval (.tmp 46) = .slice SF.sn.a SF.sn.n SF.sn.c := (fr_eval _ _ _ 46 rfl (by rw [asz]; decide)).trans (hp 9 (pre_mem (by kernel_rfl)))
          have e48 : (fr DL1 A t).eval (.tmp 48) = .int .i64 F.tick := (fr_eval _ _ _ 48 rfl (by rw [asz]; decide)).trans (hp 11 (pre_mem (by kernel_rfl)))
          refine op_call (f := 10) (args := #[.agg #[.slice S.secret.a S.secret.n S.secret.c], .agg #[.int .i64 h, .int .i64 p], .int .i64 F.id, .slice SF.cn.a SF.cn.n SF.cn.c, .slice SF.sn.a SF.sn.n SF.sn.c, .int .i64 F.tick]) rfl rfl ?_ (CkT.specMint S D h p F.id SF.cn SF.sn F.cn F.sn F.tick wx (HJ.out.later (hWB wx hB)) (HF.out.later (hWB wx hB)).cn (HF.out.later (hWB wx hB)).sn) ?_
          ·
           have ef : (fr DL1 A t).eval (.func 10) = .func (.func 10) #[] #[] := rfl; clear hp hd; have ec : ∀ v, (fr DL1 A t).eval (.const v) = v := fun _ => rfl; generalize (fr DL1 A t).eval = ev at ec e39 e40 e42 e44 e46 e48 ef ⊢; go_simp
          ·
           rintro e wy ⟨T, rfl, o1, b1⟩
           exact ⟨_, rfl, _, 0, rfl, hB.trans (b1.mono hB.size), b1, ⟨T, rfl, o1.rd⟩, .inl rfl⟩
         | 13, _ =>
          have e38 : (fr DL1 A t).eval (.tmp 38) = .slice SF.cookie.a SF.cookie.n SF.cookie.c := (fr_eval _ _ _ 38 rfl (by rw [asz]; decide)).trans (hp 1 (pre_mem (by kernel_rfl)))
          obtain ⟨T12, hv12, q12_0⟩ := hp 12 (pre_mem (by kernel_rfl))
          have e49 : (fr DL1 A t).eval (.tmp 49) = .slice T12.a T12.n T12.c := (fr_eval _ _ _ 49 rfl (by rw [asz]; decide)).trans hv12
          refine op_call (f := 58) (args := #[.slice SF.cookie.a SF.cookie.n SF.cookie.c, .slice T12.a T12.n T12.c]) rfl rfl ?_ (UnsS.sameTagV SF.cookie T12 F.cookie (mint D h p F.id F.cn F.sn F.tick) vv wx (HF.out.later (hWB wx hB)).cookie q12_0 (by have := HLN.out; omega) (by have := mint_le D h p F.id F.cn F.sn F.tick; omega) HSV.out) ?_
          ·
           have ef : (fr DL1 A t).eval (.func 58) = .func (.func 58) #[] #[] := rfl; clear hp hd q12_0; have ec : ∀ v, (fr DL1 A t).eval (.const v) = v := fun _ => rfl; generalize (fr DL1 A t).eval = ev at ec e38 e49 ef ⊢; go_simp
          ·
           rintro e wy ⟨rfl, b1⟩
           exact ⟨_, rfl, _, 0, rfl, hB.trans (b1.mono hB.size), b1, rfl, .inl rfl⟩
        ·
         intro t ρ wx hB hF hne
         have hv13 := hF 13 (by decide)
         have e50 : (fr DL1 A t).eval (.tmp 50) = .bool vv := (fr_eval _ _ _ 50 rfl (by rw [asz]; decide)).trans hv13
         clear hne
         refine op_wp rfl rfl ?_
         generalize hE : (fr DL1 A t).eval = ev at e50
         unfold Oper.wp
         rw [hE]
         go_simp
         refine hMet _ _ (Met.intro (hRJ _ _ ⟨t 37, t 38, t 39, t 40, t 41, t 42, t 43, t 44, t 45, t 46, t 47, t 48, t 49, t 50, _, ⟨rfl, hB⟩, ?_⟩))
         rw [← hA]; rfl
       case rest =>
        obtain ⟨x5, hxc⟩ : ∃ zz, zz = wc := ⟨_, rfl⟩
        subst hxc
        obtain ⟨rfl, b⟩ := hcut
        clear KJ4 KA4 KF4
        have L5 := hid (b.size)
        have B5 := hid (B4.out.trans (b.mono B4.out.size))
        clear b B4
        cases vv with
        | false =>
         obtain rfl : C = 2 := by rw [← HCD.out]; exact judge_2 HY.out h5 HSV.out
         go_wp2
         go_ret
         exact ⟨rfl, B5.out⟩
        | true =>
         obtain rfl : C = 0 := by rw [← HCD.out]; exact judge_0 HY.out h5 HSV.out
         go_wp2
         go_ret
         exact ⟨rfl, B5.out⟩
end Go.Proofs.YtpgapjdejelajaaGreatDoor.CkU

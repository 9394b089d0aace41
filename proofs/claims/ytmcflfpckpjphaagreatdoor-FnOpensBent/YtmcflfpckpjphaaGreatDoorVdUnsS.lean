/-
  What spec opens.
-/
import Derived.Test.YtmcflfpckpjphaaGreatDoorVdBas9
import Derived.Test.YtmcflfpckpjphaaGreatDoorVdBas6
import Derived.Test.YtmcflfpckpjphaaGreatDoorVdBas7
import Derived.Test.YtmcflfpckpjphaaGreatDoorVdFrQ2
set_option maxRecDepth 100000
namespace Go.Proofs.YtmcflfpckpjphaaGreatDoor.UnsS
open Go.RowKit Mem App Blk Words Zone Res DiffP Diffs MacP KdfP FrZ FrL FrP FrG FrQ FrQ2 SlP SlQ Shp Each Copy Ops Guard MacS StrS SlS

theorem same_dec {x y : List Int} (hx : Bytes x) (hy : Bytes y) (h : x.length = 16) : sameI x y = decide (x = y) := by
 rw [sameI_yes x y h]
 by_cases e : x = y
 ·
  rw [decide_eq_true e, (diffI_zero x y hx hy).2 e]; rfl
 ·
  rw [decide_eq_false e]
  have := mt (diffI_zero x y hx hy).1 e
  simpa using this
theorem sameTagV (s t : Sl) (x y : List Int) (v : Bool) (w : World) (h : SRd w s x) (k : SRd w t y) (lx : x.length ≤ 4194304) (ly : y.length ≤ 4194304) (hv : sameI x y = v) :
  Calls Tryz.prog 93 #[.slice s.a s.n s.c, .slice t.a t.n t.c] w fun e w' => e = .returned (.bool v) ∧ Below w.heap.size w w' := by
 subst hv
 refine (specSameTag s.a t.a s.n s.c t.n t.c x y w h.len k.len h.rd k.rd h.bytes k.bytes (by rw [h.len]; exact lx) (by rw [k.len]; exact ly)).mono ?_
 rintro e w' ⟨rfl, m, rfl⟩
 exact ⟨rfl, ⟨rfl, rfl, rfl, Nat.le_refl _, fun _ _ => rfl⟩⟩
theorem inputN (role : Int) (S : FrS) (D : FrD) (w : World) (h : FrRd w S D) :
  Calls Tryz.prog 65 #[.int .i64 role, frV D S] w (AnsB (tagIn role D) w) := (specTagInput role S D w h).mono fun _ _ h' => AnsB.of (tagIn_bytes _ _ h.sn.bytes h.body.bytes) h'
theorem tagN (k t : Sl) (lk l : List Int) (w : World) (hk : SRd w k lk) (h : SRd w t l) (h1 : lk.length ≤ 2000000) (h2 : l.length ≤ 2000000) :
  Calls Tryz.prog 64 #[.slice k.a k.n k.c, .slice t.a t.n t.c] w (AnsB (tagI lk l) w) := (specTag k.a k.n k.c t.a t.n t.c lk l w hk.len h.len hk.rd h.rd hk.nil h.nil hk.bytes h.bytes (by rw [hk.len]; omega) (by rw [h.len]; omega)).mono fun _ _ h' => AnsB.of (tagI_bytes _ _) h'

def AnsBb (l : List Int) (ok : Bool) (w : World) : Ending → World → Prop := fun e w' => ∃ S0 : Sl, e = .returned (.tuple #[.slice S0.a S0.n S0.c, .bool ok]) ∧ SOwn w' w.heap.size w'.heap.size S0 l ∧ Below w.heap.size w w'
theorem ans_no {w x : World} (b : Below w.heap.size w x) : AnsBb [] false w (.returned (.tuple #[.slice (some ⟨x.heap.size, 0, none⟩) 0 0, .bool false])) (x.alloc (.cells #[] 5)) :=
 ⟨⟨some ⟨x.heap.size, 0, none⟩, 0, 0⟩, rfl, SOwn.row ⟨Nat.le_refl _, by unfold maxLen; omega, #[], heap_alloc_new x _, rfl, rfl⟩ rfl (fun z hz => by cases hz) b.size (by simp), b.alloc b.size _⟩

abbrev DL1 : List Nat := [12, 13, 14, 15, 16, 17, 18, 19, 20, 21, 22, 23, 24, 25, 26, 27]
set_option maxHeartbeats 8000000 in
theorem specUnseal (k : Sl) (lk : List Int) (role : Int) (S : FrS) (D : FrD) (w : World) (hk : SRd w k lk) (h : FrRd w S D) (hl : lk.length ≤ 1048576) :
  Calls Tryz.prog 42 #[.slice k.a k.n k.c, .int .i64 role, frV D S] w (AnsBb (unsealL lk role D) (unsealB lk role D) w) := by
 have HK := hid (hk)
 have HR := hid (h)
 have HLK : Hid (k.n = lk.length) := hk.len
 have HLL : Hid (lk.length ≤ 1048576) := hl
 clear hk h hl
 obtain ⟨vv, hv⟩ : ∃ vv, unsealB lk role D = vv := ⟨_, rfl⟩
 have HV : Hid (unsealB lk role D = vv) := hv
 obtain ⟨R, hR⟩ : ∃ R, unsealL lk role D = R := ⟨_, rfl⟩
 have HRR : Hid (unsealL lk role D = R) := hR
 rw [hv, hR]
 clear hv hR
 unfold frV
 go_enter Tryz.func42, Tryz.ntmps42
 obtain ⟨x1, hx1⟩ : ∃ x1, w.alloc (.cells #[.int .i64 D.kind, .int .i64 D.id, .slice S.cn.a S.cn.n S.cn.c, .slice S.sn.a S.sn.n S.sn.c, .int .i64 D.tick, .slice S.cookie.a S.cookie.n S.cookie.c, .slice S.proof.a S.proof.n S.proof.c, .int .i64 D.epoch, .int .i64 D.seq, .slice S.body.a S.body.n S.body.c, .slice S.tag.a S.tag.n S.tag.c] 27) = x1 := ⟨_, rfl⟩
 have HW1 := hid (hx1)
 have b1 : Below w.heap.size w x1 := by rw [← hx1]; exact (Below.refl _ _).alloc (Nat.le_refl _) _
 have KN : Blk x1 w.heap.size 27 [.int .i64 D.kind, .int .i64 D.id, .slice S.cn.a S.cn.n S.cn.c, .slice S.sn.a S.sn.n S.sn.c, .int .i64 D.tick, .slice S.cookie.a S.cookie.n S.cookie.c, .slice S.proof.a S.proof.n S.proof.c, .int .i64 D.epoch, .int .i64 D.seq, .slice S.body.a S.body.n S.body.c, .slice S.tag.a S.tag.n S.tag.c] := by rw [← hx1]; exact Blk.new w _ _
 have HSZ1 : Hid (x1.heap.size = w.heap.size + 1) := by rw [← hx1]; show _ = _; simp
 clear hx1
 have L1 := hid (b1.size)
 have B1 := hid (b1)
 clear b1
 go_upto_region 1 with fail
 rw [HW1.out]
 obtain ⟨ga, hga⟩ : ∃ g, w.heap.size = g := ⟨_, rfl⟩
 have Gga : Hid (w.heap.size = ga ∧ x1.heap.size = ga + 1) := ⟨hga, by rw [← hga]; exact HSZ1.out⟩
 rw [hga] at KN ⊢
 clear HW1 HSZ1 hga
 have KA1 := hid (KN)
 clear KN
 obtain ⟨d0, d1, d2, d3, d4, d5, d6, d7, d8, d9, d10⟩ := cells11 KA1.out
 go_wp2_with fail
 refine (inputN role S D x1 (HR.out.later B1.out)).mono ?_
 rintro e x2 ⟨I, rfl, oN, b⟩
 clear d0 d1 d2 d3 d4 d5 d6 d7 d8 d9 d10
 have L2 := hid (b.size)
 have B2 := hid (B1.out.trans (b.mono B1.out.size))
 have KA2 := hid (KA1.out.later b)
 clear b B1 KA1
 have OI2 := hid (oN)
 clear oN
 have HIN : Hid (I.n = (tagIn role D).length) := OI2.out.len
 go_upto_region 2 with fail
 cases h0 : ((k.n : Int) == 32) with
 | false =>
  have HF : Hid (unsealB lk role D = false) := by have q := HLK.out; show unsealB _ _ _ = false; unfold unsealB; rw [← q, h0]; rfl
  obtain rfl : vv = false := by rw [← HV.out]; exact HF.out
  obtain rfl : R = [] := by rw [← HRR.out]; exact unsealL_no HF.out
  have hne : ((k.n : Int) != 32) = true := by simpa using h0
  go_cut [28] from 12 to 27 (fun sv wx => sv = .bool true ∧ Below x2.heap.size x2 wx)
  case first =>
   rename_i J K' hRJ hMet
   generalize hA : Act.mk _ _ = A
   have a0' : A.eval (.tmp 0) = .slice k.a k.n k.c := by rw [← hA]; rfl
   have a8' : A.eval (.tmp 8) = .slice I.a I.n I.c := by rw [← hA]; rfl
   have a5' : A.eval (.tmp 5) = .pointer (some ⟨ga, 0, none⟩) := by rw [← hA]; rfl
   have asz : A.tmps.size = 42 := by rw [← hA]; rfl
   have hKA : ∀ wx, Below x2.heap.size x2 wx → Blk wx ga 27 [.int .i64 D.kind, .int .i64 D.id, .slice S.cn.a S.cn.n S.cn.c, .slice S.sn.a S.sn.n S.sn.c, .int .i64 D.tick, .slice S.cookie.a S.cookie.n S.cookie.c, .slice S.proof.a S.proof.n S.proof.c, .int .i64 D.epoch, .int .i64 D.seq, .slice S.body.a S.body.n S.body.c, .slice S.tag.a S.tag.n S.tag.c] := fun wx hb => KA2.out.later hb
   have hRS : ∀ wx, Below x2.heap.size x2 wx → FrRd wx S D := fun wx hb => HR.out.later (B2.out.trans (hb.mono B2.out.size))
   have hKK : ∀ wx, Below x2.heap.size x2 wx → SRd wx k lk := fun wx hb => HK.out.later (B2.out.trans (hb.mono B2.out.size))
   have hII : ∀ wx, Below x2.heap.size x2 wx → SRd wx I (tagIn role D) := fun wx hb => (OI2.out.later hb).rd
   refine region_each (by kernel_rfl) DL1 16 (fun i => DL1.getD i 0) (fun _ => 0)
    (fun i gB v wx => match i with
     | 0 => v = .slice k.a k.n k.c
     | 1 => v = .int .i64 (k.n : Int)
     | 2 => v = .bool true
     | 3 => v = .bool true
     | 4 => v = undef
     | 5 => v = undef
     | 6 => v = undef
     | 7 => v = .bool true
     | 8 => v = .bool true
     | 9 => v = undef
     | 10 => v = undef
     | 11 => v = undef
     | 12 => v = undef
     | 13 => v = undef
     | 14 => v = undef
     | 15 => v = undef
     | _ => False) (fun wx => Below x2.heap.size x2 wx) (by kernel_rfl) (Below.refl _ _).drew ?_ ?_ ?_
   ·
    intro i gB v wx wy hi hF hb _
    match i, hi with
    | 0, _ => exact hF
    | 1, _ => exact hF
    | 2, _ => exact hF
    | 3, _ => exact hF
    | 4, _ => exact hF
    | 5, _ => exact hF
    | 6, _ => exact hF
    | 7, _ => exact hF
    | 8, _ => exact hF
    | 9, _ => exact hF
    | 10, _ => exact hF
    | 11, _ => exact hF
    | 12, _ => exact hF
    | 13, _ => exact hF
    | 14, _ => exact hF
    | 15, _ => exact hF
    | n + 16, hi => exact absurd hi (by omega)
   ·
    intro i hi t ρ wx hB hp hd
    match i, hi with
    | 0, _ =>
     have e0 : (fr DL1 A t).eval (.tmp 0) = .slice k.a k.n k.c := (fr_eval_old _ _ _ 0 rfl).trans a0'
     refine op_run (v := .slice k.a k.n k.c) (w' := wx) rfl rfl ?_ ?_
     ·
      clear hp hd; have ec : ∀ v, (fr DL1 A t).eval (.const v) = v := fun _ => rfl; generalize (fr DL1 A t).eval = ev at ec e0 ⊢; go_simp
     ·
      exact ⟨_, 0, rfl, hB, Below.refl _ _, rfl, .inl rfl⟩
    | 1, _ =>
     have e12 : (fr DL1 A t).eval (.tmp 12) = .slice k.a k.n k.c := (fr_eval _ _ _ 12 rfl (by rw [asz]; decide)).trans (hp 0 (pre_mem (by kernel_rfl)))
     refine op_run (v := .int .i64 (k.n : Int)) (w' := wx) rfl rfl ?_ ?_
     ·
      clear hp hd; have ec : ∀ v, (fr DL1 A t).eval (.const v) = v := fun _ => rfl; generalize (fr DL1 A t).eval = ev at ec e12 ⊢; go_simp
     ·
      exact ⟨_, 0, rfl, hB, Below.refl _ _, rfl, .inl rfl⟩
    | 2, _ =>
     have e13 : (fr DL1 A t).eval (.tmp 13) = .int .i64 (k.n : Int) := (fr_eval _ _ _ 13 rfl (by rw [asz]; decide)).trans (hp 1 (pre_mem (by kernel_rfl)))
     have hh := hne
     refine op_run (v := .bool true) (w' := wx) rfl rfl ?_ ?_
     ·
      clear hp hd; have ec : ∀ v, (fr DL1 A t).eval (.const v) = v := fun _ => rfl; generalize (fr DL1 A t).eval = ev at ec e13 ⊢; go_simp
     ·
      exact ⟨_, 0, rfl, hB, Below.refl _ _, rfl, .inl rfl⟩
    | 3, _ =>
     have e14 : (fr DL1 A t).eval (.tmp 14) = .bool true := (fr_eval _ _ _ 14 rfl (by rw [asz]; decide)).trans (hp 2 (pre_mem (by kernel_rfl)))
     refine op_run (v := .bool true) (w' := wx) rfl rfl ?_ ?_
     ·
      clear hp hd; have ec : ∀ v, (fr DL1 A t).eval (.const v) = v := fun _ => rfl; generalize (fr DL1 A t).eval = ev at ec e14 ⊢; go_simp
     ·
      exact ⟨_, 0, rfl, hB, Below.refl _ _, rfl, .inl rfl⟩
    | 4, _ =>
     have e15 : (fr DL1 A t).eval (.tmp 15) = .bool true := (fr_eval _ _ _ 15 rfl (by rw [asz]; decide)).trans (hp 3 (pre_mem (by kernel_rfl)))
     refine op_skip rfl (wanted_false rfl rfl e15 rfl) ?_
     exact ⟨_, 0, rfl, hB, Below.refl _ _, rfl, .inl rfl⟩
    | 5, _ =>
     have e15 : (fr DL1 A t).eval (.tmp 15) = .bool true := (fr_eval _ _ _ 15 rfl (by rw [asz]; decide)).trans (hp 3 (pre_mem (by kernel_rfl)))
     refine op_skip rfl (wanted_false rfl rfl e15 rfl) ?_
     exact ⟨_, 0, rfl, hB, Below.refl _ _, rfl, .inl rfl⟩
    | 6, _ =>
     have e15 : (fr DL1 A t).eval (.tmp 15) = .bool true := (fr_eval _ _ _ 15 rfl (by rw [asz]; decide)).trans (hp 3 (pre_mem (by kernel_rfl)))
     refine op_skip rfl (wanted_false rfl rfl e15 rfl) ?_
     exact ⟨_, 0, rfl, hB, Below.refl _ _, rfl, .inl rfl⟩
    | 7, _ =>
     have e15 : (fr DL1 A t).eval (.tmp 15) = .bool true := (fr_eval _ _ _ 15 rfl (by rw [asz]; decide)).trans (hp 3 (pre_mem (by kernel_rfl)))
     have e18 : (fr DL1 A t).eval (.tmp 18) = undef := (fr_eval _ _ _ 18 rfl (by rw [asz]; decide)).trans (hp 6 (pre_mem (by kernel_rfl)))
     refine op_run (v := .bool true) (w' := wx) rfl rfl ?_ ?_
     ·
      clear hp hd; have ec : ∀ v, (fr DL1 A t).eval (.const v) = v := fun _ => rfl; generalize (fr DL1 A t).eval = ev at ec e15 e18 ⊢; go_simp
     ·
      exact ⟨_, 0, rfl, hB, Below.refl _ _, rfl, .inl rfl⟩
    | 8, _ =>
     have e19 : (fr DL1 A t).eval (.tmp 19) = .bool true := (fr_eval _ _ _ 19 rfl (by rw [asz]; decide)).trans (hp 7 (pre_mem (by kernel_rfl)))
     refine op_run (v := .bool true) (w' := wx) rfl rfl ?_ ?_
     ·
      clear hp hd; have ec : ∀ v, (fr DL1 A t).eval (.const v) = v := fun _ => rfl; generalize (fr DL1 A t).eval = ev at ec e19 ⊢; go_simp
     ·
      exact ⟨_, 0, rfl, hB, Below.refl _ _, rfl, .inl rfl⟩
    | 9, _ =>
     have e20 : (fr DL1 A t).eval (.tmp 20) = .bool true := (fr_eval _ _ _ 20 rfl (by rw [asz]; decide)).trans (hp 8 (pre_mem (by kernel_rfl)))
     refine op_skip rfl (wanted_false rfl rfl e20 rfl) ?_
     exact ⟨_, 0, rfl, hB, Below.refl _ _, rfl, .inl rfl⟩
    | 10, _ =>
     have e20 : (fr DL1 A t).eval (.tmp 20) = .bool true := (fr_eval _ _ _ 20 rfl (by rw [asz]; decide)).trans (hp 8 (pre_mem (by kernel_rfl)))
     refine op_skip rfl (wanted_false rfl rfl e20 rfl) ?_
     exact ⟨_, 0, rfl, hB, Below.refl _ _, rfl, .inl rfl⟩
    | 11, _ =>
     have e20 : (fr DL1 A t).eval (.tmp 20) = .bool true := (fr_eval _ _ _ 20 rfl (by rw [asz]; decide)).trans (hp 8 (pre_mem (by kernel_rfl)))
     refine op_skip rfl (wanted_false rfl rfl e20 rfl) ?_
     exact ⟨_, 0, rfl, hB, Below.refl _ _, rfl, .inl rfl⟩
    | 12, _ =>
     have e20 : (fr DL1 A t).eval (.tmp 20) = .bool true := (fr_eval _ _ _ 20 rfl (by rw [asz]; decide)).trans (hp 8 (pre_mem (by kernel_rfl)))
     refine op_skip rfl (wanted_false rfl rfl e20 rfl) ?_
     exact ⟨_, 0, rfl, hB, Below.refl _ _, rfl, .inl rfl⟩
    | 13, _ =>
     have e20 : (fr DL1 A t).eval (.tmp 20) = .bool true := (fr_eval _ _ _ 20 rfl (by rw [asz]; decide)).trans (hp 8 (pre_mem (by kernel_rfl)))
     refine op_skip rfl (wanted_false rfl rfl e20 rfl) ?_
     exact ⟨_, 0, rfl, hB, Below.refl _ _, rfl, .inl rfl⟩
    | 14, _ =>
     have e20 : (fr DL1 A t).eval (.tmp 20) = .bool true := (fr_eval _ _ _ 20 rfl (by rw [asz]; decide)).trans (hp 8 (pre_mem (by kernel_rfl)))
     refine op_skip rfl (wanted_false rfl rfl e20 rfl) ?_
     exact ⟨_, 0, rfl, hB, Below.refl _ _, rfl, .inl rfl⟩
    | 15, _ =>
     have e20 : (fr DL1 A t).eval (.tmp 20) = .bool true := (fr_eval _ _ _ 20 rfl (by rw [asz]; decide)).trans (hp 8 (pre_mem (by kernel_rfl)))
     refine op_skip rfl (wanted_false rfl rfl e20 rfl) ?_
     exact ⟨_, 0, rfl, hB, Below.refl _ _, rfl, .inl rfl⟩
    | n + 16, hi => exact absurd hi (by omega)
   ·
    intro t ρ wx hB hF hne
    have e20 : (fr DL1 A t).eval (.tmp 20) = .bool true := (fr_eval _ _ _ 20 rfl (by rw [asz]; decide)).trans (hF 8 (by decide))
    have e27 : (fr DL1 A t).eval (.tmp 27) = undef := (fr_eval _ _ _ 27 rfl (by rw [asz]; decide)).trans (hF 15 (by decide))
    clear hne
    refine op_wp rfl rfl ?_
    have ec : ∀ v, (fr DL1 A t).eval (.const v) = v := fun _ => rfl
    generalize hE : (fr DL1 A t).eval = ev at ec e20 e27
    unfold Oper.wp
    rw [hE]

    go_simp
    refine hMet _ _ (Met.intro (hRJ _ _ ⟨t 12, t 13, t 14, t 15, t 16, t 17, t 18, t 19, t 20, t 21, t 22, t 23, t 24, t 25, t 26, t 27, _, ⟨rfl, hB⟩, ?_⟩))
    rw [← hA]; rfl
  case rest =>
   obtain ⟨xc, hxc⟩ : ∃ xc, xc = wc := ⟨_, rfl⟩
   subst hxc
   obtain ⟨rfl, bc⟩ := hcut
   have BC := hid (B2.out.trans (bc.mono B2.out.size))
   go_wp2
   exact bodyPost_ret (v := .tuple #[.slice (some ⟨xc.heap.size, 0, none⟩) 0 0, .bool false]) (res2 rfl (is_tmp rfl) (is_tmp rfl)) rfl (ans_no BC.out)
 | true =>
  have hne : ((k.n : Int) != 32) = false := by simpa using h0
  cases h1 : canTag role D with
  | false =>
   have HF : Hid (unsealB lk role D = false) := by show unsealB _ _ _ = false; unfold unsealB; rw [h1]; simp
   obtain rfl : vv = false := by rw [← HV.out]; exact HF.out
   obtain rfl : R = [] := by rw [← HRR.out]; exact unsealL_no HF.out
   have hie : ((I.n : Int) == 0) = true := by have q := HIN.out; rw [(tagIn_nil role D).2 h1] at q; rw [q]; rfl
   go_cut [28] from 12 to 27 (fun sv wx => sv = .bool true ∧ Below x2.heap.size x2 wx)
   case first =>
    rename_i J K' hRJ hMet
    generalize hA : Act.mk _ _ = A
    have a0' : A.eval (.tmp 0) = .slice k.a k.n k.c := by rw [← hA]; rfl
    have a8' : A.eval (.tmp 8) = .slice I.a I.n I.c := by rw [← hA]; rfl
    have a5' : A.eval (.tmp 5) = .pointer (some ⟨ga, 0, none⟩) := by rw [← hA]; rfl
    have asz : A.tmps.size = 42 := by rw [← hA]; rfl
    have hKA : ∀ wx, Below x2.heap.size x2 wx → Blk wx ga 27 [.int .i64 D.kind, .int .i64 D.id, .slice S.cn.a S.cn.n S.cn.c, .slice S.sn.a S.sn.n S.sn.c, .int .i64 D.tick, .slice S.cookie.a S.cookie.n S.cookie.c, .slice S.proof.a S.proof.n S.proof.c, .int .i64 D.epoch, .int .i64 D.seq, .slice S.body.a S.body.n S.body.c, .slice S.tag.a S.tag.n S.tag.c] := fun wx hb => KA2.out.later hb
    have hRS : ∀ wx, Below x2.heap.size x2 wx → FrRd wx S D := fun wx hb => HR.out.later (B2.out.trans (hb.mono B2.out.size))
    have hKK : ∀ wx, Below x2.heap.size x2 wx → SRd wx k lk := fun wx hb => HK.out.later (B2.out.trans (hb.mono B2.out.size))
    have hII : ∀ wx, Below x2.heap.size x2 wx → SRd wx I (tagIn role D) := fun wx hb => (OI2.out.later hb).rd
    refine region_each (by kernel_rfl) DL1 16 (fun i => DL1.getD i 0) (fun _ => 0)
     (fun i gB v wx => match i with
      | 0 => v = .slice k.a k.n k.c
      | 1 => v = .int .i64 (k.n : Int)
      | 2 => v = .bool false
      | 3 => v = .bool false
      | 4 => v = .slice I.a I.n I.c
      | 5 => v = .int .i64 (I.n : Int)
      | 6 => v = .bool true
      | 7 => v = .bool true
      | 8 => v = .bool true
      | 9 => v = undef
      | 10 => v = undef
      | 11 => v = undef
      | 12 => v = undef
      | 13 => v = undef
      | 14 => v = undef
      | 15 => v = undef
      | _ => False) (fun wx => Below x2.heap.size x2 wx) (by kernel_rfl) (Below.refl _ _).drew ?_ ?_ ?_
    ·
     intro i gB v wx wy hi hF hb _
     match i, hi with
     | 0, _ => exact hF
     | 1, _ => exact hF
     | 2, _ => exact hF
     | 3, _ => exact hF
     | 4, _ => exact hF
     | 5, _ => exact hF
     | 6, _ => exact hF
     | 7, _ => exact hF
     | 8, _ => exact hF
     | 9, _ => exact hF
     | 10, _ => exact hF
     | 11, _ => exact hF
     | 12, _ => exact hF
     | 13, _ => exact hF
     | 14, _ => exact hF
     | 15, _ => exact hF
     | n + 16, hi => exact absurd hi (by omega)
    ·
     intro i hi t ρ wx hB hp hd
     match i, hi with
     | 0, _ =>
      have e0 : (fr DL1 A t).eval (.tmp 0) = .slice k.a k.n k.c := (fr_eval_old _ _ _ 0 rfl).trans a0'
      refine op_run (v := .slice k.a k.n k.c) (w' := wx) rfl rfl ?_ ?_
      ·
       clear hp hd; have ec : ∀ v, (fr DL1 A t).eval (.const v) = v := fun _ => rfl; generalize (fr DL1 A t).eval = ev at ec e0 ⊢; go_simp
      ·
       exact ⟨_, 0, rfl, hB, Below.refl _ _, rfl, .inl rfl⟩
     | 1, _ =>
      have e12 : (fr DL1 A t).eval (.tmp 12) = .slice k.a k.n k.c := (fr_eval _ _ _ 12 rfl (by rw [asz]; decide)).trans (hp 0 (pre_mem (by kernel_rfl)))
      refine op_run (v := .int .i64 (k.n : Int)) (w' := wx) rfl rfl ?_ ?_
      ·
       clear hp hd; have ec : ∀ v, (fr DL1 A t).eval (.const v) = v := fun _ => rfl; generalize (fr DL1 A t).eval = ev at ec e12 ⊢; go_simp
      ·
       exact ⟨_, 0, rfl, hB, Below.refl _ _, rfl, .inl rfl⟩
     | 2, _ =>
      have e13 : (fr DL1 A t).eval (.tmp 13) = .int .i64 (k.n : Int) := (fr_eval _ _ _ 13 rfl (by rw [asz]; decide)).trans (hp 1 (pre_mem (by kernel_rfl)))
      have hh := hne
      refine op_run (v := .bool false) (w' := wx) rfl rfl ?_ ?_
      ·
       clear hp hd; have ec : ∀ v, (fr DL1 A t).eval (.const v) = v := fun _ => rfl; generalize (fr DL1 A t).eval = ev at ec e13 ⊢; go_simp
      ·
       exact ⟨_, 0, rfl, hB, Below.refl _ _, rfl, .inl rfl⟩
     | 3, _ =>
      have e14 : (fr DL1 A t).eval (.tmp 14) = .bool false := (fr_eval _ _ _ 14 rfl (by rw [asz]; decide)).trans (hp 2 (pre_mem (by kernel_rfl)))
      refine op_run (v := .bool false) (w' := wx) rfl rfl ?_ ?_
      ·
       clear hp hd; have ec : ∀ v, (fr DL1 A t).eval (.const v) = v := fun _ => rfl; generalize (fr DL1 A t).eval = ev at ec e14 ⊢; go_simp
      ·
       exact ⟨_, 0, rfl, hB, Below.refl _ _, rfl, .inl rfl⟩
     | 4, _ =>
      have e8 : (fr DL1 A t).eval (.tmp 8) = .slice I.a I.n I.c := (fr_eval_old _ _ _ 8 rfl).trans a8'
      have e15 : (fr DL1 A t).eval (.tmp 15) = .bool false := (fr_eval _ _ _ 15 rfl (by rw [asz]; decide)).trans (hp 3 (pre_mem (by kernel_rfl)))
      refine op_run_g (v := .slice I.a I.n I.c) (w' := wx) rfl (wanted_true rfl rfl e15) ?_ ?_
      ·
       clear hp hd; have ec : ∀ v, (fr DL1 A t).eval (.const v) = v := fun _ => rfl; generalize (fr DL1 A t).eval = ev at ec e8 e15 ⊢; go_simp
      ·
       exact ⟨_, 0, rfl, hB, Below.refl _ _, rfl, .inl rfl⟩
     | 5, _ =>
      have e16 : (fr DL1 A t).eval (.tmp 16) = .slice I.a I.n I.c := (fr_eval _ _ _ 16 rfl (by rw [asz]; decide)).trans (hp 4 (pre_mem (by kernel_rfl)))
      have e15 : (fr DL1 A t).eval (.tmp 15) = .bool false := (fr_eval _ _ _ 15 rfl (by rw [asz]; decide)).trans (hp 3 (pre_mem (by kernel_rfl)))
      refine op_run_g (v := .int .i64 (I.n : Int)) (w' := wx) rfl (wanted_true rfl rfl e15) ?_ ?_
      ·
       clear hp hd; have ec : ∀ v, (fr DL1 A t).eval (.const v) = v := fun _ => rfl; generalize (fr DL1 A t).eval = ev at ec e16 e15 ⊢; go_simp
      ·
       exact ⟨_, 0, rfl, hB, Below.refl _ _, rfl, .inl rfl⟩
     | 6, _ =>
      have e17 : (fr DL1 A t).eval (.tmp 17) = .int .i64 (I.n : Int) := (fr_eval _ _ _ 17 rfl (by rw [asz]; decide)).trans (hp 5 (pre_mem (by kernel_rfl)))
      have e15 : (fr DL1 A t).eval (.tmp 15) = .bool false := (fr_eval _ _ _ 15 rfl (by rw [asz]; decide)).trans (hp 3 (pre_mem (by kernel_rfl)))
      have hh := hie
      refine op_run_g (v := .bool true) (w' := wx) rfl (wanted_true rfl rfl e15) ?_ ?_
      ·
       clear hp hd; have ec : ∀ v, (fr DL1 A t).eval (.const v) = v := fun _ => rfl; generalize (fr DL1 A t).eval = ev at ec e17 e15 ⊢; go_simp
      ·
       exact ⟨_, 0, rfl, hB, Below.refl _ _, rfl, .inl rfl⟩
     | 7, _ =>
      have e15 : (fr DL1 A t).eval (.tmp 15) = .bool false := (fr_eval _ _ _ 15 rfl (by rw [asz]; decide)).trans (hp 3 (pre_mem (by kernel_rfl)))
      have e18 : (fr DL1 A t).eval (.tmp 18) = .bool true := (fr_eval _ _ _ 18 rfl (by rw [asz]; decide)).trans (hp 6 (pre_mem (by kernel_rfl)))
      refine op_run (v := .bool true) (w' := wx) rfl rfl ?_ ?_
      ·
       clear hp hd; have ec : ∀ v, (fr DL1 A t).eval (.const v) = v := fun _ => rfl; generalize (fr DL1 A t).eval = ev at ec e15 e18 ⊢; go_simp
      ·
       exact ⟨_, 0, rfl, hB, Below.refl _ _, rfl, .inl rfl⟩
     | 8, _ =>
      have e19 : (fr DL1 A t).eval (.tmp 19) = .bool true := (fr_eval _ _ _ 19 rfl (by rw [asz]; decide)).trans (hp 7 (pre_mem (by kernel_rfl)))
      refine op_run (v := .bool true) (w' := wx) rfl rfl ?_ ?_
      ·
       clear hp hd; have ec : ∀ v, (fr DL1 A t).eval (.const v) = v := fun _ => rfl; generalize (fr DL1 A t).eval = ev at ec e19 ⊢; go_simp
      ·
       exact ⟨_, 0, rfl, hB, Below.refl _ _, rfl, .inl rfl⟩
     | 9, _ =>
      have e20 : (fr DL1 A t).eval (.tmp 20) = .bool true := (fr_eval _ _ _ 20 rfl (by rw [asz]; decide)).trans (hp 8 (pre_mem (by kernel_rfl)))
      refine op_skip rfl (wanted_false rfl rfl e20 rfl) ?_
      exact ⟨_, 0, rfl, hB, Below.refl _ _, rfl, .inl rfl⟩
     | 10, _ =>
      have e20 : (fr DL1 A t).eval (.tmp 20) = .bool true := (fr_eval _ _ _ 20 rfl (by rw [asz]; decide)).trans (hp 8 (pre_mem (by kernel_rfl)))
      refine op_skip rfl (wanted_false rfl rfl e20 rfl) ?_
      exact ⟨_, 0, rfl, hB, Below.refl _ _, rfl, .inl rfl⟩
     | 11, _ =>
      have e20 : (fr DL1 A t).eval (.tmp 20) = .bool true := (fr_eval _ _ _ 20 rfl (by rw [asz]; decide)).trans (hp 8 (pre_mem (by kernel_rfl)))
      refine op_skip rfl (wanted_false rfl rfl e20 rfl) ?_
      exact ⟨_, 0, rfl, hB, Below.refl _ _, rfl, .inl rfl⟩
     | 12, _ =>
      have e20 : (fr DL1 A t).eval (.tmp 20) = .bool true := (fr_eval _ _ _ 20 rfl (by rw [asz]; decide)).trans (hp 8 (pre_mem (by kernel_rfl)))
      refine op_skip rfl (wanted_false rfl rfl e20 rfl) ?_
      exact ⟨_, 0, rfl, hB, Below.refl _ _, rfl, .inl rfl⟩
     | 13, _ =>
      have e20 : (fr DL1 A t).eval (.tmp 20) = .bool true := (fr_eval _ _ _ 20 rfl (by rw [asz]; decide)).trans (hp 8 (pre_mem (by kernel_rfl)))
      refine op_skip rfl (wanted_false rfl rfl e20 rfl) ?_
      exact ⟨_, 0, rfl, hB, Below.refl _ _, rfl, .inl rfl⟩
     | 14, _ =>
      have e20 : (fr DL1 A t).eval (.tmp 20) = .bool true := (fr_eval _ _ _ 20 rfl (by rw [asz]; decide)).trans (hp 8 (pre_mem (by kernel_rfl)))
      refine op_skip rfl (wanted_false rfl rfl e20 rfl) ?_
      exact ⟨_, 0, rfl, hB, Below.refl _ _, rfl, .inl rfl⟩
     | 15, _ =>
      have e20 : (fr DL1 A t).eval (.tmp 20) = .bool true := (fr_eval _ _ _ 20 rfl (by rw [asz]; decide)).trans (hp 8 (pre_mem (by kernel_rfl)))
      refine op_skip rfl (wanted_false rfl rfl e20 rfl) ?_
      exact ⟨_, 0, rfl, hB, Below.refl _ _, rfl, .inl rfl⟩
     | n + 16, hi => exact absurd hi (by omega)
    ·
     intro t ρ wx hB hF hne
     have e20 : (fr DL1 A t).eval (.tmp 20) = .bool true := (fr_eval _ _ _ 20 rfl (by rw [asz]; decide)).trans (hF 8 (by decide))
     have e27 : (fr DL1 A t).eval (.tmp 27) = undef := (fr_eval _ _ _ 27 rfl (by rw [asz]; decide)).trans (hF 15 (by decide))
     clear hne
     refine op_wp rfl rfl ?_
     have ec : ∀ v, (fr DL1 A t).eval (.const v) = v := fun _ => rfl
     generalize hE : (fr DL1 A t).eval = ev at ec e20 e27
     unfold Oper.wp
     rw [hE]

     go_simp
     refine hMet _ _ (Met.intro (hRJ _ _ ⟨t 12, t 13, t 14, t 15, t 16, t 17, t 18, t 19, t 20, t 21, t 22, t 23, t 24, t 25, t 26, t 27, _, ⟨rfl, hB⟩, ?_⟩))
     rw [← hA]; rfl
   case rest =>
    obtain ⟨xc, hxc⟩ : ∃ xc, xc = wc := ⟨_, rfl⟩
    subst hxc
    obtain ⟨rfl, bc⟩ := hcut
    have BC := hid (B2.out.trans (bc.mono B2.out.size))
    go_wp2
    exact bodyPost_ret (v := .tuple #[.slice (some ⟨xc.heap.size, 0, none⟩) 0 0, .bool false]) (res2 rfl (is_tmp rfl) (is_tmp rfl)) rfl (ans_no BC.out)
  | true =>
   have HC : Hid (canTag role D = true) := h1
   have HTL : Hid (D.tag.length = 16) := ((sealed_parts (canTag_parts h1).2.1).1 (canTag_parts h1).2.2).2.2.2.2.2.2.2.2.2
   have HSV : Hid (sameI D.tag (tagI lk (tagIn role D)) = vv) := by have q := HLK.out; show _ = _; rw [← HV.out, same_dec HR.out.tag.bytes (tagI_bytes _ _) HTL.out]; unfold unsealB; rw [h1, ← q, h0]; rfl
   have hie : ((I.n : Int) == 0) = false := by have q := HIN.out; rw [tagIn_len h1] at q; rw [q]; simp; omega
   go_cut [28] from 12 to 27 (fun sv wx => sv = .bool (!vv) ∧ Below x2.heap.size x2 wx)
   case first =>
    rename_i J K' hRJ hMet
    generalize hA : Act.mk _ _ = A
    have a0' : A.eval (.tmp 0) = .slice k.a k.n k.c := by rw [← hA]; rfl
    have a8' : A.eval (.tmp 8) = .slice I.a I.n I.c := by rw [← hA]; rfl
    have a5' : A.eval (.tmp 5) = .pointer (some ⟨ga, 0, none⟩) := by rw [← hA]; rfl
    have asz : A.tmps.size = 42 := by rw [← hA]; rfl
    have hKA : ∀ wx, Below x2.heap.size x2 wx → Blk wx ga 27 [.int .i64 D.kind, .int .i64 D.id, .slice S.cn.a S.cn.n S.cn.c, .slice S.sn.a S.sn.n S.sn.c, .int .i64 D.tick, .slice S.cookie.a S.cookie.n S.cookie.c, .slice S.proof.a S.proof.n S.proof.c, .int .i64 D.epoch, .int .i64 D.seq, .slice S.body.a S.body.n S.body.c, .slice S.tag.a S.tag.n S.tag.c] := fun wx hb => KA2.out.later hb
    have hRS : ∀ wx, Below x2.heap.size x2 wx → FrRd wx S D := fun wx hb => HR.out.later (B2.out.trans (hb.mono B2.out.size))
    have hKK : ∀ wx, Below x2.heap.size x2 wx → SRd wx k lk := fun wx hb => HK.out.later (B2.out.trans (hb.mono B2.out.size))
    have hII : ∀ wx, Below x2.heap.size x2 wx → SRd wx I (tagIn role D) := fun wx hb => (OI2.out.later hb).rd
    refine region_each (by kernel_rfl) DL1 16 (fun i => DL1.getD i 0) (fun _ => 0)
     (fun i gB v wx => match i with
      | 0 => v = .slice k.a k.n k.c
      | 1 => v = .int .i64 (k.n : Int)
      | 2 => v = .bool false
      | 3 => v = .bool false
      | 4 => v = .slice I.a I.n I.c
      | 5 => v = .int .i64 (I.n : Int)
      | 6 => v = .bool false
      | 7 => v = .bool false
      | 8 => v = .bool false
      | 9 => v = .pointer (some ⟨ga, 10, none⟩)
      | 10 => v = .slice S.tag.a S.tag.n S.tag.c
      | 11 => v = .slice k.a k.n k.c
      | 12 => v = .slice I.a I.n I.c
      | 13 => ∃ s3, v = .slice s3.a s3.n s3.c ∧ SRd wx s3 (tagI lk (tagIn role D))
      | 14 => v = .bool vv
      | 15 => v = .bool (!vv)
      | _ => False) (fun wx => Below x2.heap.size x2 wx) (by kernel_rfl) (Below.refl _ _).drew ?_ ?_ ?_
    ·
     intro i gB v wx wy hi hF hb _
     match i, hi with
     | 0, _ => exact hF
     | 1, _ => exact hF
     | 2, _ => exact hF
     | 3, _ => exact hF
     | 4, _ => exact hF
     | 5, _ => exact hF
     | 6, _ => exact hF
     | 7, _ => exact hF
     | 8, _ => exact hF
     | 9, _ => exact hF
     | 10, _ => exact hF
     | 11, _ => exact hF
     | 12, _ => exact hF
     | 13, _ => obtain ⟨s3, h0, h1⟩ := hF; exact ⟨s3, h0, h1.later hb⟩
     | 14, _ => exact hF
     | 15, _ => exact hF
     | n + 16, hi => exact absurd hi (by omega)
    ·
     intro i hi t ρ wx hB hp hd
     match i, hi with
     | 0, _ =>
      have e0 : (fr DL1 A t).eval (.tmp 0) = .slice k.a k.n k.c := (fr_eval_old _ _ _ 0 rfl).trans a0'
      refine op_run (v := .slice k.a k.n k.c) (w' := wx) rfl rfl ?_ ?_
      ·
       clear hp hd; have ec : ∀ v, (fr DL1 A t).eval (.const v) = v := fun _ => rfl; generalize (fr DL1 A t).eval = ev at ec e0 ⊢; go_simp
      ·
       exact ⟨_, 0, rfl, hB, Below.refl _ _, rfl, .inl rfl⟩
     | 1, _ =>
      have e12 : (fr DL1 A t).eval (.tmp 12) = .slice k.a k.n k.c := (fr_eval _ _ _ 12 rfl (by rw [asz]; decide)).trans (hp 0 (pre_mem (by kernel_rfl)))
      refine op_run (v := .int .i64 (k.n : Int)) (w' := wx) rfl rfl ?_ ?_
      ·
       clear hp hd; have ec : ∀ v, (fr DL1 A t).eval (.const v) = v := fun _ => rfl; generalize (fr DL1 A t).eval = ev at ec e12 ⊢; go_simp
      ·
       exact ⟨_, 0, rfl, hB, Below.refl _ _, rfl, .inl rfl⟩
     | 2, _ =>
      have e13 : (fr DL1 A t).eval (.tmp 13) = .int .i64 (k.n : Int) := (fr_eval _ _ _ 13 rfl (by rw [asz]; decide)).trans (hp 1 (pre_mem (by kernel_rfl)))
      have hh := hne
      refine op_run (v := .bool false) (w' := wx) rfl rfl ?_ ?_
      ·
       clear hp hd; have ec : ∀ v, (fr DL1 A t).eval (.const v) = v := fun _ => rfl; generalize (fr DL1 A t).eval = ev at ec e13 ⊢; go_simp
      ·
       exact ⟨_, 0, rfl, hB, Below.refl _ _, rfl, .inl rfl⟩
     | 3, _ =>
      have e14 : (fr DL1 A t).eval (.tmp 14) = .bool false := (fr_eval _ _ _ 14 rfl (by rw [asz]; decide)).trans (hp 2 (pre_mem (by kernel_rfl)))
      refine op_run (v := .bool false) (w' := wx) rfl rfl ?_ ?_
      ·
       clear hp hd; have ec : ∀ v, (fr DL1 A t).eval (.const v) = v := fun _ => rfl; generalize (fr DL1 A t).eval = ev at ec e14 ⊢; go_simp
      ·
       exact ⟨_, 0, rfl, hB, Below.refl _ _, rfl, .inl rfl⟩
     | 4, _ =>
      have e8 : (fr DL1 A t).eval (.tmp 8) = .slice I.a I.n I.c := (fr_eval_old _ _ _ 8 rfl).trans a8'
      have e15 : (fr DL1 A t).eval (.tmp 15) = .bool false := (fr_eval _ _ _ 15 rfl (by rw [asz]; decide)).trans (hp 3 (pre_mem (by kernel_rfl)))
      refine op_run_g (v := .slice I.a I.n I.c) (w' := wx) rfl (wanted_true rfl rfl e15) ?_ ?_
      ·
       clear hp hd; have ec : ∀ v, (fr DL1 A t).eval (.const v) = v := fun _ => rfl; generalize (fr DL1 A t).eval = ev at ec e8 e15 ⊢; go_simp
      ·
       exact ⟨_, 0, rfl, hB, Below.refl _ _, rfl, .inl rfl⟩
     | 5, _ =>
      have e16 : (fr DL1 A t).eval (.tmp 16) = .slice I.a I.n I.c := (fr_eval _ _ _ 16 rfl (by rw [asz]; decide)).trans (hp 4 (pre_mem (by kernel_rfl)))
      have e15 : (fr DL1 A t).eval (.tmp 15) = .bool false := (fr_eval _ _ _ 15 rfl (by rw [asz]; decide)).trans (hp 3 (pre_mem (by kernel_rfl)))
      refine op_run_g (v := .int .i64 (I.n : Int)) (w' := wx) rfl (wanted_true rfl rfl e15) ?_ ?_
      ·
       clear hp hd; have ec : ∀ v, (fr DL1 A t).eval (.const v) = v := fun _ => rfl; generalize (fr DL1 A t).eval = ev at ec e16 e15 ⊢; go_simp
      ·
       exact ⟨_, 0, rfl, hB, Below.refl _ _, rfl, .inl rfl⟩
     | 6, _ =>
      have e17 : (fr DL1 A t).eval (.tmp 17) = .int .i64 (I.n : Int) := (fr_eval _ _ _ 17 rfl (by rw [asz]; decide)).trans (hp 5 (pre_mem (by kernel_rfl)))
      have e15 : (fr DL1 A t).eval (.tmp 15) = .bool false := (fr_eval _ _ _ 15 rfl (by rw [asz]; decide)).trans (hp 3 (pre_mem (by kernel_rfl)))
      have hh := hie
      refine op_run_g (v := .bool false) (w' := wx) rfl (wanted_true rfl rfl e15) ?_ ?_
      ·
       clear hp hd; have ec : ∀ v, (fr DL1 A t).eval (.const v) = v := fun _ => rfl; generalize (fr DL1 A t).eval = ev at ec e17 e15 ⊢; go_simp
      ·
       exact ⟨_, 0, rfl, hB, Below.refl _ _, rfl, .inl rfl⟩
     | 7, _ =>
      have e15 : (fr DL1 A t).eval (.tmp 15) = .bool false := (fr_eval _ _ _ 15 rfl (by rw [asz]; decide)).trans (hp 3 (pre_mem (by kernel_rfl)))
      have e18 : (fr DL1 A t).eval (.tmp 18) = .bool false := (fr_eval _ _ _ 18 rfl (by rw [asz]; decide)).trans (hp 6 (pre_mem (by kernel_rfl)))
      refine op_run (v := .bool false) (w' := wx) rfl rfl ?_ ?_
      ·
       clear hp hd; have ec : ∀ v, (fr DL1 A t).eval (.const v) = v := fun _ => rfl; generalize (fr DL1 A t).eval = ev at ec e15 e18 ⊢; go_simp
      ·
       exact ⟨_, 0, rfl, hB, Below.refl _ _, rfl, .inl rfl⟩
     | 8, _ =>
      have e19 : (fr DL1 A t).eval (.tmp 19) = .bool false := (fr_eval _ _ _ 19 rfl (by rw [asz]; decide)).trans (hp 7 (pre_mem (by kernel_rfl)))
      refine op_run (v := .bool false) (w' := wx) rfl rfl ?_ ?_
      ·
       clear hp hd; have ec : ∀ v, (fr DL1 A t).eval (.const v) = v := fun _ => rfl; generalize (fr DL1 A t).eval = ev at ec e19 ⊢; go_simp
      ·
       exact ⟨_, 0, rfl, hB, Below.refl _ _, rfl, .inl rfl⟩
     | 9, _ =>
      have e5 : (fr DL1 A t).eval (.tmp 5) = .pointer (some ⟨ga, 0, none⟩) := (fr_eval_old _ _ _ 5 rfl).trans a5'
      have e20 : (fr DL1 A t).eval (.tmp 20) = .bool false := (fr_eval _ _ _ 20 rfl (by rw [asz]; decide)).trans (hp 8 (pre_mem (by kernel_rfl)))
      refine op_run_g (v := .pointer (some ⟨ga, 10, none⟩)) (w' := wx) rfl (wanted_true rfl rfl e20) ?_ ?_
      ·
       clear hp hd; have ec : ∀ v, (fr DL1 A t).eval (.const v) = v := fun _ => rfl; generalize (fr DL1 A t).eval = ev at ec e5 e20 ⊢; go_simp
      ·
       exact ⟨_, 0, rfl, hB, Below.refl _ _, rfl, .inl rfl⟩
     | 10, _ =>
      have e21 : (fr DL1 A t).eval (.tmp 21) = .pointer (some ⟨ga, 10, none⟩) := (fr_eval _ _ _ 21 rfl (by rw [asz]; decide)).trans (hp 9 (pre_mem (by kernel_rfl)))
      have e20 : (fr DL1 A t).eval (.tmp 20) = .bool false := (fr_eval _ _ _ 20 rfl (by rw [asz]; decide)).trans (hp 8 (pre_mem (by kernel_rfl)))
      obtain ⟨hc0, hc1, hc2, hc3, hc4, hc5, hc6, hc7, hc8, hc9, hc10⟩ := cells11 (hKA wx hB)
      refine op_run_g (v := .slice S.tag.a S.tag.n S.tag.c) (w' := wx) rfl (wanted_true rfl rfl e20) ?_ ?_
      ·
       clear hp hd; have ec : ∀ v, (fr DL1 A t).eval (.const v) = v := fun _ => rfl; generalize (fr DL1 A t).eval = ev at ec e21 e20 ⊢; go_simp
      ·
       exact ⟨_, 0, rfl, hB, Below.refl _ _, rfl, .inl rfl⟩
     | 11, _ =>
      have e0 : (fr DL1 A t).eval (.tmp 0) = .slice k.a k.n k.c := (fr_eval_old _ _ _ 0 rfl).trans a0'
      have e20 : (fr DL1 A t).eval (.tmp 20) = .bool false := (fr_eval _ _ _ 20 rfl (by rw [asz]; decide)).trans (hp 8 (pre_mem (by kernel_rfl)))
      refine op_run_g (v := .slice k.a k.n k.c) (w' := wx) rfl (wanted_true rfl rfl e20) ?_ ?_
      ·
       clear hp hd; have ec : ∀ v, (fr DL1 A t).eval (.const v) = v := fun _ => rfl; generalize (fr DL1 A t).eval = ev at ec e0 e20 ⊢; go_simp
      ·
       exact ⟨_, 0, rfl, hB, Below.refl _ _, rfl, .inl rfl⟩
     | 12, _ =>
      have e8 : (fr DL1 A t).eval (.tmp 8) = .slice I.a I.n I.c := (fr_eval_old _ _ _ 8 rfl).trans a8'
      have e20 : (fr DL1 A t).eval (.tmp 20) = .bool false := (fr_eval _ _ _ 20 rfl (by rw [asz]; decide)).trans (hp 8 (pre_mem (by kernel_rfl)))
      refine op_run_g (v := .slice I.a I.n I.c) (w' := wx) rfl (wanted_true rfl rfl e20) ?_ ?_
      ·
       clear hp hd; have ec : ∀ v, (fr DL1 A t).eval (.const v) = v := fun _ => rfl; generalize (fr DL1 A t).eval = ev at ec e8 e20 ⊢; go_simp
      ·
       exact ⟨_, 0, rfl, hB, Below.refl _ _, rfl, .inl rfl⟩
     | 13, _ =>
      have e23 : (fr DL1 A t).eval (.tmp 23) = .slice k.a k.n k.c := (fr_eval _ _ _ 23 rfl (by rw [asz]; decide)).trans (hp 11 (pre_mem (by kernel_rfl)))
      have e24 : (fr DL1 A t).eval (.tmp 24) = .slice I.a I.n I.c := (fr_eval _ _ _ 24 rfl (by rw [asz]; decide)).trans (hp 12 (pre_mem (by kernel_rfl)))
      have e20 : (fr DL1 A t).eval (.tmp 20) = .bool false := (fr_eval _ _ _ 20 rfl (by rw [asz]; decide)).trans (hp 8 (pre_mem (by kernel_rfl)))
      refine op_call_g (f := 64) (args := #[.slice k.a k.n k.c, .slice I.a I.n I.c]) rfl (wanted_true rfl rfl e20) ?_ (tagN k I lk (tagIn role D) wx (hKK wx hB) (hII wx hB) (by have := HLL.out; omega) (by have := tagIn_le role D; omega)) ?_
      ·
       have ef : (fr DL1 A t).eval (.func 64) = .func (.func 64) #[] #[] := rfl; clear hp hd; have ec : ∀ v, (fr DL1 A t).eval (.const v) = v := fun _ => rfl; generalize (fr DL1 A t).eval = ev at ec e23 e24 e20 ef ⊢; go_simp
      ·
       rintro e wy ⟨s3, rfl, o3, b1⟩
       exact ⟨_, rfl, _, 0, rfl, hB.trans (b1.mono hB.size), b1, ⟨s3, rfl, o3.rd⟩, .inl rfl⟩
     | 14, _ =>
      have e22 : (fr DL1 A t).eval (.tmp 22) = .slice S.tag.a S.tag.n S.tag.c := (fr_eval _ _ _ 22 rfl (by rw [asz]; decide)).trans (hp 10 (pre_mem (by kernel_rfl)))
      obtain ⟨s313, hv13, q13_0⟩ := hp 13 (pre_mem (by kernel_rfl))
      have e25 : (fr DL1 A t).eval (.tmp 25) = .slice s313.a s313.n s313.c := (fr_eval _ _ _ 25 rfl (by rw [asz]; decide)).trans hv13
      have e20 : (fr DL1 A t).eval (.tmp 20) = .bool false := (fr_eval _ _ _ 20 rfl (by rw [asz]; decide)).trans (hp 8 (pre_mem (by kernel_rfl)))
      refine op_call_g (f := 93) (args := #[.slice S.tag.a S.tag.n S.tag.c, .slice s313.a s313.n s313.c]) rfl (wanted_true rfl rfl e20) ?_ (sameTagV S.tag s313 D.tag (tagI lk (tagIn role D)) vv wx (hRS wx hB).tag q13_0 (by rw [HTL.out]; omega) (by have := tagI_le lk (tagIn role D); omega) HSV.out) ?_
      ·
       have ef : (fr DL1 A t).eval (.func 93) = .func (.func 93) #[] #[] := rfl; clear hp hd q13_0; have ec : ∀ v, (fr DL1 A t).eval (.const v) = v := fun _ => rfl; generalize (fr DL1 A t).eval = ev at ec e22 e25 e20 ef ⊢; go_simp
      ·
       rintro e wy ⟨rfl, b1⟩
       exact ⟨_, rfl, _, 0, rfl, hB.trans (b1.mono hB.size), b1, rfl, .inl rfl⟩
     | 15, _ =>
      have hv14 := hp 14 (pre_mem (by kernel_rfl))
      have e26 : (fr DL1 A t).eval (.tmp 26) = .bool vv := (fr_eval _ _ _ 26 rfl (by rw [asz]; decide)).trans hv14
      have e20 : (fr DL1 A t).eval (.tmp 20) = .bool false := (fr_eval _ _ _ 20 rfl (by rw [asz]; decide)).trans (hp 8 (pre_mem (by kernel_rfl)))
      refine op_run_g (v := .bool (!vv)) (w' := wx) rfl (wanted_true rfl rfl e20) ?_ ?_
      ·
       clear hp hd; have ec : ∀ v, (fr DL1 A t).eval (.const v) = v := fun _ => rfl; generalize (fr DL1 A t).eval = ev at ec e26 e20 ⊢; go_simp
      ·
       exact ⟨_, 0, rfl, hB, Below.refl _ _, rfl, .inl rfl⟩
     | n + 16, hi => exact absurd hi (by omega)
    ·
     intro t ρ wx hB hF hne
     have e20 : (fr DL1 A t).eval (.tmp 20) = .bool false := (fr_eval _ _ _ 20 rfl (by rw [asz]; decide)).trans (hF 8 (by decide))
     have e27 : (fr DL1 A t).eval (.tmp 27) = .bool (!vv) := (fr_eval _ _ _ 27 rfl (by rw [asz]; decide)).trans (hF 15 (by decide))
     clear hne
     refine op_wp rfl rfl ?_
     have ec : ∀ v, (fr DL1 A t).eval (.const v) = v := fun _ => rfl
     generalize hE : (fr DL1 A t).eval = ev at ec e20 e27
     unfold Oper.wp
     rw [hE]

     go_simp
     refine hMet _ _ (Met.intro (hRJ _ _ ⟨t 12, t 13, t 14, t 15, t 16, t 17, t 18, t 19, t 20, t 21, t 22, t 23, t 24, t 25, t 26, t 27, _, ⟨rfl, hB⟩, ?_⟩))
     rw [← hA]; rfl
   case rest =>
    obtain ⟨xc, hxc⟩ : ∃ xc, xc = wc := ⟨_, rfl⟩
    subst hxc
    obtain ⟨rfl, bc⟩ := hcut
    have BC := hid (B2.out.trans (bc.mono B2.out.size))
    cases vv with
    | false =>
     obtain rfl : R = [] := by rw [← HRR.out]; exact unsealL_no HV.out
     go_wp2
     exact bodyPost_ret (v := .tuple #[.slice (some ⟨xc.heap.size, 0, none⟩) 0 0, .bool false]) (res2 rfl (is_tmp rfl) (is_tmp rfl)) rfl (ans_no BC.out)
    | true =>
     obtain rfl : R = mixI lk (headL role D.sn D.epoch D.seq) D.body := by rw [← HRR.out]; exact unsealL_yes HV.out
     have HKL : Hid (lk.length = 32) := (unseal_parts HV.out).1
     have KC := hid (KA2.out.later bc)
     have HBL : Hid (D.body.length ≤ 40) := canTag_body HC.out
     go_upto_region 4 with fail
     clear bc
     obtain ⟨dz0, dz1, dz2, dz3, dz4, dz5, dz6, dz7, dz8, dz9, dz10⟩ := cells11 KC.out
     go_region_held3 (fun w' => w'.cell? ⟨ga, 0, none⟩ = some (.int .i64 D.kind) ∧ w'.cell? ⟨ga, 1, none⟩ = some (.int .i64 D.id) ∧ w'.cell? ⟨ga, 2, none⟩ = some (.slice S.cn.a S.cn.n S.cn.c) ∧ w'.cell? ⟨ga, 3, none⟩ = some (.slice S.sn.a S.sn.n S.sn.c) ∧ w'.cell? ⟨ga, 4, none⟩ = some (.int .i64 D.tick) ∧ w'.cell? ⟨ga, 5, none⟩ = some (.slice S.cookie.a S.cookie.n S.cookie.c) ∧ w'.cell? ⟨ga, 6, none⟩ = some (.slice S.proof.a S.proof.n S.proof.c) ∧ w'.cell? ⟨ga, 7, none⟩ = some (.int .i64 D.epoch) ∧ w'.cell? ⟨ga, 8, none⟩ = some (.int .i64 D.seq) ∧ w'.cell? ⟨ga, 9, none⟩ = some (.slice S.body.a S.body.n S.body.c) ∧ w'.cell? ⟨ga, 10, none⟩ = some (.slice S.tag.a S.tag.n S.tag.c)) (first | exact ⟨dw0, dw1, dw2, dw3, dw4, dw5, dw6, dw7, dw8, dw9, dw10⟩ | exact ⟨dy0, dy1, dy2, dy3, dy4, dy5, dy6, dy7, dy8, dy9, dy10⟩ | exact ⟨dz0, dz1, dz2, dz3, dz4, dz5, dz6, dz7, dz8, dz9, dz10⟩ | go_keep)
      (first
       | (go_at_call 63; refine (specMix k.a k.n k.c (some ⟨gh, 0, none⟩) mh ch S.body.a S.body.n S.body.c lk (headL role D.sn D.epoch D.seq) D.body y1 HLK.out EMH.out HR.out.body.len (HK.out.later (BC.out.trans (T1.out.mono BC.out.size))).rd RH.out.rd (HR.out.later (BC.out.trans (T1.out.mono BC.out.size))).body.rd HK.out.nil (by intro e; cases e) HK.out.bytes (headL_bytes _ _ _ _ HR.out.sn.bytes) HR.out.body.bytes (by have := hid2 HKL HLK; omega) (by have := EMH.out; have := headL_le role D.sn D.epoch D.seq; omega) (by have := HBL.out; have := HR.out.body.len; omega)).mono ?_; rintro e y2 ⟨gm, mm, cm, rfl, em, kg, rr, b⟩; have T2 := hid (T1.out.trans (b.mono T1.out.size)); have RM := hid (rr); have EMM : Hid (mm = (mixI lk (headL role D.sn D.epoch D.seq) D.body).length) := em; have GM : Hid (xc.heap.size ≤ gm) := Nat.le_trans T1.out.size kg; have dw0 := (KC.out.later T2.out).cell 0 rfl; have dw1 := (KC.out.later T2.out).cell 1 rfl; have dw2 := (KC.out.later T2.out).cell 2 rfl; have dw3 := (KC.out.later T2.out).cell 3 rfl; have dw4 := (KC.out.later T2.out).cell 4 rfl; have dw5 := (KC.out.later T2.out).cell 5 rfl; have dw6 := (KC.out.later T2.out).cell 6 rfl; have dw7 := (KC.out.later T2.out).cell 7 rfl; have dw8 := (KC.out.later T2.out).cell 8 rfl; have dw9 := (KC.out.later T2.out).cell 9 rfl; have dw10 := (KC.out.later T2.out).cell 10 rfl; clear em kg rr b)
       | (go_at_call 60; refine (specHeadOf role S.sn D.sn D.epoch D.seq xc.drew (HR.out.later BC.out.drew).sn).mono ?_; rintro e y1 ⟨gh, mh, ch, rfl, em, kg, rr, b⟩; have T1 : Hid (Below xc.heap.size xc y1) := (Below.refl _ _).drew.trans b; have RH := hid (rr); have EMH : Hid (mh = (headL role D.sn D.epoch D.seq).length) := em; have dy0 := (KC.out.later T1.out).cell 0 rfl; have dy1 := (KC.out.later T1.out).cell 1 rfl; have dy2 := (KC.out.later T1.out).cell 2 rfl; have dy3 := (KC.out.later T1.out).cell 3 rfl; have dy4 := (KC.out.later T1.out).cell 4 rfl; have dy5 := (KC.out.later T1.out).cell 5 rfl; have dy6 := (KC.out.later T1.out).cell 6 rfl; have dy7 := (KC.out.later T1.out).cell 7 rfl; have dy8 := (KC.out.later T1.out).cell 8 rfl; have dy9 := (KC.out.later T1.out).cell 9 rfl; have dy10 := (KC.out.later T1.out).cell 10 rfl; clear em kg rr b))
     clear dz0 dz1 dz2 dz3 dz4 dz5 dz6 dz7 dz8 dz9 dz10 dy0 dy1 dy2 dy3 dy4 dy5 dy6 dy7 dy8 dy9 dy10 dw0 dw1 dw2 dw3 dw4 dw5 dw6 dw7 dw8 dw9 dw10
     go_wp2
     exact bodyPost_ret (v := .tuple #[.slice (some ⟨gm, 0, none⟩) mm cm, .bool true]) (res2 rfl (is_tmp rfl) (is_tmp rfl)) rfl ⟨⟨some ⟨gm, 0, none⟩, mm, cm⟩, rfl, SOwn.row RM.out EMM.out (mixI_bytes _ _ _ HR.out.body.bytes) (Nat.le_trans BC.out.size GM.out) RM.out.lt, BC.out.trans (T2.out.mono BC.out.size)⟩

end Go.Proofs.YtmcflfpckpjphaaGreatDoor.UnsS

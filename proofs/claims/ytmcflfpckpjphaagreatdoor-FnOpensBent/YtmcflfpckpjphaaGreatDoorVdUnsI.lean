/-
  What impl opens.
-/
import Derived.Test.YtmcflfpckpjphaaGreatDoorVdSealI
set_option maxRecDepth 100000
namespace Go.Proofs.YtmcflfpckpjphaaGreatDoor.UnsI
open Go.RowKit Mem App Blk Words Zone Res Comp DiffP Diffs MacP KdfP FrZ FrL FrP FrG FrQ FrQ2 SlP SlQ Shp Each Copy Ops Guard MacI StrI SlI

theorem same_dec {x y : List Int} (hx : Bytes x) (hy : Bytes y) (h : x.length = 16) : sameI x y = decide (x = y) := by
 rw [sameI_yes x y h]
 by_cases e : x = y
 ·
  rw [decide_eq_true e, (diffI_zero x y hx hy).2 e]; rfl
 ·
  rw [decide_eq_false e]
  have := mt (diffI_zero x y hx hy).1 e
  simpa using this
theorem sameTagV (s t : Sl) (x y : List Int) (v : Bool) (w : World) (h : SRd w s x) (k : SRd w t y) (lx : x.length ≤ 4194304) (ly : y.length ≤ 4194304) (hv : sameI x y = v) :
  Calls Tryz.prog 68 #[.slice s.a s.n s.c, .slice t.a t.n t.c] w fun e w' => e = .returned (.bool v) ∧ Below w.heap.size w w' := by
 subst hv
 refine (implSameTag s.a t.a s.n s.c t.n t.c x y w h.len k.len h.rd k.rd h.bytes k.bytes (by rw [h.len]; exact lx) (by rw [k.len]; exact ly)).mono ?_
 rintro e w' ⟨rfl, m, rfl⟩
 exact ⟨rfl, ⟨rfl, rfl, rfl, Nat.le_refl _, fun _ _ => rfl⟩⟩
theorem inputN (role : Int) (S : FrS) (D : FrD) (w : World) (h : FrRd w S D) :
  Calls Tryz.prog 21 #[.int .i64 role, frV D S] w (AnsB (tagIn role D) w) := (implTagInput role S D w h).mono fun _ _ h' => AnsB.of (tagIn_bytes _ _ h.sn.bytes h.body.bytes) h'
theorem tagN (k t : Sl) (lk l : List Int) (w : World) (hT : Tab w) (hk : SRd w k lk) (h : SRd w t l) (h1 : lk.length ≤ 2000000) (h2 : l.length ≤ 2000000) :
  Calls Tryz.prog 20 #[.slice k.a k.n k.c, .slice t.a t.n t.c] w (AnsB (tagI lk l) w) := (implTag k.a k.n k.c t.a t.n t.c lk l w hT hk.len h.len hk.rd h.rd hk.nil h.nil hk.bytes h.bytes (by rw [hk.len]; omega) (by rw [h.len]; omega)).mono fun _ _ h' => AnsB.of (tagI_bytes _ _) h'
theorem isKeyV (a : Option Addr) (n c : Nat) (v : Bool) (w : World) (h : ((n : Int) == 32) = v) : Calls Tryz.prog 66 #[.slice a n c] w fun e w' => e = .returned (.bool v) ∧ w = w' := by
 subst h; exact isKey a n c w
theorem canTagV (role : Int) (S : FrS) (D : FrD) (v : Bool) (w : World) (h : FrRd w S D) (hv : canTag role D = v) : Calls Tryz.prog 67 #[.int .i64 role, frV D S] w fun e w' => e = .returned (.bool v) ∧ Below w.heap.size w w' := by
 subst hv; exact implCanTag role S D w h

def AnsBb (l : List Int) (ok : Bool) (w : World) : Ending → World → Prop := fun e w' => ∃ S0 : Sl, e = .returned (.tuple #[.slice S0.a S0.n S0.c, .bool ok]) ∧ SOwn w' w.heap.size w'.heap.size S0 l ∧ Below w.heap.size w w'
theorem ans_no {w x : World} (b : Below w.heap.size w x) : AnsBb [] false w (.returned (.tuple #[.slice (some ⟨x.heap.size, 0, none⟩) 0 0, .bool false])) (x.alloc (.cells #[] 5)) :=
 ⟨⟨some ⟨x.heap.size, 0, none⟩, 0, 0⟩, rfl, SOwn.row ⟨Nat.le_refl _, by unfold maxLen; omega, #[], heap_alloc_new x _, rfl, rfl⟩ rfl (fun z hz => by cases hz) b.size (by simp), b.alloc b.size _⟩

abbrev DL1 : List Nat := [8, 9, 10, 11, 12, 13, 14, 15, 16, 17, 18, 19, 20, 21, 22, 23, 24, 25, 26]
set_option maxHeartbeats 8000000 in
theorem implUnseal (k : Sl) (lk : List Int) (role : Int) (S : FrS) (D : FrD) (w : World) (hT : Tab w) (hk : SRd w k lk) (h : FrRd w S D) (hl : lk.length ≤ 1048576) :
  Calls Tryz.prog 16 #[.slice k.a k.n k.c, .int .i64 role, frV D S] w (AnsBb (unsealL lk role D) (unsealB lk role D) w) := by
 have HK := hid (hk)
 have HR := hid (h)
 have HT := hid (hT)
 have HLK : Hid (k.n = lk.length) := hk.len
 have HLL : Hid (lk.length ≤ 1048576) := hl
 clear hk h hl hT
 obtain ⟨vv, hv⟩ : ∃ vv, unsealB lk role D = vv := ⟨_, rfl⟩
 have HV : Hid (unsealB lk role D = vv) := hv
 obtain ⟨R, hR⟩ : ∃ R, unsealL lk role D = R := ⟨_, rfl⟩
 have HRR : Hid (unsealL lk role D = R) := hR
 rw [hv, hR]
 clear hv hR
 unfold frV
 go_enter Tryz.func16, Tryz.ntmps16
 obtain ⟨x1, hx1⟩ : ∃ x1, w.alloc (.cells #[.int .i64 D.kind, .int .i64 D.id, .slice S.cn.a S.cn.n S.cn.c, .slice S.sn.a S.sn.n S.sn.c, .int .i64 D.tick, .slice S.cookie.a S.cookie.n S.cookie.c, .slice S.proof.a S.proof.n S.proof.c, .int .i64 D.epoch, .int .i64 D.seq, .slice S.body.a S.body.n S.body.c, .slice S.tag.a S.tag.n S.tag.c] 27) = x1 := ⟨_, rfl⟩
 have HW1 := hid (hx1)
 have b1 : Below w.heap.size w x1 := by rw [← hx1]; exact (Below.refl _ _).alloc (Nat.le_refl _) _
 have KN : Blk x1 w.heap.size 27 [.int .i64 D.kind, .int .i64 D.id, .slice S.cn.a S.cn.n S.cn.c, .slice S.sn.a S.sn.n S.sn.c, .int .i64 D.tick, .slice S.cookie.a S.cookie.n S.cookie.c, .slice S.proof.a S.proof.n S.proof.c, .int .i64 D.epoch, .int .i64 D.seq, .slice S.body.a S.body.n S.body.c, .slice S.tag.a S.tag.n S.tag.c] := by rw [← hx1]; exact Blk.new w _ _
 have HSZ1 : Hid (x1.heap.size = w.heap.size + 1) := by rw [← hx1]; show _ = _; simp
 clear hx1
 have L1 := hid (b1.size)
 have B1 := hid (b1)
 clear b1
 go_upto_region 1 with fail
 rw [HW1.out]
 obtain ⟨ga, hga⟩ : ∃ g, w.heap.size = g := ⟨_, rfl⟩
 have Gga : Hid (w.heap.size = ga ∧ x1.heap.size = ga + 1) := ⟨hga, by rw [← hga]; exact HSZ1.out⟩
 rw [hga] at KN ⊢
 clear HW1 HSZ1 hga
 have KA1 := hid (KN)
 clear KN
 cases h0 : ((k.n : Int) == 32) with
 | false =>
  have HF : Hid (unsealB lk role D = false) := by have q := HLK.out; show unsealB _ _ _ = false; unfold unsealB; rw [← q, h0]; rfl
  obtain rfl : vv = false := by rw [← HV.out]; exact HF.out
  obtain rfl : R = [] := by rw [← HRR.out]; exact unsealL_no HF.out
  go_cut [27] from 8 to 26 (fun sv wx => sv = .bool true ∧ Below x1.heap.size x1 wx)
  case first =>
   rename_i J K' hRJ hMet
   generalize hA : Act.mk _ _ = A
   have a0' : A.eval (.tmp 0) = .slice k.a k.n k.c := by rw [← hA]; rfl
   have a1' : A.eval (.tmp 1) = .int .i64 role := by rw [← hA]; rfl
   have a5' : A.eval (.tmp 5) = .pointer (some ⟨ga, 0, none⟩) := by rw [← hA]; rfl
   have asz : A.tmps.size = 36 := by rw [← hA]; rfl
   have hKA : ∀ wx, Below x1.heap.size x1 wx → Blk wx ga 27 [.int .i64 D.kind, .int .i64 D.id, .slice S.cn.a S.cn.n S.cn.c, .slice S.sn.a S.sn.n S.sn.c, .int .i64 D.tick, .slice S.cookie.a S.cookie.n S.cookie.c, .slice S.proof.a S.proof.n S.proof.c, .int .i64 D.epoch, .int .i64 D.seq, .slice S.body.a S.body.n S.body.c, .slice S.tag.a S.tag.n S.tag.c] := fun wx hb => KA1.out.later hb
   have hRS : ∀ wx, Below x1.heap.size x1 wx → FrRd wx S D := fun wx hb => HR.out.later (B1.out.trans (hb.mono B1.out.size))
   have hKK : ∀ wx, Below x1.heap.size x1 wx → SRd wx k lk := fun wx hb => HK.out.later (B1.out.trans (hb.mono B1.out.size))
   have hTT : ∀ wx, Below x1.heap.size x1 wx → Tab wx := fun wx hb => HT.out.later (B1.out.trans (hb.mono B1.out.size))
   refine region_each (by kernel_rfl) DL1 19 (fun i => DL1.getD i 0) (fun _ => 0)
    (fun i gB v wx => match i with
     | 0 => v = .slice k.a k.n k.c
     | 1 => v = .bool false
     | 2 => v = .bool true
     | 3 => v = .bool true
     | 4 => v = undef
     | 5 => v = undef
     | 6 => v = undef
     | 7 => v = undef
     | 8 => v = .bool true
     | 9 => v = .bool true
     | 10 => v = undef
     | 11 => v = undef
     | 12 => v = undef
     | 13 => v = undef
     | 14 => v = undef
     | 15 => v = undef
     | 16 => v = undef
     | 17 => v = undef
     | 18 => v = undef
     | _ => False) (fun wx => Below x1.heap.size x1 wx) (by kernel_rfl) (Below.refl _ _).drew ?_ ?_ ?_
   ·
    intro i gB v wx wy hi hF hb _
    match i, hi with
    | 0, _ => exact hF
    | 1, _ => exact hF
    | 2, _ => exact hF
    | 3, _ => exact hF
    | 4, _ => exact hF
    | 5, _ => exact hF
    | 6, _ => exact hF
    | 7, _ => exact hF
    | 8, _ => exact hF
    | 9, _ => exact hF
    | 10, _ => exact hF
    | 11, _ => exact hF
    | 12, _ => exact hF
    | 13, _ => exact hF
    | 14, _ => exact hF
    | 15, _ => exact hF
    | 16, _ => exact hF
    | 17, _ => exact hF
    | 18, _ => exact hF
    | n + 19, hi => exact absurd hi (by omega)
   ·
    intro i hi t ρ wx hB hp hd
    match i, hi with
    | 0, _ =>
     have e0 : (fr DL1 A t).eval (.tmp 0) = .slice k.a k.n k.c := (fr_eval_old _ _ _ 0 rfl).trans a0'
     refine op_run (v := .slice k.a k.n k.c) (w' := wx) rfl rfl ?_ ?_
     ·
      clear hp hd; have ec : ∀ v, (fr DL1 A t).eval (.const v) = v := fun _ => rfl; generalize (fr DL1 A t).eval = ev at ec e0 ⊢; go_simp
     ·
      exact ⟨_, 0, rfl, hB, Below.refl _ _, rfl, .inl rfl⟩
    | 1, _ =>
     have e8 : (fr DL1 A t).eval (.tmp 8) = .slice k.a k.n k.c := (fr_eval _ _ _ 8 rfl (by rw [asz]; decide)).trans (hp 0 (pre_mem (by kernel_rfl)))
     refine op_call (f := 66) (args := #[.slice k.a k.n k.c]) rfl rfl ?_ (isKeyV k.a k.n k.c false wx h0) ?_
     ·
      have ef : (fr DL1 A t).eval (.func 66) = .func (.func 66) #[] #[] := rfl; clear hp hd; have ec : ∀ v, (fr DL1 A t).eval (.const v) = v := fun _ => rfl; generalize (fr DL1 A t).eval = ev at ec e8 ef ⊢; go_simp
     ·
      rintro e wy ⟨rfl, rfl⟩
      exact ⟨_, rfl, _, 0, rfl, hB.trans ((Below.refl _ _).mono hB.size), (Below.refl _ _), rfl, .inl rfl⟩
    | 2, _ =>
     have hv1 := hp 1 (pre_mem (by kernel_rfl))
     have e9 : (fr DL1 A t).eval (.tmp 9) = .bool false := (fr_eval _ _ _ 9 rfl (by rw [asz]; decide)).trans hv1
     refine op_run (v := .bool true) (w' := wx) rfl rfl ?_ ?_
     ·
      clear hp hd; have ec : ∀ v, (fr DL1 A t).eval (.const v) = v := fun _ => rfl; generalize (fr DL1 A t).eval = ev at ec e9 ⊢; go_simp
     ·
      exact ⟨_, 0, rfl, hB, Below.refl _ _, rfl, .inl rfl⟩
    | 3, _ =>
     have e10 : (fr DL1 A t).eval (.tmp 10) = .bool true := (fr_eval _ _ _ 10 rfl (by rw [asz]; decide)).trans (hp 2 (pre_mem (by kernel_rfl)))
     refine op_run (v := .bool true) (w' := wx) rfl rfl ?_ ?_
     ·
      clear hp hd; have ec : ∀ v, (fr DL1 A t).eval (.const v) = v := fun _ => rfl; generalize (fr DL1 A t).eval = ev at ec e10 ⊢; go_simp
     ·
      exact ⟨_, 0, rfl, hB, Below.refl _ _, rfl, .inl rfl⟩
    | 4, _ =>
     have e11 : (fr DL1 A t).eval (.tmp 11) = .bool true := (fr_eval _ _ _ 11 rfl (by rw [asz]; decide)).trans (hp 3 (pre_mem (by kernel_rfl)))
     refine op_skip rfl (wanted_false rfl rfl e11 rfl) ?_
     exact ⟨_, 0, rfl, hB, Below.refl _ _, rfl, .inl rfl⟩
    | 5, _ =>
     have e11 : (fr DL1 A t).eval (.tmp 11) = .bool true := (fr_eval _ _ _ 11 rfl (by rw [asz]; decide)).trans (hp 3 (pre_mem (by kernel_rfl)))
     refine op_skip rfl (wanted_false rfl rfl e11 rfl) ?_
     exact ⟨_, 0, rfl, hB, Below.refl _ _, rfl, .inl rfl⟩
    | 6, _ =>
     have e11 : (fr DL1 A t).eval (.tmp 11) = .bool true := (fr_eval _ _ _ 11 rfl (by rw [asz]; decide)).trans (hp 3 (pre_mem (by kernel_rfl)))
     refine op_skip rfl (wanted_false rfl rfl e11 rfl) ?_
     exact ⟨_, 0, rfl, hB, Below.refl _ _, rfl, .inl rfl⟩
    | 7, _ =>
     have e11 : (fr DL1 A t).eval (.tmp 11) = .bool true := (fr_eval _ _ _ 11 rfl (by rw [asz]; decide)).trans (hp 3 (pre_mem (by kernel_rfl)))
     refine op_skip rfl (wanted_false rfl rfl e11 rfl) ?_
     exact ⟨_, 0, rfl, hB, Below.refl _ _, rfl, .inl rfl⟩
    | 8, _ =>
     have e11 : (fr DL1 A t).eval (.tmp 11) = .bool true := (fr_eval _ _ _ 11 rfl (by rw [asz]; decide)).trans (hp 3 (pre_mem (by kernel_rfl)))
     have e15 : (fr DL1 A t).eval (.tmp 15) = undef := (fr_eval _ _ _ 15 rfl (by rw [asz]; decide)).trans (hp 7 (pre_mem (by kernel_rfl)))
     refine op_run (v := .bool true) (w' := wx) rfl rfl ?_ ?_
     ·
      clear hp hd; have ec : ∀ v, (fr DL1 A t).eval (.const v) = v := fun _ => rfl; generalize (fr DL1 A t).eval = ev at ec e11 e15 ⊢; go_simp
     ·
      exact ⟨_, 0, rfl, hB, Below.refl _ _, rfl, .inl rfl⟩
    | 9, _ =>
     have e16 : (fr DL1 A t).eval (.tmp 16) = .bool true := (fr_eval _ _ _ 16 rfl (by rw [asz]; decide)).trans (hp 8 (pre_mem (by kernel_rfl)))
     refine op_run (v := .bool true) (w' := wx) rfl rfl ?_ ?_
     ·
      clear hp hd; have ec : ∀ v, (fr DL1 A t).eval (.const v) = v := fun _ => rfl; generalize (fr DL1 A t).eval = ev at ec e16 ⊢; go_simp
     ·
      exact ⟨_, 0, rfl, hB, Below.refl _ _, rfl, .inl rfl⟩
    | 10, _ =>
     have e17 : (fr DL1 A t).eval (.tmp 17) = .bool true := (fr_eval _ _ _ 17 rfl (by rw [asz]; decide)).trans (hp 9 (pre_mem (by kernel_rfl)))
     refine op_skip rfl (wanted_false rfl rfl e17 rfl) ?_
     exact ⟨_, 0, rfl, hB, Below.refl _ _, rfl, .inl rfl⟩
    | 11, _ =>
     have e17 : (fr DL1 A t).eval (.tmp 17) = .bool true := (fr_eval _ _ _ 17 rfl (by rw [asz]; decide)).trans (hp 9 (pre_mem (by kernel_rfl)))
     refine op_skip rfl (wanted_false rfl rfl e17 rfl) ?_
     exact ⟨_, 0, rfl, hB, Below.refl _ _, rfl, .inl rfl⟩
    | 12, _ =>
     have e17 : (fr DL1 A t).eval (.tmp 17) = .bool true := (fr_eval _ _ _ 17 rfl (by rw [asz]; decide)).trans (hp 9 (pre_mem (by kernel_rfl)))
     refine op_skip rfl (wanted_false rfl rfl e17 rfl) ?_
     exact ⟨_, 0, rfl, hB, Below.refl _ _, rfl, .inl rfl⟩
    | 13, _ =>
     have e17 : (fr DL1 A t).eval (.tmp 17) = .bool true := (fr_eval _ _ _ 17 rfl (by rw [asz]; decide)).trans (hp 9 (pre_mem (by kernel_rfl)))
     refine op_skip rfl (wanted_false rfl rfl e17 rfl) ?_
     exact ⟨_, 0, rfl, hB, Below.refl _ _, rfl, .inl rfl⟩
    | 14, _ =>
     have e17 : (fr DL1 A t).eval (.tmp 17) = .bool true := (fr_eval _ _ _ 17 rfl (by rw [asz]; decide)).trans (hp 9 (pre_mem (by kernel_rfl)))
     refine op_skip rfl (wanted_false rfl rfl e17 rfl) ?_
     exact ⟨_, 0, rfl, hB, Below.refl _ _, rfl, .inl rfl⟩
    | 15, _ =>
     have e17 : (fr DL1 A t).eval (.tmp 17) = .bool true := (fr_eval _ _ _ 17 rfl (by rw [asz]; decide)).trans (hp 9 (pre_mem (by kernel_rfl)))
     refine op_skip rfl (wanted_false rfl rfl e17 rfl) ?_
     exact ⟨_, 0, rfl, hB, Below.refl _ _, rfl, .inl rfl⟩
    | 16, _ =>
     have e17 : (fr DL1 A t).eval (.tmp 17) = .bool true := (fr_eval _ _ _ 17 rfl (by rw [asz]; decide)).trans (hp 9 (pre_mem (by kernel_rfl)))
     refine op_skip rfl (wanted_false rfl rfl e17 rfl) ?_
     exact ⟨_, 0, rfl, hB, Below.refl _ _, rfl, .inl rfl⟩
    | 17, _ =>
     have e17 : (fr DL1 A t).eval (.tmp 17) = .bool true := (fr_eval _ _ _ 17 rfl (by rw [asz]; decide)).trans (hp 9 (pre_mem (by kernel_rfl)))
     refine op_skip rfl (wanted_false rfl rfl e17 rfl) ?_
     exact ⟨_, 0, rfl, hB, Below.refl _ _, rfl, .inl rfl⟩
    | 18, _ =>
     have e17 : (fr DL1 A t).eval (.tmp 17) = .bool true := (fr_eval _ _ _ 17 rfl (by rw [asz]; decide)).trans (hp 9 (pre_mem (by kernel_rfl)))
     refine op_skip rfl (wanted_false rfl rfl e17 rfl) ?_
     exact ⟨_, 0, rfl, hB, Below.refl _ _, rfl, .inl rfl⟩
    | n + 19, hi => exact absurd hi (by omega)
   ·
    intro t ρ wx hB hF hne
    have e17 : (fr DL1 A t).eval (.tmp 17) = .bool true := (fr_eval _ _ _ 17 rfl (by rw [asz]; decide)).trans (hF 9 (by decide))
    have e26 : (fr DL1 A t).eval (.tmp 26) = undef := (fr_eval _ _ _ 26 rfl (by rw [asz]; decide)).trans (hF 18 (by decide))
    clear hne
    refine op_wp rfl rfl ?_
    have ec : ∀ v, (fr DL1 A t).eval (.const v) = v := fun _ => rfl
    generalize hE : (fr DL1 A t).eval = ev at ec e17 e26
    unfold Oper.wp
    rw [hE]

    go_simp
    refine hMet _ _ (Met.intro (hRJ _ _ ⟨t 8, t 9, t 10, t 11, t 12, t 13, t 14, t 15, t 16, t 17, t 18, t 19, t 20, t 21, t 22, t 23, t 24, t 25, t 26, _, ⟨rfl, hB⟩, ?_⟩))
    rw [← hA]; rfl
  case rest =>
   obtain ⟨xc, hxc⟩ : ∃ xc, xc = wc := ⟨_, rfl⟩
   subst hxc
   obtain ⟨rfl, bc⟩ := hcut
   have BC := hid (B1.out.trans (bc.mono B1.out.size))
   go_wp2
   exact bodyPost_ret (v := .tuple #[.slice (some ⟨xc.heap.size, 0, none⟩) 0 0, .bool false]) (res2 rfl (is_tmp rfl) (is_tmp rfl)) rfl (ans_no BC.out)
 | true =>
  cases h1 : canTag role D with
  | false =>
   have HF : Hid (unsealB lk role D = false) := by show unsealB _ _ _ = false; unfold unsealB; rw [h1]; simp
   obtain rfl : vv = false := by rw [← HV.out]; exact HF.out
   obtain rfl : R = [] := by rw [← HRR.out]; exact unsealL_no HF.out
   go_cut [27] from 8 to 26 (fun sv wx => sv = .bool true ∧ Below x1.heap.size x1 wx)
   case first =>
    rename_i J K' hRJ hMet
    generalize hA : Act.mk _ _ = A
    have a0' : A.eval (.tmp 0) = .slice k.a k.n k.c := by rw [← hA]; rfl
    have a1' : A.eval (.tmp 1) = .int .i64 role := by rw [← hA]; rfl
    have a5' : A.eval (.tmp 5) = .pointer (some ⟨ga, 0, none⟩) := by rw [← hA]; rfl
    have asz : A.tmps.size = 36 := by rw [← hA]; rfl
    have hKA : ∀ wx, Below x1.heap.size x1 wx → Blk wx ga 27 [.int .i64 D.kind, .int .i64 D.id, .slice S.cn.a S.cn.n S.cn.c, .slice S.sn.a S.sn.n S.sn.c, .int .i64 D.tick, .slice S.cookie.a S.cookie.n S.cookie.c, .slice S.proof.a S.proof.n S.proof.c, .int .i64 D.epoch, .int .i64 D.seq, .slice S.body.a S.body.n S.body.c, .slice S.tag.a S.tag.n S.tag.c] := fun wx hb => KA1.out.later hb
    have hRS : ∀ wx, Below x1.heap.size x1 wx → FrRd wx S D := fun wx hb => HR.out.later (B1.out.trans (hb.mono B1.out.size))
    have hKK : ∀ wx, Below x1.heap.size x1 wx → SRd wx k lk := fun wx hb => HK.out.later (B1.out.trans (hb.mono B1.out.size))
    have hTT : ∀ wx, Below x1.heap.size x1 wx → Tab wx := fun wx hb => HT.out.later (B1.out.trans (hb.mono B1.out.size))
    refine region_each (by kernel_rfl) DL1 19 (fun i => DL1.getD i 0) (fun _ => 0)
     (fun i gB v wx => match i with
      | 0 => v = .slice k.a k.n k.c
      | 1 => v = .bool true
      | 2 => v = .bool false
      | 3 => v = .bool false
      | 4 => v = .int .i64 role
      | 5 => v = .agg #[.int .i64 D.kind, .int .i64 D.id, .slice S.cn.a S.cn.n S.cn.c, .slice S.sn.a S.sn.n S.sn.c, .int .i64 D.tick, .slice S.cookie.a S.cookie.n S.cookie.c, .slice S.proof.a S.proof.n S.proof.c, .int .i64 D.epoch, .int .i64 D.seq, .slice S.body.a S.body.n S.body.c, .slice S.tag.a S.tag.n S.tag.c]
      | 6 => v = .bool false
      | 7 => v = .bool true
      | 8 => v = .bool true
      | 9 => v = .bool true
      | 10 => v = undef
      | 11 => v = undef
      | 12 => v = undef
      | 13 => v = undef
      | 14 => v = undef
      | 15 => v = undef
      | 16 => v = undef
      | 17 => v = undef
      | 18 => v = undef
      | _ => False) (fun wx => Below x1.heap.size x1 wx) (by kernel_rfl) (Below.refl _ _).drew ?_ ?_ ?_
    ·
     intro i gB v wx wy hi hF hb _
     match i, hi with
     | 0, _ => exact hF
     | 1, _ => exact hF
     | 2, _ => exact hF
     | 3, _ => exact hF
     | 4, _ => exact hF
     | 5, _ => exact hF
     | 6, _ => exact hF
     | 7, _ => exact hF
     | 8, _ => exact hF
     | 9, _ => exact hF
     | 10, _ => exact hF
     | 11, _ => exact hF
     | 12, _ => exact hF
     | 13, _ => exact hF
     | 14, _ => exact hF
     | 15, _ => exact hF
     | 16, _ => exact hF
     | 17, _ => exact hF
     | 18, _ => exact hF
     | n + 19, hi => exact absurd hi (by omega)
    ·
     intro i hi t ρ wx hB hp hd
     match i, hi with
     | 0, _ =>
      have e0 : (fr DL1 A t).eval (.tmp 0) = .slice k.a k.n k.c := (fr_eval_old _ _ _ 0 rfl).trans a0'
      refine op_run (v := .slice k.a k.n k.c) (w' := wx) rfl rfl ?_ ?_
      ·
       clear hp hd; have ec : ∀ v, (fr DL1 A t).eval (.const v) = v := fun _ => rfl; generalize (fr DL1 A t).eval = ev at ec e0 ⊢; go_simp
      ·
       exact ⟨_, 0, rfl, hB, Below.refl _ _, rfl, .inl rfl⟩
     | 1, _ =>
      have e8 : (fr DL1 A t).eval (.tmp 8) = .slice k.a k.n k.c := (fr_eval _ _ _ 8 rfl (by rw [asz]; decide)).trans (hp 0 (pre_mem (by kernel_rfl)))
      refine op_call (f := 66) (args := #[.slice k.a k.n k.c]) rfl rfl ?_ (isKeyV k.a k.n k.c true wx h0) ?_
      ·
       have ef : (fr DL1 A t).eval (.func 66) = .func (.func 66) #[] #[] := rfl; clear hp hd; have ec : ∀ v, (fr DL1 A t).eval (.const v) = v := fun _ => rfl; generalize (fr DL1 A t).eval = ev at ec e8 ef ⊢; go_simp
      ·
       rintro e wy ⟨rfl, rfl⟩
       exact ⟨_, rfl, _, 0, rfl, hB.trans ((Below.refl _ _).mono hB.size), (Below.refl _ _), rfl, .inl rfl⟩
     | 2, _ =>
      have hv1 := hp 1 (pre_mem (by kernel_rfl))
      have e9 : (fr DL1 A t).eval (.tmp 9) = .bool true := (fr_eval _ _ _ 9 rfl (by rw [asz]; decide)).trans hv1
      refine op_run (v := .bool false) (w' := wx) rfl rfl ?_ ?_
      ·
       clear hp hd; have ec : ∀ v, (fr DL1 A t).eval (.const v) = v := fun _ => rfl; generalize (fr DL1 A t).eval = ev at ec e9 ⊢; go_simp
      ·
       exact ⟨_, 0, rfl, hB, Below.refl _ _, rfl, .inl rfl⟩
     | 3, _ =>
      have e10 : (fr DL1 A t).eval (.tmp 10) = .bool false := (fr_eval _ _ _ 10 rfl (by rw [asz]; decide)).trans (hp 2 (pre_mem (by kernel_rfl)))
      refine op_run (v := .bool false) (w' := wx) rfl rfl ?_ ?_
      ·
       clear hp hd; have ec : ∀ v, (fr DL1 A t).eval (.const v) = v := fun _ => rfl; generalize (fr DL1 A t).eval = ev at ec e10 ⊢; go_simp
      ·
       exact ⟨_, 0, rfl, hB, Below.refl _ _, rfl, .inl rfl⟩
     | 4, _ =>
      have e1 : (fr DL1 A t).eval (.tmp 1) = .int .i64 role := (fr_eval_old _ _ _ 1 rfl).trans a1'
      have e11 : (fr DL1 A t).eval (.tmp 11) = .bool false := (fr_eval _ _ _ 11 rfl (by rw [asz]; decide)).trans (hp 3 (pre_mem (by kernel_rfl)))
      refine op_run_g (v := .int .i64 role) (w' := wx) rfl (wanted_true rfl rfl e11) ?_ ?_
      ·
       clear hp hd; have ec : ∀ v, (fr DL1 A t).eval (.const v) = v := fun _ => rfl; generalize (fr DL1 A t).eval = ev at ec e1 e11 ⊢; go_simp
      ·
       exact ⟨_, 0, rfl, hB, Below.refl _ _, rfl, .inl rfl⟩
     | 5, _ =>
      have e5 : (fr DL1 A t).eval (.tmp 5) = .pointer (some ⟨ga, 0, none⟩) := (fr_eval_old _ _ _ 5 rfl).trans a5'
      have e11 : (fr DL1 A t).eval (.tmp 11) = .bool false := (fr_eval _ _ _ 11 rfl (by rw [asz]; decide)).trans (hp 3 (pre_mem (by kernel_rfl)))
      obtain ⟨hc0, hc1, hc2, hc3, hc4, hc5, hc6, hc7, hc8, hc9, hc10⟩ := cells11 (hKA wx hB)
      refine op_run_g (v := .agg #[.int .i64 D.kind, .int .i64 D.id, .slice S.cn.a S.cn.n S.cn.c, .slice S.sn.a S.sn.n S.sn.c, .int .i64 D.tick, .slice S.cookie.a S.cookie.n S.cookie.c, .slice S.proof.a S.proof.n S.proof.c, .int .i64 D.epoch, .int .i64 D.seq, .slice S.body.a S.body.n S.body.c, .slice S.tag.a S.tag.n S.tag.c]) (w' := wx) rfl (wanted_true rfl rfl e11) ?_ ?_
      ·
       clear hp hd; have ec : ∀ v, (fr DL1 A t).eval (.const v) = v := fun _ => rfl; generalize (fr DL1 A t).eval = ev at ec e5 e11 ⊢; go_simp
      ·
       exact ⟨_, 0, rfl, hB, Below.refl _ _, rfl, .inl rfl⟩
     | 6, _ =>
      have e12 : (fr DL1 A t).eval (.tmp 12) = .int .i64 role := (fr_eval _ _ _ 12 rfl (by rw [asz]; decide)).trans (hp 4 (pre_mem (by kernel_rfl)))
      have e13 : (fr DL1 A t).eval (.tmp 13) = .agg #[.int .i64 D.kind, .int .i64 D.id, .slice S.cn.a S.cn.n S.cn.c, .slice S.sn.a S.sn.n S.sn.c, .int .i64 D.tick, .slice S.cookie.a S.cookie.n S.cookie.c, .slice S.proof.a S.proof.n S.proof.c, .int .i64 D.epoch, .int .i64 D.seq, .slice S.body.a S.body.n S.body.c, .slice S.tag.a S.tag.n S.tag.c] := (fr_eval _ _ _ 13 rfl (by rw [asz]; decide)).trans (hp 5 (pre_mem (by kernel_rfl)))
      have e11 : (fr DL1 A t).eval (.tmp 11) = .bool false := (fr_eval _ _ _ 11 rfl (by rw [asz]; decide)).trans (hp 3 (pre_mem (by kernel_rfl)))
      refine op_call_g (f := 67) (args := #[.int .i64 role, .agg #[.int .i64 D.kind, .int .i64 D.id, .slice S.cn.a S.cn.n S.cn.c, .slice S.sn.a S.sn.n S.sn.c, .int .i64 D.tick, .slice S.cookie.a S.cookie.n S.cookie.c, .slice S.proof.a S.proof.n S.proof.c, .int .i64 D.epoch, .int .i64 D.seq, .slice S.body.a S.body.n S.body.c, .slice S.tag.a S.tag.n S.tag.c]]) rfl (wanted_true rfl rfl e11) ?_ (canTagV role S D false wx (hRS wx hB) h1) ?_
      ·
       have ef : (fr DL1 A t).eval (.func 67) = .func (.func 67) #[] #[] := rfl; clear hp hd; have ec : ∀ v, (fr DL1 A t).eval (.const v) = v := fun _ => rfl; generalize (fr DL1 A t).eval = ev at ec e12 e13 e11 ef ⊢; go_simp
      ·
       rintro e wy ⟨rfl, b1⟩
       exact ⟨_, rfl, _, 0, rfl, hB.trans (b1.mono hB.size), b1, rfl, .inl rfl⟩
     | 7, _ =>
      have hv6 := hp 6 (pre_mem (by kernel_rfl))
      have e14 : (fr DL1 A t).eval (.tmp 14) = .bool false := (fr_eval _ _ _ 14 rfl (by rw [asz]; decide)).trans hv6
      have e11 : (fr DL1 A t).eval (.tmp 11) = .bool false := (fr_eval _ _ _ 11 rfl (by rw [asz]; decide)).trans (hp 3 (pre_mem (by kernel_rfl)))
      refine op_run_g (v := .bool true) (w' := wx) rfl (wanted_true rfl rfl e11) ?_ ?_
      ·
       clear hp hd; have ec : ∀ v, (fr DL1 A t).eval (.const v) = v := fun _ => rfl; generalize (fr DL1 A t).eval = ev at ec e14 e11 ⊢; go_simp
      ·
       exact ⟨_, 0, rfl, hB, Below.refl _ _, rfl, .inl rfl⟩
     | 8, _ =>
      have e11 : (fr DL1 A t).eval (.tmp 11) = .bool false := (fr_eval _ _ _ 11 rfl (by rw [asz]; decide)).trans (hp 3 (pre_mem (by kernel_rfl)))
      have e15 : (fr DL1 A t).eval (.tmp 15) = .bool true := (fr_eval _ _ _ 15 rfl (by rw [asz]; decide)).trans (hp 7 (pre_mem (by kernel_rfl)))
      refine op_run (v := .bool true) (w' := wx) rfl rfl ?_ ?_
      ·
       clear hp hd; have ec : ∀ v, (fr DL1 A t).eval (.const v) = v := fun _ => rfl; generalize (fr DL1 A t).eval = ev at ec e11 e15 ⊢; go_simp
      ·
       exact ⟨_, 0, rfl, hB, Below.refl _ _, rfl, .inl rfl⟩
     | 9, _ =>
      have e16 : (fr DL1 A t).eval (.tmp 16) = .bool true := (fr_eval _ _ _ 16 rfl (by rw [asz]; decide)).trans (hp 8 (pre_mem (by kernel_rfl)))
      refine op_run (v := .bool true) (w' := wx) rfl rfl ?_ ?_
      ·
       clear hp hd; have ec : ∀ v, (fr DL1 A t).eval (.const v) = v := fun _ => rfl; generalize (fr DL1 A t).eval = ev at ec e16 ⊢; go_simp
      ·
       exact ⟨_, 0, rfl, hB, Below.refl _ _, rfl, .inl rfl⟩
     | 10, _ =>
      have e17 : (fr DL1 A t).eval (.tmp 17) = .bool true := (fr_eval _ _ _ 17 rfl (by rw [asz]; decide)).trans (hp 9 (pre_mem (by kernel_rfl)))
      refine op_skip rfl (wanted_false rfl rfl e17 rfl) ?_
      exact ⟨_, 0, rfl, hB, Below.refl _ _, rfl, .inl rfl⟩
     | 11, _ =>
      have e17 : (fr DL1 A t).eval (.tmp 17) = .bool true := (fr_eval _ _ _ 17 rfl (by rw [asz]; decide)).trans (hp 9 (pre_mem (by kernel_rfl)))
      refine op_skip rfl (wanted_false rfl rfl e17 rfl) ?_
      exact ⟨_, 0, rfl, hB, Below.refl _ _, rfl, .inl rfl⟩
     | 12, _ =>
      have e17 : (fr DL1 A t).eval (.tmp 17) = .bool true := (fr_eval _ _ _ 17 rfl (by rw [asz]; decide)).trans (hp 9 (pre_mem (by kernel_rfl)))
      refine op_skip rfl (wanted_false rfl rfl e17 rfl) ?_
      exact ⟨_, 0, rfl, hB, Below.refl _ _, rfl, .inl rfl⟩
     | 13, _ =>
      have e17 : (fr DL1 A t).eval (.tmp 17) = .bool true := (fr_eval _ _ _ 17 rfl (by rw [asz]; decide)).trans (hp 9 (pre_mem (by kernel_rfl)))
      refine op_skip rfl (wanted_false rfl rfl e17 rfl) ?_
      exact ⟨_, 0, rfl, hB, Below.refl _ _, rfl, .inl rfl⟩
     | 14, _ =>
      have e17 : (fr DL1 A t).eval (.tmp 17) = .bool true := (fr_eval _ _ _ 17 rfl (by rw [asz]; decide)).trans (hp 9 (pre_mem (by kernel_rfl)))
      refine op_skip rfl (wanted_false rfl rfl e17 rfl) ?_
      exact ⟨_, 0, rfl, hB, Below.refl _ _, rfl, .inl rfl⟩
     | 15, _ =>
      have e17 : (fr DL1 A t).eval (.tmp 17) = .bool true := (fr_eval _ _ _ 17 rfl (by rw [asz]; decide)).trans (hp 9 (pre_mem (by kernel_rfl)))
      refine op_skip rfl (wanted_false rfl rfl e17 rfl) ?_
      exact ⟨_, 0, rfl, hB, Below.refl _ _, rfl, .inl rfl⟩
     | 16, _ =>
      have e17 : (fr DL1 A t).eval (.tmp 17) = .bool true := (fr_eval _ _ _ 17 rfl (by rw [asz]; decide)).trans (hp 9 (pre_mem (by kernel_rfl)))
      refine op_skip rfl (wanted_false rfl rfl e17 rfl) ?_
      exact ⟨_, 0, rfl, hB, Below.refl _ _, rfl, .inl rfl⟩
     | 17, _ =>
      have e17 : (fr DL1 A t).eval (.tmp 17) = .bool true := (fr_eval _ _ _ 17 rfl (by rw [asz]; decide)).trans (hp 9 (pre_mem (by kernel_rfl)))
      refine op_skip rfl (wanted_false rfl rfl e17 rfl) ?_
      exact ⟨_, 0, rfl, hB, Below.refl _ _, rfl, .inl rfl⟩
     | 18, _ =>
      have e17 : (fr DL1 A t).eval (.tmp 17) = .bool true := (fr_eval _ _ _ 17 rfl (by rw [asz]; decide)).trans (hp 9 (pre_mem (by kernel_rfl)))
      refine op_skip rfl (wanted_false rfl rfl e17 rfl) ?_
      exact ⟨_, 0, rfl, hB, Below.refl _ _, rfl, .inl rfl⟩
     | n + 19, hi => exact absurd hi (by omega)
    ·
     intro t ρ wx hB hF hne
     have e17 : (fr DL1 A t).eval (.tmp 17) = .bool true := (fr_eval _ _ _ 17 rfl (by rw [asz]; decide)).trans (hF 9 (by decide))
     have e26 : (fr DL1 A t).eval (.tmp 26) = undef := (fr_eval _ _ _ 26 rfl (by rw [asz]; decide)).trans (hF 18 (by decide))
     clear hne
     refine op_wp rfl rfl ?_
     have ec : ∀ v, (fr DL1 A t).eval (.const v) = v := fun _ => rfl
     generalize hE : (fr DL1 A t).eval = ev at ec e17 e26
     unfold Oper.wp
     rw [hE]

     go_simp
     refine hMet _ _ (Met.intro (hRJ _ _ ⟨t 8, t 9, t 10, t 11, t 12, t 13, t 14, t 15, t 16, t 17, t 18, t 19, t 20, t 21, t 22, t 23, t 24, t 25, t 26, _, ⟨rfl, hB⟩, ?_⟩))
     rw [← hA]; rfl
   case rest =>
    obtain ⟨xc, hxc⟩ : ∃ xc, xc = wc := ⟨_, rfl⟩
    subst hxc
    obtain ⟨rfl, bc⟩ := hcut
    have BC := hid (B1.out.trans (bc.mono B1.out.size))
    go_wp2
    exact bodyPost_ret (v := .tuple #[.slice (some ⟨xc.heap.size, 0, none⟩) 0 0, .bool false]) (res2 rfl (is_tmp rfl) (is_tmp rfl)) rfl (ans_no BC.out)
  | true =>
   have HC : Hid (canTag role D = true) := h1
   have HTL : Hid (D.tag.length = 16) := ((sealed_parts (canTag_parts h1).2.1).1 (canTag_parts h1).2.2).2.2.2.2.2.2.2.2.2
   have HSV : Hid (sameI D.tag (tagI lk (tagIn role D)) = vv) := by have q := HLK.out; show _ = _; rw [← HV.out, same_dec HR.out.tag.bytes (tagI_bytes _ _) HTL.out]; unfold unsealB; rw [h1, ← q, h0]; rfl
   go_cut [27] from 8 to 26 (fun sv wx => sv = .bool (!vv) ∧ Below x1.heap.size x1 wx)
   case first =>
    rename_i J K' hRJ hMet
    generalize hA : Act.mk _ _ = A
    have a0' : A.eval (.tmp 0) = .slice k.a k.n k.c := by rw [← hA]; rfl
    have a1' : A.eval (.tmp 1) = .int .i64 role := by rw [← hA]; rfl
    have a5' : A.eval (.tmp 5) = .pointer (some ⟨ga, 0, none⟩) := by rw [← hA]; rfl
    have asz : A.tmps.size = 36 := by rw [← hA]; rfl
    have hKA : ∀ wx, Below x1.heap.size x1 wx → Blk wx ga 27 [.int .i64 D.kind, .int .i64 D.id, .slice S.cn.a S.cn.n S.cn.c, .slice S.sn.a S.sn.n S.sn.c, .int .i64 D.tick, .slice S.cookie.a S.cookie.n S.cookie.c, .slice S.proof.a S.proof.n S.proof.c, .int .i64 D.epoch, .int .i64 D.seq, .slice S.body.a S.body.n S.body.c, .slice S.tag.a S.tag.n S.tag.c] := fun wx hb => KA1.out.later hb
    have hRS : ∀ wx, Below x1.heap.size x1 wx → FrRd wx S D := fun wx hb => HR.out.later (B1.out.trans (hb.mono B1.out.size))
    have hKK : ∀ wx, Below x1.heap.size x1 wx → SRd wx k lk := fun wx hb => HK.out.later (B1.out.trans (hb.mono B1.out.size))
    have hTT : ∀ wx, Below x1.heap.size x1 wx → Tab wx := fun wx hb => HT.out.later (B1.out.trans (hb.mono B1.out.size))
    refine region_each (by kernel_rfl) DL1 19 (fun i => DL1.getD i 0) (fun _ => 0)
     (fun i gB v wx => match i with
      | 0 => v = .slice k.a k.n k.c
      | 1 => v = .bool true
      | 2 => v = .bool false
      | 3 => v = .bool false
      | 4 => v = .int .i64 role
      | 5 => v = .agg #[.int .i64 D.kind, .int .i64 D.id, .slice S.cn.a S.cn.n S.cn.c, .slice S.sn.a S.sn.n S.sn.c, .int .i64 D.tick, .slice S.cookie.a S.cookie.n S.cookie.c, .slice S.proof.a S.proof.n S.proof.c, .int .i64 D.epoch, .int .i64 D.seq, .slice S.body.a S.body.n S.body.c, .slice S.tag.a S.tag.n S.tag.c]
      | 6 => v = .bool true
      | 7 => v = .bool false
      | 8 => v = .bool false
      | 9 => v = .bool false
      | 10 => v = .pointer (some ⟨ga, 10, none⟩)
      | 11 => v = .slice S.tag.a S.tag.n S.tag.c
      | 12 => v = .slice k.a k.n k.c
      | 13 => v = .int .i64 role
      | 14 => v = .agg #[.int .i64 D.kind, .int .i64 D.id, .slice S.cn.a S.cn.n S.cn.c, .slice S.sn.a S.sn.n S.sn.c, .int .i64 D.tick, .slice S.cookie.a S.cookie.n S.cookie.c, .slice S.proof.a S.proof.n S.proof.c, .int .i64 D.epoch, .int .i64 D.seq, .slice S.body.a S.body.n S.body.c, .slice S.tag.a S.tag.n S.tag.c]
      | 15 => ∃ s2, v = .slice s2.a s2.n s2.c ∧ SRd wx s2 (tagIn role D)
      | 16 => ∃ s3, v = .slice s3.a s3.n s3.c ∧ SRd wx s3 (tagI lk (tagIn role D))
      | 17 => v = .bool vv
      | 18 => v = .bool (!vv)
      | _ => False) (fun wx => Below x1.heap.size x1 wx) (by kernel_rfl) (Below.refl _ _).drew ?_ ?_ ?_
    ·
     intro i gB v wx wy hi hF hb _
     match i, hi with
     | 0, _ => exact hF
     | 1, _ => exact hF
     | 2, _ => exact hF
     | 3, _ => exact hF
     | 4, _ => exact hF
     | 5, _ => exact hF
     | 6, _ => exact hF
     | 7, _ => exact hF
     | 8, _ => exact hF
     | 9, _ => exact hF
     | 10, _ => exact hF
     | 11, _ => exact hF
     | 12, _ => exact hF
     | 13, _ => exact hF
     | 14, _ => exact hF
     | 15, _ => obtain ⟨s2, h0, h1⟩ := hF; exact ⟨s2, h0, h1.later hb⟩
     | 16, _ => obtain ⟨s3, h0, h1⟩ := hF; exact ⟨s3, h0, h1.later hb⟩
     | 17, _ => exact hF
     | 18, _ => exact hF
     | n + 19, hi => exact absurd hi (by omega)
    ·
     intro i hi t ρ wx hB hp hd
     match i, hi with
     | 0, _ =>
      have e0 : (fr DL1 A t).eval (.tmp 0) = .slice k.a k.n k.c := (fr_eval_old _ _ _ 0 rfl).trans a0'
      refine op_run (v := .slice k.a k.n k.c) (w' := wx) rfl rfl ?_ ?_
      ·
       clear hp hd; have ec : ∀ v, (fr DL1 A t).eval (.const v) = v := fun _ => rfl; generalize (fr DL1 A t).eval = ev at ec e0 ⊢; go_simp
      ·
       exact ⟨_, 0, rfl, hB, Below.refl _ _, rfl, .inl rfl⟩
     | 1, _ =>
      have e8 : (fr DL1 A t).eval (.tmp 8) = .slice k.a k.n k.c := (fr_eval _ _ _ 8 rfl (by rw [asz]; decide)).trans (hp 0 (pre_mem (by kernel_rfl)))
      refine op_call (f := 66) (args := #[.slice k.a k.n k.c]) rfl rfl ?_ (isKeyV k.a k.n k.c true wx h0) ?_
      ·
       have ef : (fr DL1 A t).eval (.func 66) = .func (.func 66) #[] #[] := rfl; clear hp hd; have ec : ∀ v, (fr DL1 A t).eval (.const v) = v := fun _ => rfl; generalize (fr DL1 A t).eval = ev at ec e8 ef ⊢; go_simp
      ·
       rintro e wy ⟨rfl, rfl⟩
       exact ⟨_, rfl, _, 0, rfl, hB.trans ((Below.refl _ _).mono hB.size), (Below.refl _ _), rfl, .inl rfl⟩
     | 2, _ =>
      have hv1 := hp 1 (pre_mem (by kernel_rfl))
      have e9 : (fr DL1 A t).eval (.tmp 9) = .bool true := (fr_eval _ _ _ 9 rfl (by rw [asz]; decide)).trans hv1
      refine op_run (v := .bool false) (w' := wx) rfl rfl ?_ ?_
      ·
       clear hp hd; have ec : ∀ v, (fr DL1 A t).eval (.const v) = v := fun _ => rfl; generalize (fr DL1 A t).eval = ev at ec e9 ⊢; go_simp
      ·
       exact ⟨_, 0, rfl, hB, Below.refl _ _, rfl, .inl rfl⟩
     | 3, _ =>
      have e10 : (fr DL1 A t).eval (.tmp 10) = .bool false := (fr_eval _ _ _ 10 rfl (by rw [asz]; decide)).trans (hp 2 (pre_mem (by kernel_rfl)))
      refine op_run (v := .bool false) (w' := wx) rfl rfl ?_ ?_
      ·
       clear hp hd; have ec : ∀ v, (fr DL1 A t).eval (.const v) = v := fun _ => rfl; generalize (fr DL1 A t).eval = ev at ec e10 ⊢; go_simp
      ·
       exact ⟨_, 0, rfl, hB, Below.refl _ _, rfl, .inl rfl⟩
     | 4, _ =>
      have e1 : (fr DL1 A t).eval (.tmp 1) = .int .i64 role := (fr_eval_old _ _ _ 1 rfl).trans a1'
      have e11 : (fr DL1 A t).eval (.tmp 11) = .bool false := (fr_eval _ _ _ 11 rfl (by rw [asz]; decide)).trans (hp 3 (pre_mem (by kernel_rfl)))
      refine op_run_g (v := .int .i64 role) (w' := wx) rfl (wanted_true rfl rfl e11) ?_ ?_
      ·
       clear hp hd; have ec : ∀ v, (fr DL1 A t).eval (.const v) = v := fun _ => rfl; generalize (fr DL1 A t).eval = ev at ec e1 e11 ⊢; go_simp
      ·
       exact ⟨_, 0, rfl, hB, Below.refl _ _, rfl, .inl rfl⟩
     | 5, _ =>
      have e5 : (fr DL1 A t).eval (.tmp 5) = .pointer (some ⟨ga, 0, none⟩) := (fr_eval_old _ _ _ 5 rfl).trans a5'
      have e11 : (fr DL1 A t).eval (.tmp 11) = .bool false := (fr_eval _ _ _ 11 rfl (by rw [asz]; decide)).trans (hp 3 (pre_mem (by kernel_rfl)))
      obtain ⟨hc0, hc1, hc2, hc3, hc4, hc5, hc6, hc7, hc8, hc9, hc10⟩ := cells11 (hKA wx hB)
      refine op_run_g (v := .agg #[.int .i64 D.kind, .int .i64 D.id, .slice S.cn.a S.cn.n S.cn.c, .slice S.sn.a S.sn.n S.sn.c, .int .i64 D.tick, .slice S.cookie.a S.cookie.n S.cookie.c, .slice S.proof.a S.proof.n S.proof.c, .int .i64 D.epoch, .int .i64 D.seq, .slice S.body.a S.body.n S.body.c, .slice S.tag.a S.tag.n S.tag.c]) (w' := wx) rfl (wanted_true rfl rfl e11) ?_ ?_
      ·
       clear hp hd; have ec : ∀ v, (fr DL1 A t).eval (.const v) = v := fun _ => rfl; generalize (fr DL1 A t).eval = ev at ec e5 e11 ⊢; go_simp
      ·
       exact ⟨_, 0, rfl, hB, Below.refl _ _, rfl, .inl rfl⟩
     | 6, _ =>
      have e12 : (fr DL1 A t).eval (.tmp 12) = .int .i64 role := (fr_eval _ _ _ 12 rfl (by rw [asz]; decide)).trans (hp 4 (pre_mem (by kernel_rfl)))
      have e13 : (fr DL1 A t).eval (.tmp 13) = .agg #[.int .i64 D.kind, .int .i64 D.id, .slice S.cn.a S.cn.n S.cn.c, .slice S.sn.a S.sn.n S.sn.c, .int .i64 D.tick, .slice S.cookie.a S.cookie.n S.cookie.c, .slice S.proof.a S.proof.n S.proof.c, .int .i64 D.epoch, .int .i64 D.seq, .slice S.body.a S.body.n S.body.c, .slice S.tag.a S.tag.n S.tag.c] := (fr_eval _ _ _ 13 rfl (by rw [asz]; decide)).trans (hp 5 (pre_mem (by kernel_rfl)))
      have e11 : (fr DL1 A t).eval (.tmp 11) = .bool false := (fr_eval _ _ _ 11 rfl (by rw [asz]; decide)).trans (hp 3 (pre_mem (by kernel_rfl)))
      refine op_call_g (f := 67) (args := #[.int .i64 role, .agg #[.int .i64 D.kind, .int .i64 D.id, .slice S.cn.a S.cn.n S.cn.c, .slice S.sn.a S.sn.n S.sn.c, .int .i64 D.tick, .slice S.cookie.a S.cookie.n S.cookie.c, .slice S.proof.a S.proof.n S.proof.c, .int .i64 D.epoch, .int .i64 D.seq, .slice S.body.a S.body.n S.body.c, .slice S.tag.a S.tag.n S.tag.c]]) rfl (wanted_true rfl rfl e11) ?_ (canTagV role S D true wx (hRS wx hB) h1) ?_
      ·
       have ef : (fr DL1 A t).eval (.func 67) = .func (.func 67) #[] #[] := rfl; clear hp hd; have ec : ∀ v, (fr DL1 A t).eval (.const v) = v := fun _ => rfl; generalize (fr DL1 A t).eval = ev at ec e12 e13 e11 ef ⊢; go_simp
      ·
       rintro e wy ⟨rfl, b1⟩
       exact ⟨_, rfl, _, 0, rfl, hB.trans (b1.mono hB.size), b1, rfl, .inl rfl⟩
     | 7, _ =>
      have hv6 := hp 6 (pre_mem (by kernel_rfl))
      have e14 : (fr DL1 A t).eval (.tmp 14) = .bool true := (fr_eval _ _ _ 14 rfl (by rw [asz]; decide)).trans hv6
      have e11 : (fr DL1 A t).eval (.tmp 11) = .bool false := (fr_eval _ _ _ 11 rfl (by rw [asz]; decide)).trans (hp 3 (pre_mem (by kernel_rfl)))
      refine op_run_g (v := .bool false) (w' := wx) rfl (wanted_true rfl rfl e11) ?_ ?_
      ·
       clear hp hd; have ec : ∀ v, (fr DL1 A t).eval (.const v) = v := fun _ => rfl; generalize (fr DL1 A t).eval = ev at ec e14 e11 ⊢; go_simp
      ·
       exact ⟨_, 0, rfl, hB, Below.refl _ _, rfl, .inl rfl⟩
     | 8, _ =>
      have e11 : (fr DL1 A t).eval (.tmp 11) = .bool false := (fr_eval _ _ _ 11 rfl (by rw [asz]; decide)).trans (hp 3 (pre_mem (by kernel_rfl)))
      have e15 : (fr DL1 A t).eval (.tmp 15) = .bool false := (fr_eval _ _ _ 15 rfl (by rw [asz]; decide)).trans (hp 7 (pre_mem (by kernel_rfl)))
      refine op_run (v := .bool false) (w' := wx) rfl rfl ?_ ?_
      ·
       clear hp hd; have ec : ∀ v, (fr DL1 A t).eval (.const v) = v := fun _ => rfl; generalize (fr DL1 A t).eval = ev at ec e11 e15 ⊢; go_simp
      ·
       exact ⟨_, 0, rfl, hB, Below.refl _ _, rfl, .inl rfl⟩
     | 9, _ =>
      have e16 : (fr DL1 A t).eval (.tmp 16) = .bool false := (fr_eval _ _ _ 16 rfl (by rw [asz]; decide)).trans (hp 8 (pre_mem (by kernel_rfl)))
      refine op_run (v := .bool false) (w' := wx) rfl rfl ?_ ?_
      ·
       clear hp hd; have ec : ∀ v, (fr DL1 A t).eval (.const v) = v := fun _ => rfl; generalize (fr DL1 A t).eval = ev at ec e16 ⊢; go_simp
      ·
       exact ⟨_, 0, rfl, hB, Below.refl _ _, rfl, .inl rfl⟩
     | 10, _ =>
      have e5 : (fr DL1 A t).eval (.tmp 5) = .pointer (some ⟨ga, 0, none⟩) := (fr_eval_old _ _ _ 5 rfl).trans a5'
      have e17 : (fr DL1 A t).eval (.tmp 17) = .bool false := (fr_eval _ _ _ 17 rfl (by rw [asz]; decide)).trans (hp 9 (pre_mem (by kernel_rfl)))
      refine op_run_g (v := .pointer (some ⟨ga, 10, none⟩)) (w' := wx) rfl (wanted_true rfl rfl e17) ?_ ?_
      ·
       clear hp hd; have ec : ∀ v, (fr DL1 A t).eval (.const v) = v := fun _ => rfl; generalize (fr DL1 A t).eval = ev at ec e5 e17 ⊢; go_simp
      ·
       exact ⟨_, 0, rfl, hB, Below.refl _ _, rfl, .inl rfl⟩
     | 11, _ =>
      have e18 : (fr DL1 A t).eval (.tmp 18) = .pointer (some ⟨ga, 10, none⟩) := (fr_eval _ _ _ 18 rfl (by rw [asz]; decide)).trans (hp 10 (pre_mem (by kernel_rfl)))
      have e17 : (fr DL1 A t).eval (.tmp 17) = .bool false := (fr_eval _ _ _ 17 rfl (by rw [asz]; decide)).trans (hp 9 (pre_mem (by kernel_rfl)))
      obtain ⟨hc0, hc1, hc2, hc3, hc4, hc5, hc6, hc7, hc8, hc9, hc10⟩ := cells11 (hKA wx hB)
      refine op_run_g (v := .slice S.tag.a S.tag.n S.tag.c) (w' := wx) rfl (wanted_true rfl rfl e17) ?_ ?_
      ·
       clear hp hd; have ec : ∀ v, (fr DL1 A t).eval (.const v) = v := fun _ => rfl; generalize (fr DL1 A t).eval = ev at ec e18 e17 ⊢; go_simp
      ·
       exact ⟨_, 0, rfl, hB, Below.refl _ _, rfl, .inl rfl⟩
     | 12, _ =>
      have e0 : (fr DL1 A t).eval (.tmp 0) = .slice k.a k.n k.c := (fr_eval_old _ _ _ 0 rfl).trans a0'
      have e17 : (fr DL1 A t).eval (.tmp 17) = .bool false := (fr_eval _ _ _ 17 rfl (by rw [asz]; decide)).trans (hp 9 (pre_mem (by kernel_rfl)))
      refine op_run_g (v := .slice k.a k.n k.c) (w' := wx) rfl (wanted_true rfl rfl e17) ?_ ?_
      ·
       clear hp hd; have ec : ∀ v, (fr DL1 A t).eval (.const v) = v := fun _ => rfl; generalize (fr DL1 A t).eval = ev at ec e0 e17 ⊢; go_simp
      ·
       exact ⟨_, 0, rfl, hB, Below.refl _ _, rfl, .inl rfl⟩
     | 13, _ =>
      have e1 : (fr DL1 A t).eval (.tmp 1) = .int .i64 role := (fr_eval_old _ _ _ 1 rfl).trans a1'
      have e17 : (fr DL1 A t).eval (.tmp 17) = .bool false := (fr_eval _ _ _ 17 rfl (by rw [asz]; decide)).trans (hp 9 (pre_mem (by kernel_rfl)))
      refine op_run_g (v := .int .i64 role) (w' := wx) rfl (wanted_true rfl rfl e17) ?_ ?_
      ·
       clear hp hd; have ec : ∀ v, (fr DL1 A t).eval (.const v) = v := fun _ => rfl; generalize (fr DL1 A t).eval = ev at ec e1 e17 ⊢; go_simp
      ·
       exact ⟨_, 0, rfl, hB, Below.refl _ _, rfl, .inl rfl⟩
     | 14, _ =>
      have e5 : (fr DL1 A t).eval (.tmp 5) = .pointer (some ⟨ga, 0, none⟩) := (fr_eval_old _ _ _ 5 rfl).trans a5'
      have e17 : (fr DL1 A t).eval (.tmp 17) = .bool false := (fr_eval _ _ _ 17 rfl (by rw [asz]; decide)).trans (hp 9 (pre_mem (by kernel_rfl)))
      obtain ⟨hc0, hc1, hc2, hc3, hc4, hc5, hc6, hc7, hc8, hc9, hc10⟩ := cells11 (hKA wx hB)
      refine op_run_g (v := .agg #[.int .i64 D.kind, .int .i64 D.id, .slice S.cn.a S.cn.n S.cn.c, .slice S.sn.a S.sn.n S.sn.c, .int .i64 D.tick, .slice S.cookie.a S.cookie.n S.cookie.c, .slice S.proof.a S.proof.n S.proof.c, .int .i64 D.epoch, .int .i64 D.seq, .slice S.body.a S.body.n S.body.c, .slice S.tag.a S.tag.n S.tag.c]) (w' := wx) rfl (wanted_true rfl rfl e17) ?_ ?_
      ·
       clear hp hd; have ec : ∀ v, (fr DL1 A t).eval (.const v) = v := fun _ => rfl; generalize (fr DL1 A t).eval = ev at ec e5 e17 ⊢; go_simp
      ·
       exact ⟨_, 0, rfl, hB, Below.refl _ _, rfl, .inl rfl⟩
     | 15, _ =>
      have e21 : (fr DL1 A t).eval (.tmp 21) = .int .i64 role := (fr_eval _ _ _ 21 rfl (by rw [asz]; decide)).trans (hp 13 (pre_mem (by kernel_rfl)))
      have e22 : (fr DL1 A t).eval (.tmp 22) = .agg #[.int .i64 D.kind, .int .i64 D.id, .slice S.cn.a S.cn.n S.cn.c, .slice S.sn.a S.sn.n S.sn.c, .int .i64 D.tick, .slice S.cookie.a S.cookie.n S.cookie.c, .slice S.proof.a S.proof.n S.proof.c, .int .i64 D.epoch, .int .i64 D.seq, .slice S.body.a S.body.n S.body.c, .slice S.tag.a S.tag.n S.tag.c] := (fr_eval _ _ _ 22 rfl (by rw [asz]; decide)).trans (hp 14 (pre_mem (by kernel_rfl)))
      have e17 : (fr DL1 A t).eval (.tmp 17) = .bool false := (fr_eval _ _ _ 17 rfl (by rw [asz]; decide)).trans (hp 9 (pre_mem (by kernel_rfl)))
      refine op_call_g (f := 21) (args := #[.int .i64 role, .agg #[.int .i64 D.kind, .int .i64 D.id, .slice S.cn.a S.cn.n S.cn.c, .slice S.sn.a S.sn.n S.sn.c, .int .i64 D.tick, .slice S.cookie.a S.cookie.n S.cookie.c, .slice S.proof.a S.proof.n S.proof.c, .int .i64 D.epoch, .int .i64 D.seq, .slice S.body.a S.body.n S.body.c, .slice S.tag.a S.tag.n S.tag.c]]) rfl (wanted_true rfl rfl e17) ?_ (inputN role S D wx (hRS wx hB)) ?_
      ·
       have ef : (fr DL1 A t).eval (.func 21) = .func (.func 21) #[] #[] := rfl; clear hp hd; have ec : ∀ v, (fr DL1 A t).eval (.const v) = v := fun _ => rfl; generalize (fr DL1 A t).eval = ev at ec e21 e22 e17 ef ⊢; go_simp
      ·
       rintro e wy ⟨s2, rfl, o2, b1⟩
       exact ⟨_, rfl, _, 0, rfl, hB.trans (b1.mono hB.size), b1, ⟨s2, rfl, o2.rd⟩, .inl rfl⟩
     | 16, _ =>
      have e20 : (fr DL1 A t).eval (.tmp 20) = .slice k.a k.n k.c := (fr_eval _ _ _ 20 rfl (by rw [asz]; decide)).trans (hp 12 (pre_mem (by kernel_rfl)))
      obtain ⟨s215, hv15, q15_0⟩ := hp 15 (pre_mem (by kernel_rfl))
      have e23 : (fr DL1 A t).eval (.tmp 23) = .slice s215.a s215.n s215.c := (fr_eval _ _ _ 23 rfl (by rw [asz]; decide)).trans hv15
      have e17 : (fr DL1 A t).eval (.tmp 17) = .bool false := (fr_eval _ _ _ 17 rfl (by rw [asz]; decide)).trans (hp 9 (pre_mem (by kernel_rfl)))
      refine op_call_g (f := 20) (args := #[.slice k.a k.n k.c, .slice s215.a s215.n s215.c]) rfl (wanted_true rfl rfl e17) ?_ (tagN k s215 lk (tagIn role D) wx (hTT wx hB) (hKK wx hB) q15_0 (by have := HLL.out; omega) (by have := tagIn_le role D; omega)) ?_
      ·
       have ef : (fr DL1 A t).eval (.func 20) = .func (.func 20) #[] #[] := rfl; clear hp hd q15_0; have ec : ∀ v, (fr DL1 A t).eval (.const v) = v := fun _ => rfl; generalize (fr DL1 A t).eval = ev at ec e20 e23 e17 ef ⊢; go_simp
      ·
       rintro e wy ⟨s3, rfl, o3, b1⟩
       exact ⟨_, rfl, _, 0, rfl, hB.trans (b1.mono hB.size), b1, ⟨s3, rfl, o3.rd⟩, .inl rfl⟩
     | 17, _ =>
      have e19 : (fr DL1 A t).eval (.tmp 19) = .slice S.tag.a S.tag.n S.tag.c := (fr_eval _ _ _ 19 rfl (by rw [asz]; decide)).trans (hp 11 (pre_mem (by kernel_rfl)))
      obtain ⟨s316, hv16, q16_0⟩ := hp 16 (pre_mem (by kernel_rfl))
      have e24 : (fr DL1 A t).eval (.tmp 24) = .slice s316.a s316.n s316.c := (fr_eval _ _ _ 24 rfl (by rw [asz]; decide)).trans hv16
      have e17 : (fr DL1 A t).eval (.tmp 17) = .bool false := (fr_eval _ _ _ 17 rfl (by rw [asz]; decide)).trans (hp 9 (pre_mem (by kernel_rfl)))
      refine op_call_g (f := 68) (args := #[.slice S.tag.a S.tag.n S.tag.c, .slice s316.a s316.n s316.c]) rfl (wanted_true rfl rfl e17) ?_ (sameTagV S.tag s316 D.tag (tagI lk (tagIn role D)) vv wx (hRS wx hB).tag q16_0 (by rw [HTL.out]; omega) (by have := tagI_le lk (tagIn role D); omega) HSV.out) ?_
      ·
       have ef : (fr DL1 A t).eval (.func 68) = .func (.func 68) #[] #[] := rfl; clear hp hd q16_0; have ec : ∀ v, (fr DL1 A t).eval (.const v) = v := fun _ => rfl; generalize (fr DL1 A t).eval = ev at ec e19 e24 e17 ef ⊢; go_simp
      ·
       rintro e wy ⟨rfl, b1⟩
       exact ⟨_, rfl, _, 0, rfl, hB.trans (b1.mono hB.size), b1, rfl, .inl rfl⟩
     | 18, _ =>
      have hv17 := hp 17 (pre_mem (by kernel_rfl))
      have e25 : (fr DL1 A t).eval (.tmp 25) = .bool vv := (fr_eval _ _ _ 25 rfl (by rw [asz]; decide)).trans hv17
      have e17 : (fr DL1 A t).eval (.tmp 17) = .bool false := (fr_eval _ _ _ 17 rfl (by rw [asz]; decide)).trans (hp 9 (pre_mem (by kernel_rfl)))
      refine op_run_g (v := .bool (!vv)) (w' := wx) rfl (wanted_true rfl rfl e17) ?_ ?_
      ·
       clear hp hd; have ec : ∀ v, (fr DL1 A t).eval (.const v) = v := fun _ => rfl; generalize (fr DL1 A t).eval = ev at ec e25 e17 ⊢; go_simp
      ·
       exact ⟨_, 0, rfl, hB, Below.refl _ _, rfl, .inl rfl⟩
     | n + 19, hi => exact absurd hi (by omega)
    ·
     intro t ρ wx hB hF hne
     have e17 : (fr DL1 A t).eval (.tmp 17) = .bool false := (fr_eval _ _ _ 17 rfl (by rw [asz]; decide)).trans (hF 9 (by decide))
     have e26 : (fr DL1 A t).eval (.tmp 26) = .bool (!vv) := (fr_eval _ _ _ 26 rfl (by rw [asz]; decide)).trans (hF 18 (by decide))
     clear hne
     refine op_wp rfl rfl ?_
     have ec : ∀ v, (fr DL1 A t).eval (.const v) = v := fun _ => rfl
     generalize hE : (fr DL1 A t).eval = ev at ec e17 e26
     unfold Oper.wp
     rw [hE]

     go_simp
     refine hMet _ _ (Met.intro (hRJ _ _ ⟨t 8, t 9, t 10, t 11, t 12, t 13, t 14, t 15, t 16, t 17, t 18, t 19, t 20, t 21, t 22, t 23, t 24, t 25, t 26, _, ⟨rfl, hB⟩, ?_⟩))
     rw [← hA]; rfl
   case rest =>
    obtain ⟨xc, hxc⟩ : ∃ xc, xc = wc := ⟨_, rfl⟩
    subst hxc
    obtain ⟨rfl, bc⟩ := hcut
    have BC := hid (B1.out.trans (bc.mono B1.out.size))
    cases vv with
    | false =>
     obtain rfl : R = [] := by rw [← HRR.out]; exact unsealL_no HV.out
     go_wp2
     exact bodyPost_ret (v := .tuple #[.slice (some ⟨xc.heap.size, 0, none⟩) 0 0, .bool false]) (res2 rfl (is_tmp rfl) (is_tmp rfl)) rfl (ans_no BC.out)
    | true =>
     obtain rfl : R = mixI lk (headL role D.sn D.epoch D.seq) D.body := by rw [← HRR.out]; exact unsealL_yes HV.out
     have HKL : Hid (lk.length = 32) := (unseal_parts HV.out).1
     have KC := hid (KA1.out.later bc)
     have TC := hid (HT.out.later BC.out)
     have HBL : Hid (D.body.length ≤ 40) := canTag_body HC.out
     go_upto_region 3 with fail
     clear bc
     obtain ⟨dz0, dz1, dz2, dz3, dz4, dz5, dz6, dz7, dz8, dz9, dz10⟩ := cells11 KC.out
     go_region_held3 (fun w' => w'.cell? ⟨ga, 0, none⟩ = some (.int .i64 D.kind) ∧ w'.cell? ⟨ga, 1, none⟩ = some (.int .i64 D.id) ∧ w'.cell? ⟨ga, 2, none⟩ = some (.slice S.cn.a S.cn.n S.cn.c) ∧ w'.cell? ⟨ga, 3, none⟩ = some (.slice S.sn.a S.sn.n S.sn.c) ∧ w'.cell? ⟨ga, 4, none⟩ = some (.int .i64 D.tick) ∧ w'.cell? ⟨ga, 5, none⟩ = some (.slice S.cookie.a S.cookie.n S.cookie.c) ∧ w'.cell? ⟨ga, 6, none⟩ = some (.slice S.proof.a S.proof.n S.proof.c) ∧ w'.cell? ⟨ga, 7, none⟩ = some (.int .i64 D.epoch) ∧ w'.cell? ⟨ga, 8, none⟩ = some (.int .i64 D.seq) ∧ w'.cell? ⟨ga, 9, none⟩ = some (.slice S.body.a S.body.n S.body.c) ∧ w'.cell? ⟨ga, 10, none⟩ = some (.slice S.tag.a S.tag.n S.tag.c)) (first | exact ⟨dw0, dw1, dw2, dw3, dw4, dw5, dw6, dw7, dw8, dw9, dw10⟩ | exact ⟨dy0, dy1, dy2, dy3, dy4, dy5, dy6, dy7, dy8, dy9, dy10⟩ | exact ⟨dz0, dz1, dz2, dz3, dz4, dz5, dz6, dz7, dz8, dz9, dz10⟩ | go_keep)
      (first
       | (go_at_call 58; refine (implMix k.a k.n k.c (some ⟨gh, 0, none⟩) mh ch S.body.a S.body.n S.body.c lk (headL role D.sn D.epoch D.seq) D.body y1 (HT.out.later (BC.out.trans (T1.out.mono BC.out.size))) HLK.out EMH.out HR.out.body.len (HK.out.later (BC.out.trans (T1.out.mono BC.out.size))).rd RH.out.rd (HR.out.later (BC.out.trans (T1.out.mono BC.out.size))).body.rd HK.out.nil (by intro e; cases e) HK.out.bytes (headL_bytes _ _ _ _ HR.out.sn.bytes) HR.out.body.bytes (by have := hid2 HKL HLK; omega) (by have := EMH.out; have := headL_le role D.sn D.epoch D.seq; omega) (by have := HBL.out; have := HR.out.body.len; omega)).mono ?_; rintro e y2 ⟨gm, mm, cm, rfl, em, kg, rr, b⟩; have T2 := hid (T1.out.trans (b.mono T1.out.size)); have RM := hid (rr); have EMM : Hid (mm = (mixI lk (headL role D.sn D.epoch D.seq) D.body).length) := em; have GM : Hid (xc.heap.size ≤ gm) := Nat.le_trans T1.out.size kg; have dw0 := (KC.out.later T2.out).cell 0 rfl; have dw1 := (KC.out.later T2.out).cell 1 rfl; have dw2 := (KC.out.later T2.out).cell 2 rfl; have dw3 := (KC.out.later T2.out).cell 3 rfl; have dw4 := (KC.out.later T2.out).cell 4 rfl; have dw5 := (KC.out.later T2.out).cell 5 rfl; have dw6 := (KC.out.later T2.out).cell 6 rfl; have dw7 := (KC.out.later T2.out).cell 7 rfl; have dw8 := (KC.out.later T2.out).cell 8 rfl; have dw9 := (KC.out.later T2.out).cell 9 rfl; have dw10 := (KC.out.later T2.out).cell 10 rfl; clear em kg rr b)
       | (go_at_call 59; refine (frameHead role S D xc.drew (HR.out.later BC.out.drew)).mono ?_; rintro e y1 ⟨gh, mh, ch, rfl, em, kg, rr, b⟩; have T1 : Hid (Below xc.heap.size xc y1) := (Below.refl _ _).drew.trans b; have RH := hid (rr); have EMH : Hid (mh = (headL role D.sn D.epoch D.seq).length) := em; have dy0 := (KC.out.later T1.out).cell 0 rfl; have dy1 := (KC.out.later T1.out).cell 1 rfl; have dy2 := (KC.out.later T1.out).cell 2 rfl; have dy3 := (KC.out.later T1.out).cell 3 rfl; have dy4 := (KC.out.later T1.out).cell 4 rfl; have dy5 := (KC.out.later T1.out).cell 5 rfl; have dy6 := (KC.out.later T1.out).cell 6 rfl; have dy7 := (KC.out.later T1.out).cell 7 rfl; have dy8 := (KC.out.later T1.out).cell 8 rfl; have dy9 := (KC.out.later T1.out).cell 9 rfl; have dy10 := (KC.out.later T1.out).cell 10 rfl; clear em kg rr b))
     clear dz0 dz1 dz2 dz3 dz4 dz5 dz6 dz7 dz8 dz9 dz10 dy0 dy1 dy2 dy3 dy4 dy5 dy6 dy7 dy8 dy9 dy10 dw0 dw1 dw2 dw3 dw4 dw5 dw6 dw7 dw8 dw9 dw10
     go_wp2
     exact bodyPost_ret (v := .tuple #[.slice (some ⟨gm, 0, none⟩) mm cm, .bool true]) (res2 rfl (is_tmp rfl) (is_tmp rfl)) rfl ⟨⟨some ⟨gm, 0, none⟩, mm, cm⟩, rfl, SOwn.row RM.out EMM.out (mixI_bytes _ _ _ HR.out.body.bytes) (Nat.le_trans BC.out.size GM.out) RM.out.lt, BC.out.trans (T2.out.mono BC.out.size)⟩

end Go.Proofs.YtmcflfpckpjphaaGreatDoor.UnsI

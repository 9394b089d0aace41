/-
  The walk of the law FnExactWinList: at every argument it answers true, and nothing that was there is written.
-/
import Derived.Test.YtdoichpaobiaeaaWnV
import Derived.Test.YtdoichpaobiaeaaWnG
import Derived.Test.YtdoichpaobiaeaaOps
namespace Go.Proofs.Ytdoichpaobiaeaa.LawWinList
open Go.RowKit Go.Proofs.Ytdoichpaobiaeaa.Mem Go.Proofs.Ytdoichpaobiaeaa.Blk Go.Proofs.Ytdoichpaobiaeaa.Zone Go.Proofs.Ytdoichpaobiaeaa.ZoneI Go.Proofs.Ytdoichpaobiaeaa.MemI Go.Proofs.Ytdoichpaobiaeaa.WnZ Go.Proofs.Ytdoichpaobiaeaa.Each Go.Proofs.Ytdoichpaobiaeaa.Copy Go.Proofs.Ytdoichpaobiaeaa.Ops Go.Proofs.Ytdoichpaobiaeaa.WinP Go.Proofs.Ytdoichpaobiaeaa.WnS Go.Proofs.Ytdoichpaobiaeaa.WnK Go.Proofs.Ytdoichpaobiaeaa.WnT Go.Proofs.Ytdoichpaobiaeaa.WnU Go.Proofs.Ytdoichpaobiaeaa.WnV Go.Proofs.Ytdoichpaobiaeaa.WnG

set_option maxRecDepth 100000 in
set_option maxHeartbeats 8000000 in
theorem walk (D : WnD) (S : WnS) (w : World) (h : WnRd w S D) (hs : WnSmall S) :
    Calls Try.prog 10 #[wnV D S] w fun e w' => e = .returned (.bool true) ∧ Below w.heap.size w w' := by
  obtain ⟨R, hR⟩ : ∃ R : List Int, winList D.top D.bits = R := ⟨_, rfl⟩
  have HRD : Hid (winList D.top D.bits = R) := hR
  have HRL : Hid (R.length ≤ 65536) := by show _ ≤ _; rw [← hR]; exact Nat.le_trans (winList_length _ _) (by omega)
  clear hR
  have HR : Hid (WnRd w S D) := h
  have HM : Hid (WnSmall S) := hs
  clear h hs
  obtain ⟨x1, hx1⟩ : ∃ x1, w.alloc (.cells #[.int .i64 D.top, .slice S.bits.a S.bits.n S.bits.c] 40) = x1 := ⟨_, rfl⟩
  have HW0 : Hid (w.alloc (.cells #[.int .i64 D.top, .slice S.bits.a S.bits.n S.bits.c] 40) = x1) := hx1
  have b1 : Below w.heap.size w x1 := by rw [← hx1]; exact (Below.refl _ _).alloc (Nat.le_refl _) _
  have KN : Blk x1 w.heap.size 40 [.int .i64 D.top, .slice S.bits.a S.bits.n S.bits.c] := by rw [← hx1]; exact Blk.new w _ _
  clear hx1
  have L1 : Hid (w.heap.size ≤ x1.heap.size) := b1.size
  have B1 : Hid (Below w.heap.size w x1) := b1
  clear b1
  unfold wnV
  go_enter Try.func10, Try.ntmps10
  go_upto_region 1 with fail
  rw [HW0.out]
  obtain ⟨ga, hga⟩ : ∃ ga, w.heap.size = ga := ⟨_, rfl⟩
  have Gga : Hid (w.heap.size = ga ∧ ga < x1.heap.size) := ⟨hga, by rw [← hga]; exact KN.lt⟩
  rw [hga] at KN ⊢
  clear HW0 hga
  have KA1 : Hid (Blk x1 ga 40 [.int .i64 D.top, .slice S.bits.a S.bits.n S.bits.c]) := KN
  clear KN
  have c0 := KA1.out.cell 0 rfl
  have c1 := KA1.out.cell 1 rfl
  go_wp2_with fail
  refine (szWin S D 1048576 x1 HM.out (by omega) (by omega)).mono ?_
  rintro e x2 ⟨rfl, b2⟩
  clear c0 c1
  have L2 : Hid (x1.heap.size ≤ x2.heap.size) := b2.size
  have B2 : Hid (Below w.heap.size w x2) := B1.out.trans (b2.mono B1.out.size)
  have KA2 : Hid (Blk x2 ga 40 [.int .i64 D.top, .slice S.bits.a S.bits.n S.bits.c]) := KA1.out.later b2
  clear b2 B1 KA1
  by_cases hsum : (1048576 : Int) - (wnSum S : Int) < 0
  · rw [if_pos hsum]
    go_wp2
    go_ret
    exact ⟨rfl, B2.out⟩
  rw [if_neg hsum]
  have HL : Hid (WnShort D 1048576) := by
    have q : wnSum S ≤ 1048576 := by omega
    unfold wnSum at q
    exact ⟨by rw [← HR.out.bits.len]; omega⟩
  have HL4 : Hid (WnShort D 4194304) := short_big2 HL.out
  have c0 := KA2.out.cell 0 rfl
  have c1 := KA2.out.cell 1 rfl
  go_wp2_with fail
  refine (toWin S D x2 (HR.out.later B2.out) HL4.out).mono ?_
  rintro e x3 ⟨Sp, rfl, op, b3⟩
  clear c0 c1
  have L3 : Hid (x2.heap.size ≤ x3.heap.size) := b3.size
  have B3 : Hid (Below w.heap.size w x3) := B2.out.trans (b3.mono B2.out.size)
  have KA3 : Hid (Blk x3 ga 40 [.int .i64 D.top, .slice S.bits.a S.bits.n S.bits.c]) := KA2.out.later b3
  clear b3 B2 KA2
  have Op3 : Hid (WnOwn x3 x2.heap.size x3.heap.size Sp D) := op
  clear op
  go_wp2_with fail
  refine (specWinList Sp D x3 Op3.out.rd).mono ?_
  rw [HRD.out]
  rintro e x4 ⟨qw, mw, cw, rfl, em, hq, rr, b4⟩
  have ow : ISOwn x4 x3.heap.size x4.heap.size ⟨some ⟨qw, 0, none⟩, mw, cw⟩ R := ISOwn.row rr em hq rr.lt
  clear em hq rr
  have L4 : Hid (x3.heap.size ≤ x4.heap.size) := b4.size
  have B4 : Hid (Below w.heap.size w x4) := B3.out.trans (b4.mono B3.out.size)
  have KA4 : Hid (Blk x4 ga 40 [.int .i64 D.top, .slice S.bits.a S.bits.n S.bits.c]) := KA3.out.later b4
  have Op4 : Hid (WnOwn x4 x2.heap.size x3.heap.size Sp D) := Op3.out.later b4
  clear b4 B3 KA3 Op3
  have Ow4 : Hid (ISOwn x4 x3.heap.size x4.heap.size ⟨some ⟨qw, 0, none⟩, mw, cw⟩ R) := ow
  clear ow
  clear Op4
  have c0 := KA4.out.cell 0 rfl
  have c1 := KA4.out.cell 1 rfl
  go_wp2_with fail
  refine (toWin S D x4 (HR.out.later B4.out) HL4.out).mono ?_
  rintro e x5 ⟨Sx, rfl, ox, b5⟩
  clear c0 c1
  have L5 : Hid (x4.heap.size ≤ x5.heap.size) := b5.size
  have B5 : Hid (Below w.heap.size w x5) := B4.out.trans (b5.mono B4.out.size)
  have KA5 : Hid (Blk x5 ga 40 [.int .i64 D.top, .slice S.bits.a S.bits.n S.bits.c]) := KA4.out.later b5
  have Ow5 : Hid (ISOwn x5 x3.heap.size x4.heap.size ⟨some ⟨qw, 0, none⟩, mw, cw⟩ R) := Ow4.out.later b5
  clear b5 B4 KA4 Ow4
  have Ox5 : Hid (WnOwn x5 x4.heap.size x5.heap.size Sx D) := ox
  clear ox
  obtain ⟨x6, hx6⟩ : ∃ x6, x5.alloc (.cells #[.int .i64 D.top, .slice Sx.bits.a Sx.bits.n Sx.bits.c] 27) = x6 := ⟨_, rfl⟩
  have HW6 : Hid (x5.alloc (.cells #[.int .i64 D.top, .slice Sx.bits.a Sx.bits.n Sx.bits.c] 27) = x6) := hx6
  have b6 : Below x5.heap.size x5 x6 := by rw [← hx6]; exact (Below.refl _ _).alloc (Nat.le_refl _) _
  have KN : Blk x6 x5.heap.size 27 [.int .i64 D.top, .slice Sx.bits.a Sx.bits.n Sx.bits.c] := by rw [← hx6]; exact Blk.new x5 _ _
  have HSZ6 : Hid (x6.heap.size = x5.heap.size + 1) := by rw [← hx6]; show _ = _; simp
  clear hx6
  have L6 : Hid (x5.heap.size ≤ x6.heap.size) := b6.size
  have B6 : Hid (Below w.heap.size w x6) := B5.out.trans (b6.mono B5.out.size)
  have KA6 : Hid (Blk x6 ga 40 [.int .i64 D.top, .slice S.bits.a S.bits.n S.bits.c]) := KA5.out.later b6
  have Ow6 : Hid (ISOwn x6 x3.heap.size x4.heap.size ⟨some ⟨qw, 0, none⟩, mw, cw⟩ R) := Ow5.out.later b6
  have Ox6 : Hid (WnOwn x6 x4.heap.size x5.heap.size Sx D) := Ox5.out.later b6
  clear b6 B5 KA5 Ow5 Ox5
  unfold wnV
  go_upto_region 7 with fail
  rw [HW6.out]
  obtain ⟨gx, hgx⟩ : ∃ gx, x5.heap.size = gx := ⟨_, rfl⟩
  have Ggx : Hid (x5.heap.size = gx ∧ x6.heap.size = gx + 1) := ⟨hgx, by rw [← hgx]; exact HSZ6.out⟩
  rw [hgx] at KN ⊢
  clear HW6 HSZ6 hgx
  have Kx6 : Hid (Blk x6 gx 27 [.int .i64 D.top, .slice Sx.bits.a Sx.bits.n Sx.bits.c]) := KN
  clear KN
  have c0 := Kx6.out.cell 0 rfl
  have c1 := Kx6.out.cell 1 rfl
  go_wp2_with fail
  refine (implWinList Sx D x6 Ox6.out.rd).mono ?_
  rw [HRD.out]
  rintro e x7 ⟨qg, mg, cg, rfl, em, hq, rr, b7⟩
  have og : ISOwn x7 x6.heap.size x7.heap.size ⟨some ⟨qg, 0, none⟩, mg, cg⟩ R := ISOwn.row rr em hq rr.lt
  clear em hq rr
  have L7 : Hid (x6.heap.size ≤ x7.heap.size) := b7.size
  have B7 : Hid (Below w.heap.size w x7) := B6.out.trans (b7.mono B6.out.size)
  have KA7 : Hid (Blk x7 ga 40 [.int .i64 D.top, .slice S.bits.a S.bits.n S.bits.c]) := KA6.out.later b7
  have Ow7 : Hid (ISOwn x7 x3.heap.size x4.heap.size ⟨some ⟨qw, 0, none⟩, mw, cw⟩ R) := Ow6.out.later b7
  have Ox7 : Hid (WnOwn x7 x4.heap.size x5.heap.size Sx D) := Ox6.out.later b7
  have Kx7 : Hid (Blk x7 gx 27 [.int .i64 D.top, .slice Sx.bits.a Sx.bits.n Sx.bits.c]) := Kx6.out.later b7
  clear b7 B6 KA6 Ow6 Ox6 Kx6
  have Og7 : Hid (ISOwn x7 x6.heap.size x7.heap.size ⟨some ⟨qg, 0, none⟩, mg, cg⟩ R) := og
  clear og
  clear c0 c1
  go_wp2_with fail
  refine (eqI ⟨some ⟨qg, 0, none⟩, mg, cg⟩ ⟨some ⟨qw, 0, none⟩, mw, cw⟩ R R x7 Og7.out.rd Ow7.out.rd (by have := HRL.out; omega) (by have := HRL.out; omega)).mono ?_
  rw [decide_eq_true (show R = R from rfl)]
  rintro e x8 ⟨rfl, b8⟩
  have L8 : Hid (x7.heap.size ≤ x8.heap.size) := b8.size
  have B8 : Hid (Below w.heap.size w x8) := B7.out.trans (b8.mono B7.out.size)
  have KA8 : Hid (Blk x8 ga 40 [.int .i64 D.top, .slice S.bits.a S.bits.n S.bits.c]) := KA7.out.later b8
  have Ow8 : Hid (ISOwn x8 x3.heap.size x4.heap.size ⟨some ⟨qw, 0, none⟩, mw, cw⟩ R) := Ow7.out.later b8
  have Ox8 : Hid (WnOwn x8 x4.heap.size x5.heap.size Sx D) := Ox7.out.later b8
  have Kx8 : Hid (Blk x8 gx 27 [.int .i64 D.top, .slice Sx.bits.a Sx.bits.n Sx.bits.c]) := Kx7.out.later b8
  have Og8 : Hid (ISOwn x8 x6.heap.size x7.heap.size ⟨some ⟨qg, 0, none⟩, mg, cg⟩ R) := Og7.out.later b8
  clear b8 B7 KA7 Ow7 Ox7 Kx7 Og7
  go_upto_region 10 with fail
  go_cut [31] from 27 to 30 (fun sv wx => sv = .bool false ∧ Below x8.heap.size x8 wx)
  case first =>
    rename_i J K' hRJ hMet
    generalize hA : Act.mk _ _ = A
    have a1' : A.eval (.tmp 1) = .pointer (some ⟨ga, 0, none⟩) := by rw [← hA]; rfl
    have a5' : A.eval (.tmp 5) = .pointer (some ⟨gx, 0, none⟩) := by rw [← hA]; rfl
    have asz : A.tmps.size = 69 := by rw [← hA]; rfl
    have hKA : ∀ wx, Below x8.heap.size x8 wx → Blk wx ga 40 [.int .i64 D.top, .slice S.bits.a S.bits.n S.bits.c] := fun wx hb => KA8.out.later hb
    have hKB : ∀ wx, Below x8.heap.size x8 wx → Blk wx gx 27 [.int .i64 D.top, .slice Sx.bits.a Sx.bits.n Sx.bits.c] := fun wx hb => Kx8.out.later hb
    have hRS : ∀ wx, Below x8.heap.size x8 wx → WnRd wx S D := fun wx hb => HR.out.later (B8.out.trans (hb.mono B8.out.size))
    have hRT : ∀ wx, Below x8.heap.size x8 wx → WnRd wx Sx D := fun wx hb => (Ox8.out.later hb).rd
    refine region_each (by kernel_rfl) [27, 28, 29, 30] 4 (fun i => [27, 28, 29, 30].getD i 0) (fun _ => 0)
      (fun i gB v wx => match i with
        | 0 => v = .agg #[.int .i64 D.top, .slice Sx.bits.a Sx.bits.n Sx.bits.c]
        | 1 => v = .agg #[.int .i64 D.top, .slice S.bits.a S.bits.n S.bits.c]
        | 2 => ∃ S3, v = wnV D S3 ∧ WnRd wx S3 D
        | 3 => v = .bool true
        | _ => False) (fun wx => Below x8.heap.size x8 wx) (by kernel_rfl) (Below.refl _ _).drew ?_ ?_ ?_
    · intro i gB v wx wy hi hF hb _
      match i, hi with
      | 0, _ => exact hF
      | 1, _ => exact hF
      | 2, _ => obtain ⟨S3, h0, h1⟩ := hF; exact ⟨S3, h0, h1.later hb⟩
      | 3, _ => exact hF
    · intro i hi t ρ wx hB hp hd
      match i, hi with
      | 0, _ =>
        have e5 : (fr [27, 28, 29, 30] A t).eval (.tmp 5) = .pointer (some ⟨gx, 0, none⟩) := (fr_eval_old _ _ _ 5 rfl).trans a5'
        have hc0 := (hKB wx hB).cell 0 rfl
        have hc1 := (hKB wx hB).cell 1 rfl
        refine op_run (v := .agg #[.int .i64 D.top, .slice Sx.bits.a Sx.bits.n Sx.bits.c]) (w' := wx) rfl rfl ?_ ?_
        · clear hp hd; have ec : ∀ v, (fr [27, 28, 29, 30] A t).eval (.const v) = v := fun _ => rfl; generalize (fr [27, 28, 29, 30] A t).eval = ev at ec e5 ⊢; go_simp
        · exact ⟨_, 0, rfl, hB, Below.refl _ _, rfl, .inl rfl⟩
      | 1, _ =>
        have e1 : (fr [27, 28, 29, 30] A t).eval (.tmp 1) = .pointer (some ⟨ga, 0, none⟩) := (fr_eval_old _ _ _ 1 rfl).trans a1'
        have hc0 := (hKA wx hB).cell 0 rfl
        have hc1 := (hKA wx hB).cell 1 rfl
        refine op_run (v := .agg #[.int .i64 D.top, .slice S.bits.a S.bits.n S.bits.c]) (w' := wx) rfl rfl ?_ ?_
        · clear hp hd; have ec : ∀ v, (fr [27, 28, 29, 30] A t).eval (.const v) = v := fun _ => rfl; generalize (fr [27, 28, 29, 30] A t).eval = ev at ec e1 ⊢; go_simp
        · exact ⟨_, 0, rfl, hB, Below.refl _ _, rfl, .inl rfl⟩
      | 2, _ =>
        have e28 : (fr [27, 28, 29, 30] A t).eval (.tmp 28) = .agg #[.int .i64 D.top, .slice S.bits.a S.bits.n S.bits.c] := (fr_eval _ _ _ 28 rfl (by rw [asz]; decide)).trans (hp 1 (pre_mem (by kernel_rfl)))
        refine op_call (f := 30) (args := #[.agg #[.int .i64 D.top, .slice S.bits.a S.bits.n S.bits.c]]) rfl rfl ?_ (toWin S D wx (hRS wx hB) HL4.out) ?_
        · have ef : (fr [27, 28, 29, 30] A t).eval (.func 30) = .func (.func 30) #[] #[] := rfl; clear hp hd; have ec : ∀ v, (fr [27, 28, 29, 30] A t).eval (.const v) = v := fun _ => rfl; generalize (fr [27, 28, 29, 30] A t).eval = ev at ec e28 ef ⊢; go_simp
        · rintro e wy ⟨S3, rfl, o3, b1⟩
          exact ⟨_, rfl, _, wx.heap.size, rfl, hB.trans (b1.mono hB.size), b1, ⟨S3, rfl, o3.rd⟩, .inl rfl⟩
      | 3, _ =>
        have e27 : (fr [27, 28, 29, 30] A t).eval (.tmp 27) = .agg #[.int .i64 D.top, .slice Sx.bits.a Sx.bits.n Sx.bits.c] := (fr_eval _ _ _ 27 rfl (by rw [asz]; decide)).trans (hp 0 (pre_mem (by kernel_rfl)))
        obtain ⟨S32, hv2, q2_0⟩ := hp 2 (pre_mem (by kernel_rfl))
        have e29 : (fr [27, 28, 29, 30] A t).eval (.tmp 29) = wnV D S32 := (fr_eval _ _ _ 29 rfl (by rw [asz]; decide)).trans hv2
        refine op_call (f := 26) (args := #[.agg #[.int .i64 D.top, .slice Sx.bits.a Sx.bits.n Sx.bits.c], wnV D S32]) rfl rfl ?_ (eqWin Sx S32 D wx (hRT wx hB) q2_0 HL4.out) ?_
        · have ef : (fr [27, 28, 29, 30] A t).eval (.func 26) = .func (.func 26) #[] #[] := rfl; clear hp hd q2_0; have ec : ∀ v, (fr [27, 28, 29, 30] A t).eval (.const v) = v := fun _ => rfl; generalize (fr [27, 28, 29, 30] A t).eval = ev at ec e27 e29 ef ⊢; go_simp
        · rintro e wy ⟨rfl, b1⟩
          exact ⟨_, rfl, _, wx.heap.size, rfl, hB.trans (b1.mono hB.size), b1, rfl, .inl rfl⟩
    · intro t ρ wx hB hF hne
      have hv3 := hF 3 (by decide)
      have e30 : (fr [27, 28, 29, 30] A t).eval (.tmp 30) = .bool true := (fr_eval _ _ _ 30 rfl (by rw [asz]; decide)).trans hv3
      clear hne
      refine op_wp rfl rfl ?_
      generalize hE : (fr [27, 28, 29, 30] A t).eval = ev at e30
      unfold Oper.wp
      rw [hE]
      clear hv3
      go_simp
      refine hMet _ _ (Met.intro (hRJ _ _ ⟨t 27, t 28, t 29, t 30, _, ⟨rfl, hB⟩, ?_⟩))
      rw [← hA]; rfl
  case rest =>
  obtain ⟨x9, hq9⟩ : ∃ x9, x9 = wc := ⟨_, rfl⟩
  subst hq9
  obtain ⟨rfl, b9⟩ := hcut
  have L9 : Hid (x8.heap.size ≤ x9.heap.size) := b9.size
  have B9 : Hid (Below w.heap.size w x9) := B8.out.trans (b9.mono B8.out.size)
  have KA9 : Hid (Blk x9 ga 40 [.int .i64 D.top, .slice S.bits.a S.bits.n S.bits.c]) := KA8.out.later b9
  have Ow9 : Hid (ISOwn x9 x3.heap.size x4.heap.size ⟨some ⟨qw, 0, none⟩, mw, cw⟩ R) := Ow8.out.later b9
  have Ox9 : Hid (WnOwn x9 x4.heap.size x5.heap.size Sx D) := Ox8.out.later b9
  have Kx9 : Hid (Blk x9 gx 27 [.int .i64 D.top, .slice Sx.bits.a Sx.bits.n Sx.bits.c]) := Kx8.out.later b9
  have Og9 : Hid (ISOwn x9 x6.heap.size x7.heap.size ⟨some ⟨qg, 0, none⟩, mg, cg⟩ R) := Og8.out.later b9
  clear b9 B8 KA8 Ow8 Ox8 Kx8 Og8
  have HXS : Hid ((1 : Int) + (wnSum Sx : Int) ≤ 4194304) := sum_le Ox9.out.rd HL.out
  have hk0 : ¬ ((1 : Int) + (wnSum Sx : Int) < 0) := by omega
  have ca0 := Kx9.out.cell 0 rfl
  have ca1 := Kx9.out.cell 1 rfl
  go_wp2_with fail
  refine (markWin Sx D 1 x9 x4.heap.size x5.heap.size Ox9.out (by have := L1.out; have := Gga.out; have := L2.out; have := L3.out; have := L4.out; have := L5.out; have := L6.out; have := Ggx.out; have := L7.out; have := L8.out; have := L9.out; omega) (by omega) HXS.out).mono ?_
  rintro e x10 ⟨rfl, _, k10⟩
  clear ca0 ca1
  have L10 : Hid (x9.heap.size ≤ x10.heap.size) := k10.size
  have B10 : Hid (Below w.heap.size w x10) := B9.out.trans (k10.below (by have := L1.out; have := Gga.out; have := L2.out; have := L3.out; have := L4.out; have := L5.out; have := L6.out; have := Ggx.out; have := L7.out; have := L8.out; have := L9.out; have := L10.out; omega) B9.out.size)
  have KA10 : Hid (Blk x10 ga 40 [.int .i64 D.top, .slice S.bits.a S.bits.n S.bits.c]) := KA9.out.keep (k10.block _ KA9.out.lt (by have := L1.out; have := Gga.out; have := L2.out; have := L3.out; have := L4.out; have := L5.out; have := L6.out; have := Ggx.out; have := L7.out; have := L8.out; have := L9.out; have := L10.out; omega))
  have Ow10 : Hid (ISOwn x10 x3.heap.size x4.heap.size ⟨some ⟨qw, 0, none⟩, mw, cw⟩ R) := Ow9.out.carry k10 (by have := L1.out; have := Gga.out; have := L2.out; have := L3.out; have := L4.out; have := L5.out; have := L6.out; have := Ggx.out; have := L7.out; have := L8.out; have := L9.out; have := L10.out; omega)
  have Og10 : Hid (ISOwn x10 x6.heap.size x7.heap.size ⟨some ⟨qg, 0, none⟩, mg, cg⟩ R) := Og9.out.carry k10 (by have := L1.out; have := Gga.out; have := L2.out; have := L3.out; have := L4.out; have := L5.out; have := L6.out; have := Ggx.out; have := L7.out; have := L8.out; have := L9.out; have := L10.out; omega)
  clear k10 B9 KA9 Ow9 Ox9 Kx9 Og9
  go_wp2_with fail
  refine (eqI ⟨some ⟨qg, 0, none⟩, mg, cg⟩ ⟨some ⟨qw, 0, none⟩, mw, cw⟩ R R x10 Og10.out.rd Ow10.out.rd (by have := HRL.out; omega) (by have := HRL.out; omega)).mono ?_
  rw [decide_eq_true (show R = R from rfl)]
  rintro e x11 ⟨rfl, b11⟩
  have L11 : Hid (x10.heap.size ≤ x11.heap.size) := b11.size
  have B11 : Hid (Below w.heap.size w x11) := B10.out.trans (b11.mono B10.out.size)
  have KA11 : Hid (Blk x11 ga 40 [.int .i64 D.top, .slice S.bits.a S.bits.n S.bits.c]) := KA10.out.later b11
  have Ow11 : Hid (ISOwn x11 x3.heap.size x4.heap.size ⟨some ⟨qw, 0, none⟩, mw, cw⟩ R) := Ow10.out.later b11
  have Og11 : Hid (ISOwn x11 x6.heap.size x7.heap.size ⟨some ⟨qg, 0, none⟩, mg, cg⟩ R) := Og10.out.later b11
  clear b11 B10 KA10 Ow10 Og10
  have hmg : mg ≤ 4194304 := by have := Og11.out.len; have := HRL.out; simp only at *; omega
  have hm0 : ¬ ((1 : Int) + (mg : Int) < 0) := by omega
  have hmm : ((1 : Int) + (mg : Int) != 1 + (mg : Int)) = false := by simp
  go_wp2_with fail
  refine (markI ⟨some ⟨qg, 0, none⟩, mg, cg⟩ R 1 x11 x6.heap.size x7.heap.size Og11.out (by have := HRL.out; omega) (by omega) (by omega)).mono ?_
  rintro e x12 ⟨rfl, og, k12⟩
  have L12 : Hid (x11.heap.size ≤ x12.heap.size) := k12.size
  have B12 : Hid (Below w.heap.size w x12) := B11.out.trans (k12.below (by have := L1.out; have := Gga.out; have := L2.out; have := L3.out; have := L4.out; have := L5.out; have := L6.out; have := Ggx.out; have := L7.out; have := L8.out; have := L9.out; have := L10.out; have := L11.out; have := L12.out; omega) B11.out.size)
  have KA12 : Hid (Blk x12 ga 40 [.int .i64 D.top, .slice S.bits.a S.bits.n S.bits.c]) := KA11.out.keep (k12.block _ KA11.out.lt (by have := L1.out; have := Gga.out; have := L2.out; have := L3.out; have := L4.out; have := L5.out; have := L6.out; have := Ggx.out; have := L7.out; have := L8.out; have := L9.out; have := L10.out; have := L11.out; have := L12.out; omega))
  have Ow12 : Hid (ISOwn x12 x3.heap.size x4.heap.size ⟨some ⟨qw, 0, none⟩, mw, cw⟩ R) := Ow11.out.carry k12 (by have := L1.out; have := Gga.out; have := L2.out; have := L3.out; have := L4.out; have := L5.out; have := L6.out; have := Ggx.out; have := L7.out; have := L8.out; have := L9.out; have := L10.out; have := L11.out; have := L12.out; omega)
  clear k12 B11 KA11 Ow11 Og11
  have Og12 : Hid (ISOwn x12 x6.heap.size x7.heap.size ⟨some ⟨qg, 0, none⟩, mg, cg⟩ (imarks 1 mg)) := og
  clear og
  go_wp2_with fail
  refine (heldI ⟨some ⟨qg, 0, none⟩, mg, cg⟩ 1 x12 Og12.out.rd hmg (by omega) (by omega)).mono ?_
  rintro e xz ⟨rfl, rfl⟩
  have c0 := KA12.out.cell 0 rfl
  have c1 := KA12.out.cell 1 rfl
  go_wp2_with fail
  refine (toWin S D x12 (HR.out.later B12.out) HL4.out).mono ?_
  rintro e x13 ⟨Sy, rfl, oy, b13⟩
  clear c0 c1
  have L13 : Hid (x12.heap.size ≤ x13.heap.size) := b13.size
  have B13 : Hid (Below w.heap.size w x13) := B12.out.trans (b13.mono B12.out.size)
  have KA13 : Hid (Blk x13 ga 40 [.int .i64 D.top, .slice S.bits.a S.bits.n S.bits.c]) := KA12.out.later b13
  have Ow13 : Hid (ISOwn x13 x3.heap.size x4.heap.size ⟨some ⟨qw, 0, none⟩, mw, cw⟩ R) := Ow12.out.later b13
  have Og13 : Hid (ISOwn x13 x6.heap.size x7.heap.size ⟨some ⟨qg, 0, none⟩, mg, cg⟩ (imarks 1 mg)) := Og12.out.later b13
  clear b13 B12 KA12 Ow12 Og12
  have Oy13 : Hid (WnOwn x13 x12.heap.size x13.heap.size Sy D) := oy
  clear oy
  go_wp2_with fail
  refine (implWinList Sy D x13 Oy13.out.rd).mono ?_
  rw [HRD.out]
  rintro e x14 ⟨qh, mh, ch, rfl, em, hq, rr, b14⟩
  have oh : ISOwn x14 x13.heap.size x14.heap.size ⟨some ⟨qh, 0, none⟩, mh, ch⟩ R := ISOwn.row rr em hq rr.lt
  clear em hq rr
  have L14 : Hid (x13.heap.size ≤ x14.heap.size) := b14.size
  have B14 : Hid (Below w.heap.size w x14) := B13.out.trans (b14.mono B13.out.size)
  have KA14 : Hid (Blk x14 ga 40 [.int .i64 D.top, .slice S.bits.a S.bits.n S.bits.c]) := KA13.out.later b14
  have Ow14 : Hid (ISOwn x14 x3.heap.size x4.heap.size ⟨some ⟨qw, 0, none⟩, mw, cw⟩ R) := Ow13.out.later b14
  have Og14 : Hid (ISOwn x14 x6.heap.size x7.heap.size ⟨some ⟨qg, 0, none⟩, mg, cg⟩ (imarks 1 mg)) := Og13.out.later b14
  have Oy14 : Hid (WnOwn x14 x12.heap.size x13.heap.size Sy D) := Oy13.out.later b14
  clear b14 B13 KA13 Ow13 Og13 Oy13
  have Oh14 : Hid (ISOwn x14 x13.heap.size x14.heap.size ⟨some ⟨qh, 0, none⟩, mh, ch⟩ R) := oh
  clear oh
  clear Oy14
  go_wp2_with fail
  refine (eqI ⟨some ⟨qh, 0, none⟩, mh, ch⟩ ⟨some ⟨qw, 0, none⟩, mw, cw⟩ R R x14 Oh14.out.rd Ow14.out.rd (by have := HRL.out; omega) (by have := HRL.out; omega)).mono ?_
  rw [decide_eq_true (show R = R from rfl)]
  rintro e x15 ⟨rfl, b15⟩
  have L15 : Hid (x14.heap.size ≤ x15.heap.size) := b15.size
  have B15 : Hid (Below w.heap.size w x15) := B14.out.trans (b15.mono B14.out.size)
  have KA15 : Hid (Blk x15 ga 40 [.int .i64 D.top, .slice S.bits.a S.bits.n S.bits.c]) := KA14.out.later b15
  have Ow15 : Hid (ISOwn x15 x3.heap.size x4.heap.size ⟨some ⟨qw, 0, none⟩, mw, cw⟩ R) := Ow14.out.later b15
  have Og15 : Hid (ISOwn x15 x6.heap.size x7.heap.size ⟨some ⟨qg, 0, none⟩, mg, cg⟩ (imarks 1 mg)) := Og14.out.later b15
  have Oh15 : Hid (ISOwn x15 x13.heap.size x14.heap.size ⟨some ⟨qh, 0, none⟩, mh, ch⟩ R) := Oh14.out.later b15
  clear b15 B14 KA14 Ow14 Og14 Oh14
  go_wp2_with fail
  refine (heldI ⟨some ⟨qg, 0, none⟩, mg, cg⟩ 1 x15 Og15.out.rd hmg (by omega) (by omega)).mono ?_
  rintro e xz ⟨rfl, rfl⟩
  go_wp2
  go_ret
  exact ⟨rfl, B15.out⟩
end Go.Proofs.Ytdoichpaobiaeaa.LawWinList

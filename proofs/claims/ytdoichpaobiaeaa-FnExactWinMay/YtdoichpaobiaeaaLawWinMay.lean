/-
  The walk of the law FnExactWinMay: at every argument it answers true, and nothing that was there is written.
-/
import Derived.Test.YtdoichpaobiaeaaWnV
import Derived.Test.YtdoichpaobiaeaaWnG
import Derived.Test.YtdoichpaobiaeaaOps
namespace Go.Proofs.Ytdoichpaobiaeaa.LawWinMay
open Go.RowKit Go.Proofs.Ytdoichpaobiaeaa.Mem Go.Proofs.Ytdoichpaobiaeaa.Blk Go.Proofs.Ytdoichpaobiaeaa.Zone Go.Proofs.Ytdoichpaobiaeaa.ZoneI Go.Proofs.Ytdoichpaobiaeaa.MemI Go.Proofs.Ytdoichpaobiaeaa.WnZ Go.Proofs.Ytdoichpaobiaeaa.Each Go.Proofs.Ytdoichpaobiaeaa.Copy Go.Proofs.Ytdoichpaobiaeaa.Ops Go.Proofs.Ytdoichpaobiaeaa.WinP Go.Proofs.Ytdoichpaobiaeaa.WnS Go.Proofs.Ytdoichpaobiaeaa.WnK Go.Proofs.Ytdoichpaobiaeaa.WnT Go.Proofs.Ytdoichpaobiaeaa.WnU Go.Proofs.Ytdoichpaobiaeaa.WnV Go.Proofs.Ytdoichpaobiaeaa.WnG

set_option maxRecDepth 100000 in
set_option maxHeartbeats 8000000 in
theorem walk (D : WnD) (S : WnS) (z : Int) (w : World) (h : WnRd w S D) (hs : WnSmall S) :
    Calls Try.prog 8 #[wnV D S, .int .i64 z] w fun e w' => e = .returned (.bool true) ∧ Below w.heap.size w w' := by
  obtain ⟨v, hv⟩ : ∃ v, winMay D.top D.bits z = v := ⟨_, rfl⟩
  have HV : Hid (winMay D.top D.bits z = v) := hv
  have hvv : (v != v) = false := by simp
  clear hv
  have HR : Hid (WnRd w S D) := h
  have HM : Hid (WnSmall S) := hs
  clear h hs
  obtain ⟨x1, hx1⟩ : ∃ x1, w.alloc (.cells #[.int .i64 D.top, .slice S.bits.a S.bits.n S.bits.c] 40) = x1 := ⟨_, rfl⟩
  have HW0 : Hid (w.alloc (.cells #[.int .i64 D.top, .slice S.bits.a S.bits.n S.bits.c] 40) = x1) := hx1
  have b1 : Below w.heap.size w x1 := by rw [← hx1]; exact (Below.refl _ _).alloc (Nat.le_refl _) _
  have KN : Blk x1 w.heap.size 40 [.int .i64 D.top, .slice S.bits.a S.bits.n S.bits.c] := by rw [← hx1]; exact Blk.new w _ _
  clear hx1
  have L1 : Hid (w.heap.size ≤ x1.heap.size) := b1.size
  have B1 : Hid (Below w.heap.size w x1) := b1
  clear b1
  unfold wnV
  go_enter Try.func8, Try.ntmps8
  go_upto_region 1 with fail
  rw [HW0.out]
  obtain ⟨ga, hga⟩ : ∃ ga, w.heap.size = ga := ⟨_, rfl⟩
  have Gga : Hid (w.heap.size = ga ∧ ga < x1.heap.size) := ⟨hga, by rw [← hga]; exact KN.lt⟩
  rw [hga] at KN ⊢
  clear HW0 hga
  have KA1 : Hid (Blk x1 ga 40 [.int .i64 D.top, .slice S.bits.a S.bits.n S.bits.c]) := KN
  clear KN
  have c0 := KA1.out.cell 0 rfl
  have c1 := KA1.out.cell 1 rfl
  go_wp2_with fail
  refine (szWin S D 1048576 x1 HM.out (by omega) (by omega)).mono ?_
  rintro e x2 ⟨rfl, b2⟩
  clear c0 c1
  have L2 : Hid (x1.heap.size ≤ x2.heap.size) := b2.size
  have B2 : Hid (Below w.heap.size w x2) := B1.out.trans (b2.mono B1.out.size)
  have KA2 : Hid (Blk x2 ga 40 [.int .i64 D.top, .slice S.bits.a S.bits.n S.bits.c]) := KA1.out.later b2
  clear b2 B1 KA1
  by_cases hsum : (1048576 : Int) - (wnSum S : Int) < 0
  · rw [if_pos hsum]
    go_wp2
    go_ret
    exact ⟨rfl, B2.out⟩
  rw [if_neg hsum]
  have HL : Hid (WnShort D 1048576) := by
    have q : wnSum S ≤ 1048576 := by omega
    unfold wnSum at q
    exact ⟨by rw [← HR.out.bits.len]; omega⟩
  have HL4 : Hid (WnShort D 4194304) := short_big2 HL.out
  have c0 := KA2.out.cell 0 rfl
  have c1 := KA2.out.cell 1 rfl
  go_wp2_with fail
  refine (toWin S D x2 (HR.out.later B2.out) HL4.out).mono ?_
  rintro e x3 ⟨Sp, rfl, op, b3⟩
  clear c0 c1
  have L3 : Hid (x2.heap.size ≤ x3.heap.size) := b3.size
  have B3 : Hid (Below w.heap.size w x3) := B2.out.trans (b3.mono B2.out.size)
  have KA3 : Hid (Blk x3 ga 40 [.int .i64 D.top, .slice S.bits.a S.bits.n S.bits.c]) := KA2.out.later b3
  clear b3 B2 KA2
  have Op3 : Hid (WnOwn x3 x2.heap.size x3.heap.size Sp D) := op
  clear op
  go_wp2_with fail
  refine (specWinMay Sp D z x3 Op3.out.rd).mono ?_
  rw [HV.out]
  rintro e x4 ⟨rfl, b4⟩
  have L4 : Hid (x3.heap.size ≤ x4.heap.size) := b4.size
  have B4 : Hid (Below w.heap.size w x4) := B3.out.trans (b4.mono B3.out.size)
  have KA4 : Hid (Blk x4 ga 40 [.int .i64 D.top, .slice S.bits.a S.bits.n S.bits.c]) := KA3.out.later b4
  have Op4 : Hid (WnOwn x4 x2.heap.size x3.heap.size Sp D) := Op3.out.later b4
  clear b4 B3 KA3 Op3
  clear Op4
  have c0 := KA4.out.cell 0 rfl
  have c1 := KA4.out.cell 1 rfl
  go_wp2_with fail
  refine (toWin S D x4 (HR.out.later B4.out) HL4.out).mono ?_
  rintro e x5 ⟨Sx, rfl, ox, b5⟩
  clear c0 c1
  have L5 : Hid (x4.heap.size ≤ x5.heap.size) := b5.size
  have B5 : Hid (Below w.heap.size w x5) := B4.out.trans (b5.mono B4.out.size)
  have KA5 : Hid (Blk x5 ga 40 [.int .i64 D.top, .slice S.bits.a S.bits.n S.bits.c]) := KA4.out.later b5
  clear b5 B4 KA4
  have Ox5 : Hid (WnOwn x5 x4.heap.size x5.heap.size Sx D) := ox
  clear ox
  obtain ⟨x6, hx6⟩ : ∃ x6, x5.alloc (.cells #[.int .i64 D.top, .slice Sx.bits.a Sx.bits.n Sx.bits.c] 27) = x6 := ⟨_, rfl⟩
  have HW6 : Hid (x5.alloc (.cells #[.int .i64 D.top, .slice Sx.bits.a Sx.bits.n Sx.bits.c] 27) = x6) := hx6
  have b6 : Below x5.heap.size x5 x6 := by rw [← hx6]; exact (Below.refl _ _).alloc (Nat.le_refl _) _
  have KN : Blk x6 x5.heap.size 27 [.int .i64 D.top, .slice Sx.bits.a Sx.bits.n Sx.bits.c] := by rw [← hx6]; exact Blk.new x5 _ _
  have HSZ6 : Hid (x6.heap.size = x5.heap.size + 1) := by rw [← hx6]; show _ = _; simp
  clear hx6
  have L6 : Hid (x5.heap.size ≤ x6.heap.size) := b6.size
  have B6 : Hid (Below w.heap.size w x6) := B5.out.trans (b6.mono B5.out.size)
  have KA6 : Hid (Blk x6 ga 40 [.int .i64 D.top, .slice S.bits.a S.bits.n S.bits.c]) := KA5.out.later b6
  have Ox6 : Hid (WnOwn x6 x4.heap.size x5.heap.size Sx D) := Ox5.out.later b6
  clear b6 B5 KA5 Ox5
  unfold wnV
  go_upto_region 7 with fail
  rw [HW6.out]
  obtain ⟨gx, hgx⟩ : ∃ gx, x5.heap.size = gx := ⟨_, rfl⟩
  have Ggx : Hid (x5.heap.size = gx ∧ x6.heap.size = gx + 1) := ⟨hgx, by rw [← hgx]; exact HSZ6.out⟩
  rw [hgx] at KN ⊢
  clear HW6 HSZ6 hgx
  have Kx6 : Hid (Blk x6 gx 27 [.int .i64 D.top, .slice Sx.bits.a Sx.bits.n Sx.bits.c]) := KN
  clear KN
  have c0 := Kx6.out.cell 0 rfl
  have c1 := Kx6.out.cell 1 rfl
  go_wp2_with fail
  refine (implWinMay Sx D z x6 Ox6.out.rd).mono ?_
  rw [HV.out]
  rintro e x7 ⟨rfl, b7⟩
  have L7 : Hid (x6.heap.size ≤ x7.heap.size) := b7.size
  have B7 : Hid (Below w.heap.size w x7) := B6.out.trans (b7.mono B6.out.size)
  have KA7 : Hid (Blk x7 ga 40 [.int .i64 D.top, .slice S.bits.a S.bits.n S.bits.c]) := KA6.out.later b7
  have Ox7 : Hid (WnOwn x7 x4.heap.size x5.heap.size Sx D) := Ox6.out.later b7
  have Kx7 : Hid (Blk x7 gx 27 [.int .i64 D.top, .slice Sx.bits.a Sx.bits.n Sx.bits.c]) := Kx6.out.later b7
  clear b7 B6 KA6 Ox6 Kx6
  clear c0 c1
  go_upto_region 10 with fail
  go_cut [30] from 26 to 29 (fun sv wx => sv = .bool false ∧ Below x7.heap.size x7 wx)
  case first =>
    rename_i J K' hRJ hMet
    generalize hA : Act.mk _ _ = A
    have a2' : A.eval (.tmp 2) = .pointer (some ⟨ga, 0, none⟩) := by rw [← hA]; rfl
    have a7' : A.eval (.tmp 7) = .pointer (some ⟨gx, 0, none⟩) := by rw [← hA]; rfl
    have asz : A.tmps.size = 31 := by rw [← hA]; rfl
    have hKA : ∀ wx, Below x7.heap.size x7 wx → Blk wx ga 40 [.int .i64 D.top, .slice S.bits.a S.bits.n S.bits.c] := fun wx hb => KA7.out.later hb
    have hKB : ∀ wx, Below x7.heap.size x7 wx → Blk wx gx 27 [.int .i64 D.top, .slice Sx.bits.a Sx.bits.n Sx.bits.c] := fun wx hb => Kx7.out.later hb
    have hRS : ∀ wx, Below x7.heap.size x7 wx → WnRd wx S D := fun wx hb => HR.out.later (B7.out.trans (hb.mono B7.out.size))
    have hRT : ∀ wx, Below x7.heap.size x7 wx → WnRd wx Sx D := fun wx hb => (Ox7.out.later hb).rd
    refine region_each (by kernel_rfl) [26, 27, 28, 29] 4 (fun i => [26, 27, 28, 29].getD i 0) (fun _ => 0)
      (fun i gB v wx => match i with
        | 0 => v = .agg #[.int .i64 D.top, .slice Sx.bits.a Sx.bits.n Sx.bits.c]
        | 1 => v = .agg #[.int .i64 D.top, .slice S.bits.a S.bits.n S.bits.c]
        | 2 => ∃ S3, v = wnV D S3 ∧ WnRd wx S3 D
        | 3 => v = .bool true
        | _ => False) (fun wx => Below x7.heap.size x7 wx) (by kernel_rfl) (Below.refl _ _).drew ?_ ?_ ?_
    · intro i gB v wx wy hi hF hb _
      match i, hi with
      | 0, _ => exact hF
      | 1, _ => exact hF
      | 2, _ => obtain ⟨S3, h0, h1⟩ := hF; exact ⟨S3, h0, h1.later hb⟩
      | 3, _ => exact hF
    · intro i hi t ρ wx hB hp hd
      match i, hi with
      | 0, _ =>
        have e7 : (fr [26, 27, 28, 29] A t).eval (.tmp 7) = .pointer (some ⟨gx, 0, none⟩) := (fr_eval_old _ _ _ 7 rfl).trans a7'
        have hc0 := (hKB wx hB).cell 0 rfl
        have hc1 := (hKB wx hB).cell 1 rfl
        refine op_run (v := .agg #[.int .i64 D.top, .slice Sx.bits.a Sx.bits.n Sx.bits.c]) (w' := wx) rfl rfl ?_ ?_
        · clear hp hd; have ec : ∀ v, (fr [26, 27, 28, 29] A t).eval (.const v) = v := fun _ => rfl; generalize (fr [26, 27, 28, 29] A t).eval = ev at ec e7 ⊢; go_simp
        · exact ⟨_, 0, rfl, hB, Below.refl _ _, rfl, .inl rfl⟩
      | 1, _ =>
        have e2 : (fr [26, 27, 28, 29] A t).eval (.tmp 2) = .pointer (some ⟨ga, 0, none⟩) := (fr_eval_old _ _ _ 2 rfl).trans a2'
        have hc0 := (hKA wx hB).cell 0 rfl
        have hc1 := (hKA wx hB).cell 1 rfl
        refine op_run (v := .agg #[.int .i64 D.top, .slice S.bits.a S.bits.n S.bits.c]) (w' := wx) rfl rfl ?_ ?_
        · clear hp hd; have ec : ∀ v, (fr [26, 27, 28, 29] A t).eval (.const v) = v := fun _ => rfl; generalize (fr [26, 27, 28, 29] A t).eval = ev at ec e2 ⊢; go_simp
        · exact ⟨_, 0, rfl, hB, Below.refl _ _, rfl, .inl rfl⟩
      | 2, _ =>
        have e27 : (fr [26, 27, 28, 29] A t).eval (.tmp 27) = .agg #[.int .i64 D.top, .slice S.bits.a S.bits.n S.bits.c] := (fr_eval _ _ _ 27 rfl (by rw [asz]; decide)).trans (hp 1 (pre_mem (by kernel_rfl)))
        refine op_call (f := 30) (args := #[.agg #[.int .i64 D.top, .slice S.bits.a S.bits.n S.bits.c]]) rfl rfl ?_ (toWin S D wx (hRS wx hB) HL4.out) ?_
        · have ef : (fr [26, 27, 28, 29] A t).eval (.func 30) = .func (.func 30) #[] #[] := rfl; clear hp hd; have ec : ∀ v, (fr [26, 27, 28, 29] A t).eval (.const v) = v := fun _ => rfl; generalize (fr [26, 27, 28, 29] A t).eval = ev at ec e27 ef ⊢; go_simp
        · rintro e wy ⟨S3, rfl, o3, b1⟩
          exact ⟨_, rfl, _, wx.heap.size, rfl, hB.trans (b1.mono hB.size), b1, ⟨S3, rfl, o3.rd⟩, .inl rfl⟩
      | 3, _ =>
        have e26 : (fr [26, 27, 28, 29] A t).eval (.tmp 26) = .agg #[.int .i64 D.top, .slice Sx.bits.a Sx.bits.n Sx.bits.c] := (fr_eval _ _ _ 26 rfl (by rw [asz]; decide)).trans (hp 0 (pre_mem (by kernel_rfl)))
        obtain ⟨S32, hv2, q2_0⟩ := hp 2 (pre_mem (by kernel_rfl))
        have e28 : (fr [26, 27, 28, 29] A t).eval (.tmp 28) = wnV D S32 := (fr_eval _ _ _ 28 rfl (by rw [asz]; decide)).trans hv2
        refine op_call (f := 26) (args := #[.agg #[.int .i64 D.top, .slice Sx.bits.a Sx.bits.n Sx.bits.c], wnV D S32]) rfl rfl ?_ (eqWin Sx S32 D wx (hRT wx hB) q2_0 HL4.out) ?_
        · have ef : (fr [26, 27, 28, 29] A t).eval (.func 26) = .func (.func 26) #[] #[] := rfl; clear hp hd q2_0; have ec : ∀ v, (fr [26, 27, 28, 29] A t).eval (.const v) = v := fun _ => rfl; generalize (fr [26, 27, 28, 29] A t).eval = ev at ec e26 e28 ef ⊢; go_simp
        · rintro e wy ⟨rfl, b1⟩
          exact ⟨_, rfl, _, wx.heap.size, rfl, hB.trans (b1.mono hB.size), b1, rfl, .inl rfl⟩
    · intro t ρ wx hB hF hne
      have hv3 := hF 3 (by decide)
      have e29 : (fr [26, 27, 28, 29] A t).eval (.tmp 29) = .bool true := (fr_eval _ _ _ 29 rfl (by rw [asz]; decide)).trans hv3
      clear hne
      refine op_wp rfl rfl ?_
      generalize hE : (fr [26, 27, 28, 29] A t).eval = ev at e29
      unfold Oper.wp
      rw [hE]
      clear hv3
      go_simp
      refine hMet _ _ (Met.intro (hRJ _ _ ⟨t 26, t 27, t 28, t 29, _, ⟨rfl, hB⟩, ?_⟩))
      rw [← hA]; rfl
  case rest =>
  obtain ⟨x8, hq8⟩ : ∃ x8, x8 = wc := ⟨_, rfl⟩
  subst hq8
  obtain ⟨rfl, b8⟩ := hcut
  have L8 : Hid (x7.heap.size ≤ x8.heap.size) := b8.size
  have B8 : Hid (Below w.heap.size w x8) := B7.out.trans (b8.mono B7.out.size)
  have KA8 : Hid (Blk x8 ga 40 [.int .i64 D.top, .slice S.bits.a S.bits.n S.bits.c]) := KA7.out.later b8
  have Ox8 : Hid (WnOwn x8 x4.heap.size x5.heap.size Sx D) := Ox7.out.later b8
  have Kx8 : Hid (Blk x8 gx 27 [.int .i64 D.top, .slice Sx.bits.a Sx.bits.n Sx.bits.c]) := Kx7.out.later b8
  clear b8 B7 KA7 Ox7 Kx7
  go_wp2
  go_ret
  exact ⟨rfl, B8.out⟩
end Go.Proofs.Ytdoichpaobiaeaa.LawWinMay

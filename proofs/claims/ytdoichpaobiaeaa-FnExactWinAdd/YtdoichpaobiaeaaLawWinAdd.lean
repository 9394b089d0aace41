/-
  The walk of the law FnExactWinAdd: at every argument it answers true, and nothing that was there is written.
-/
import Derived.Test.YtdoichpaobiaeaaWnV
import Derived.Test.YtdoichpaobiaeaaWnG
import Derived.Test.YtdoichpaobiaeaaOps
namespace Go.Proofs.Ytdoichpaobiaeaa.LawWinAdd
open Go.RowKit Go.Proofs.Ytdoichpaobiaeaa.Mem Go.Proofs.Ytdoichpaobiaeaa.Blk Go.Proofs.Ytdoichpaobiaeaa.Zone Go.Proofs.Ytdoichpaobiaeaa.ZoneI Go.Proofs.Ytdoichpaobiaeaa.MemI Go.Proofs.Ytdoichpaobiaeaa.WnZ Go.Proofs.Ytdoichpaobiaeaa.Each Go.Proofs.Ytdoichpaobiaeaa.Copy Go.Proofs.Ytdoichpaobiaeaa.Ops Go.Proofs.Ytdoichpaobiaeaa.WinP Go.Proofs.Ytdoichpaobiaeaa.WnS Go.Proofs.Ytdoichpaobiaeaa.WnK Go.Proofs.Ytdoichpaobiaeaa.WnT Go.Proofs.Ytdoichpaobiaeaa.WnU Go.Proofs.Ytdoichpaobiaeaa.WnV Go.Proofs.Ytdoichpaobiaeaa.WnG

set_option maxRecDepth 100000 in
set_option maxHeartbeats 8000000 in
theorem walk (D : WnD) (S : WnS) (z : Int) (w : World) (h : WnRd w S D) (hs : WnSmall S) :
    Calls Try.prog 9 #[wnV D S, .int .i64 z] w fun e w' => e = .returned (.bool true) ∧ Below w.heap.size w w' := by
  obtain ⟨R, hR⟩ : ∃ R : WnD, addD D z = R := ⟨_, rfl⟩
  have HRD : Hid (addD D z = R) := hR
  clear hR
  obtain ⟨v, hv⟩ : ∃ v, winMay D.top D.bits z = v := ⟨_, rfl⟩
  have HV : Hid (winMay D.top D.bits z = v) := hv
  have hvv : (v != v) = false := by simp
  clear hv
  have HR : Hid (WnRd w S D) := h
  have HM : Hid (WnSmall S) := hs
  clear h hs
  obtain ⟨x1, hx1⟩ : ∃ x1, w.alloc (.cells #[.int .i64 D.top, .slice S.bits.a S.bits.n S.bits.c] 40) = x1 := ⟨_, rfl⟩
  have HW0 : Hid (w.alloc (.cells #[.int .i64 D.top, .slice S.bits.a S.bits.n S.bits.c] 40) = x1) := hx1
  have b1 : Below w.heap.size w x1 := by rw [← hx1]; exact (Below.refl _ _).alloc (Nat.le_refl _) _
  have KN : Blk x1 w.heap.size 40 [.int .i64 D.top, .slice S.bits.a S.bits.n S.bits.c] := by rw [← hx1]; exact Blk.new w _ _
  clear hx1
  have L1 : Hid (w.heap.size ≤ x1.heap.size) := b1.size
  have B1 : Hid (Below w.heap.size w x1) := b1
  clear b1
  unfold wnV
  go_enter Try.func9, Try.ntmps9
  go_upto_region 1 with fail
  rw [HW0.out]
  obtain ⟨ga, hga⟩ : ∃ ga, w.heap.size = ga := ⟨_, rfl⟩
  have Gga : Hid (w.heap.size = ga ∧ ga < x1.heap.size) := ⟨hga, by rw [← hga]; exact KN.lt⟩
  rw [hga] at KN ⊢
  clear HW0 hga
  have KA1 : Hid (Blk x1 ga 40 [.int .i64 D.top, .slice S.bits.a S.bits.n S.bits.c]) := KN
  clear KN
  have c0 := KA1.out.cell 0 rfl
  have c1 := KA1.out.cell 1 rfl
  go_wp2_with fail
  refine (szWin S D 1048576 x1 HM.out (by omega) (by omega)).mono ?_
  rintro e x2 ⟨rfl, b2⟩
  clear c0 c1
  have L2 : Hid (x1.heap.size ≤ x2.heap.size) := b2.size
  have B2 : Hid (Below w.heap.size w x2) := B1.out.trans (b2.mono B1.out.size)
  have KA2 : Hid (Blk x2 ga 40 [.int .i64 D.top, .slice S.bits.a S.bits.n S.bits.c]) := KA1.out.later b2
  clear b2 B1 KA1
  by_cases hsum : (1048576 : Int) - (wnSum S : Int) < 0
  · rw [if_pos hsum]
    go_wp2
    go_ret
    exact ⟨rfl, B2.out⟩
  rw [if_neg hsum]
  have HL : Hid (WnShort D 1048576) := by
    have q : wnSum S ≤ 1048576 := by omega
    unfold wnSum at q
    exact ⟨by rw [← HR.out.bits.len]; omega⟩
  have HL4 : Hid (WnShort D 4194304) := short_big2 HL.out
  have HRS : Hid (WnShort R 1048576) := by rw [← HRD.out]; exact add_short z HL.out
  have HRL : Hid (WnShort R 4194304) := short_big2 HRS.out
  have c0 := KA2.out.cell 0 rfl
  have c1 := KA2.out.cell 1 rfl
  go_wp2_with fail
  refine (toWin S D x2 (HR.out.later B2.out) HL4.out).mono ?_
  rintro e x3 ⟨Sp, rfl, op, b3⟩
  clear c0 c1
  have L3 : Hid (x2.heap.size ≤ x3.heap.size) := b3.size
  have B3 : Hid (Below w.heap.size w x3) := B2.out.trans (b3.mono B2.out.size)
  have KA3 : Hid (Blk x3 ga 40 [.int .i64 D.top, .slice S.bits.a S.bits.n S.bits.c]) := KA2.out.later b3
  clear b3 B2 KA2
  have Op3 : Hid (WnOwn x3 x2.heap.size x3.heap.size Sp D) := op
  clear op
  go_wp2_with fail
  refine (specWinAdd Sp D z x3 Op3.out.rd HL4.out.bits).mono ?_
  unfold Added
  rw [HRD.out, HV.out]
  rintro e x4 ⟨Sw, rfl, ow, b4⟩
  have L4 : Hid (x3.heap.size ≤ x4.heap.size) := b4.size
  have B4 : Hid (Below w.heap.size w x4) := B3.out.trans (b4.mono B3.out.size)
  have KA4 : Hid (Blk x4 ga 40 [.int .i64 D.top, .slice S.bits.a S.bits.n S.bits.c]) := KA3.out.later b4
  have Op4 : Hid (WnOwn x4 x2.heap.size x3.heap.size Sp D) := Op3.out.later b4
  clear b4 B3 KA3 Op3
  have Ow4 : Hid (WnOwn x4 x3.heap.size x4.heap.size Sw R) := ow
  clear ow
  obtain ⟨x5, hx5⟩ : ∃ x5, x4.alloc (.cells #[.int .i64 R.top, .slice Sw.bits.a Sw.bits.n Sw.bits.c] 27) = x5 := ⟨_, rfl⟩
  have HW5 : Hid (x4.alloc (.cells #[.int .i64 R.top, .slice Sw.bits.a Sw.bits.n Sw.bits.c] 27) = x5) := hx5
  have b5 : Below x4.heap.size x4 x5 := by rw [← hx5]; exact (Below.refl _ _).alloc (Nat.le_refl _) _
  have KN : Blk x5 x4.heap.size 27 [.int .i64 R.top, .slice Sw.bits.a Sw.bits.n Sw.bits.c] := by rw [← hx5]; exact Blk.new x4 _ _
  have HSZ5 : Hid (x5.heap.size = x4.heap.size + 1) := by rw [← hx5]; show _ = _; simp
  clear hx5
  have L5 : Hid (x4.heap.size ≤ x5.heap.size) := b5.size
  have B5 : Hid (Below w.heap.size w x5) := B4.out.trans (b5.mono B4.out.size)
  have KA5 : Hid (Blk x5 ga 40 [.int .i64 D.top, .slice S.bits.a S.bits.n S.bits.c]) := KA4.out.later b5
  have Op5 : Hid (WnOwn x5 x2.heap.size x3.heap.size Sp D) := Op4.out.later b5
  have Ow5 : Hid (WnOwn x5 x3.heap.size x4.heap.size Sw R) := Ow4.out.later b5
  clear b5 B4 KA4 Op4 Ow4
  unfold wnV
  go_upto_region 6 with fail
  rw [HW5.out]
  obtain ⟨gw, hgw⟩ : ∃ gw, x4.heap.size = gw := ⟨_, rfl⟩
  have Ggw : Hid (x4.heap.size = gw ∧ x5.heap.size = gw + 1) := ⟨hgw, by rw [← hgw]; exact HSZ5.out⟩
  rw [hgw] at KN ⊢
  clear HW5 HSZ5 hgw
  have Kw5 : Hid (Blk x5 gw 27 [.int .i64 R.top, .slice Sw.bits.a Sw.bits.n Sw.bits.c]) := KN
  clear KN
  clear Op5
  have c0 := KA5.out.cell 0 rfl
  have c1 := KA5.out.cell 1 rfl
  go_wp2_with fail
  refine (toWin S D x5 (HR.out.later B5.out) HL4.out).mono ?_
  rintro e x6 ⟨Sx, rfl, ox, b6⟩
  clear c0 c1
  have L6 : Hid (x5.heap.size ≤ x6.heap.size) := b6.size
  have B6 : Hid (Below w.heap.size w x6) := B5.out.trans (b6.mono B5.out.size)
  have KA6 : Hid (Blk x6 ga 40 [.int .i64 D.top, .slice S.bits.a S.bits.n S.bits.c]) := KA5.out.later b6
  have Ow6 : Hid (WnOwn x6 x3.heap.size x4.heap.size Sw R) := Ow5.out.later b6
  have Kw6 : Hid (Blk x6 gw 27 [.int .i64 R.top, .slice Sw.bits.a Sw.bits.n Sw.bits.c]) := Kw5.out.later b6
  clear b6 B5 KA5 Ow5 Kw5
  have Ox6 : Hid (WnOwn x6 x5.heap.size x6.heap.size Sx D) := ox
  clear ox
  obtain ⟨x7, hx7⟩ : ∃ x7, x6.alloc (.cells #[.int .i64 D.top, .slice Sx.bits.a Sx.bits.n Sx.bits.c] 27) = x7 := ⟨_, rfl⟩
  have HW7 : Hid (x6.alloc (.cells #[.int .i64 D.top, .slice Sx.bits.a Sx.bits.n Sx.bits.c] 27) = x7) := hx7
  have b7 : Below x6.heap.size x6 x7 := by rw [← hx7]; exact (Below.refl _ _).alloc (Nat.le_refl _) _
  have KN : Blk x7 x6.heap.size 27 [.int .i64 D.top, .slice Sx.bits.a Sx.bits.n Sx.bits.c] := by rw [← hx7]; exact Blk.new x6 _ _
  have HSZ7 : Hid (x7.heap.size = x6.heap.size + 1) := by rw [← hx7]; show _ = _; simp
  clear hx7
  have L7 : Hid (x6.heap.size ≤ x7.heap.size) := b7.size
  have B7 : Hid (Below w.heap.size w x7) := B6.out.trans (b7.mono B6.out.size)
  have KA7 : Hid (Blk x7 ga 40 [.int .i64 D.top, .slice S.bits.a S.bits.n S.bits.c]) := KA6.out.later b7
  have Ow7 : Hid (WnOwn x7 x3.heap.size x4.heap.size Sw R) := Ow6.out.later b7
  have Kw7 : Hid (Blk x7 gw 27 [.int .i64 R.top, .slice Sw.bits.a Sw.bits.n Sw.bits.c]) := Kw6.out.later b7
  have Ox7 : Hid (WnOwn x7 x5.heap.size x6.heap.size Sx D) := Ox6.out.later b7
  clear b7 B6 KA6 Ow6 Kw6 Ox6
  unfold wnV
  go_upto_region 7 with fail
  rw [HW7.out]
  obtain ⟨gx, hgx⟩ : ∃ gx, x6.heap.size = gx := ⟨_, rfl⟩
  have Ggx : Hid (x6.heap.size = gx ∧ x7.heap.size = gx + 1) := ⟨hgx, by rw [← hgx]; exact HSZ7.out⟩
  rw [hgx] at KN ⊢
  clear HW7 HSZ7 hgx
  have Kx7 : Hid (Blk x7 gx 27 [.int .i64 D.top, .slice Sx.bits.a Sx.bits.n Sx.bits.c]) := KN
  clear KN
  have c0 := Kx7.out.cell 0 rfl
  have c1 := Kx7.out.cell 1 rfl
  go_wp2_with fail
  refine (implWinAdd Sx D z x7 Ox7.out.rd HL4.out.bits).mono ?_
  unfold Added
  rw [HRD.out, HV.out]
  rintro e x8 ⟨Sg, rfl, og, b8⟩
  have L8 : Hid (x7.heap.size ≤ x8.heap.size) := b8.size
  have B8 : Hid (Below w.heap.size w x8) := B7.out.trans (b8.mono B7.out.size)
  have KA8 : Hid (Blk x8 ga 40 [.int .i64 D.top, .slice S.bits.a S.bits.n S.bits.c]) := KA7.out.later b8
  have Ow8 : Hid (WnOwn x8 x3.heap.size x4.heap.size Sw R) := Ow7.out.later b8
  have Kw8 : Hid (Blk x8 gw 27 [.int .i64 R.top, .slice Sw.bits.a Sw.bits.n Sw.bits.c]) := Kw7.out.later b8
  have Ox8 : Hid (WnOwn x8 x5.heap.size x6.heap.size Sx D) := Ox7.out.later b8
  have Kx8 : Hid (Blk x8 gx 27 [.int .i64 D.top, .slice Sx.bits.a Sx.bits.n Sx.bits.c]) := Kx7.out.later b8
  clear b8 B7 KA7 Ow7 Kw7 Ox7 Kx7
  have Og8 : Hid (WnOwn x8 x7.heap.size x8.heap.size Sg R) := og
  clear og
  obtain ⟨x9, hx9⟩ : ∃ x9, x8.alloc (.cells #[.int .i64 R.top, .slice Sg.bits.a Sg.bits.n Sg.bits.c] 27) = x9 := ⟨_, rfl⟩
  have HW9 : Hid (x8.alloc (.cells #[.int .i64 R.top, .slice Sg.bits.a Sg.bits.n Sg.bits.c] 27) = x9) := hx9
  have b9 : Below x8.heap.size x8 x9 := by rw [← hx9]; exact (Below.refl _ _).alloc (Nat.le_refl _) _
  have KN : Blk x9 x8.heap.size 27 [.int .i64 R.top, .slice Sg.bits.a Sg.bits.n Sg.bits.c] := by rw [← hx9]; exact Blk.new x8 _ _
  have HSZ9 : Hid (x9.heap.size = x8.heap.size + 1) := by rw [← hx9]; show _ = _; simp
  clear hx9
  have L9 : Hid (x8.heap.size ≤ x9.heap.size) := b9.size
  have B9 : Hid (Below w.heap.size w x9) := B8.out.trans (b9.mono B8.out.size)
  have KA9 : Hid (Blk x9 ga 40 [.int .i64 D.top, .slice S.bits.a S.bits.n S.bits.c]) := KA8.out.later b9
  have Ow9 : Hid (WnOwn x9 x3.heap.size x4.heap.size Sw R) := Ow8.out.later b9
  have Kw9 : Hid (Blk x9 gw 27 [.int .i64 R.top, .slice Sw.bits.a Sw.bits.n Sw.bits.c]) := Kw8.out.later b9
  have Ox9 : Hid (WnOwn x9 x5.heap.size x6.heap.size Sx D) := Ox8.out.later b9
  have Kx9 : Hid (Blk x9 gx 27 [.int .i64 D.top, .slice Sx.bits.a Sx.bits.n Sx.bits.c]) := Kx8.out.later b9
  have Og9 : Hid (WnOwn x9 x7.heap.size x8.heap.size Sg R) := Og8.out.later b9
  clear b9 B8 KA8 Ow8 Kw8 Ox8 Kx8 Og8
  unfold wnV
  go_upto_region 8 with fail
  rw [HW9.out]
  obtain ⟨gg, hgg⟩ : ∃ gg, x8.heap.size = gg := ⟨_, rfl⟩
  have Ggg : Hid (x8.heap.size = gg ∧ x9.heap.size = gg + 1) := ⟨hgg, by rw [← hgg]; exact HSZ9.out⟩
  rw [hgg] at KN ⊢
  clear HW9 HSZ9 hgg
  have Kg9 : Hid (Blk x9 gg 27 [.int .i64 R.top, .slice Sg.bits.a Sg.bits.n Sg.bits.c]) := KN
  clear KN
  clear c0 c1
  have ca0 := Kg9.out.cell 0 rfl
  have ca1 := Kg9.out.cell 1 rfl
  have cb0 := Kw9.out.cell 0 rfl
  have cb1 := Kw9.out.cell 1 rfl
  go_wp2_with fail
  refine (eqWin Sg Sw R x9 Og9.out.rd Ow9.out.rd HRL.out).mono ?_
  rintro e x10 ⟨rfl, b10⟩
  clear ca0 ca1
  clear cb0 cb1
  have L10 : Hid (x9.heap.size ≤ x10.heap.size) := b10.size
  have B10 : Hid (Below w.heap.size w x10) := B9.out.trans (b10.mono B9.out.size)
  have KA10 : Hid (Blk x10 ga 40 [.int .i64 D.top, .slice S.bits.a S.bits.n S.bits.c]) := KA9.out.later b10
  have Ow10 : Hid (WnOwn x10 x3.heap.size x4.heap.size Sw R) := Ow9.out.later b10
  have Kw10 : Hid (Blk x10 gw 27 [.int .i64 R.top, .slice Sw.bits.a Sw.bits.n Sw.bits.c]) := Kw9.out.later b10
  have Ox10 : Hid (WnOwn x10 x5.heap.size x6.heap.size Sx D) := Ox9.out.later b10
  have Kx10 : Hid (Blk x10 gx 27 [.int .i64 D.top, .slice Sx.bits.a Sx.bits.n Sx.bits.c]) := Kx9.out.later b10
  have Og10 : Hid (WnOwn x10 x7.heap.size x8.heap.size Sg R) := Og9.out.later b10
  have Kg10 : Hid (Blk x10 gg 27 [.int .i64 R.top, .slice Sg.bits.a Sg.bits.n Sg.bits.c]) := Kg9.out.later b10
  clear b10 B9 KA9 Ow9 Kw9 Ox9 Kx9 Og9 Kg9
  go_upto_region 10 with fail
  go_cut [49] from 45 to 48 (fun sv wx => sv = .bool false ∧ Below x10.heap.size x10 wx)
  case first =>
    rename_i J K' hRJ hMet
    generalize hA : Act.mk _ _ = A
    have a2' : A.eval (.tmp 2) = .pointer (some ⟨ga, 0, none⟩) := by rw [← hA]; rfl
    have a8' : A.eval (.tmp 8) = .pointer (some ⟨gx, 0, none⟩) := by rw [← hA]; rfl
    have asz : A.tmps.size = 101 := by rw [← hA]; rfl
    have hKA : ∀ wx, Below x10.heap.size x10 wx → Blk wx ga 40 [.int .i64 D.top, .slice S.bits.a S.bits.n S.bits.c] := fun wx hb => KA10.out.later hb
    have hKB : ∀ wx, Below x10.heap.size x10 wx → Blk wx gx 27 [.int .i64 D.top, .slice Sx.bits.a Sx.bits.n Sx.bits.c] := fun wx hb => Kx10.out.later hb
    have hRS : ∀ wx, Below x10.heap.size x10 wx → WnRd wx S D := fun wx hb => HR.out.later (B10.out.trans (hb.mono B10.out.size))
    have hRT : ∀ wx, Below x10.heap.size x10 wx → WnRd wx Sx D := fun wx hb => (Ox10.out.later hb).rd
    refine region_each (by kernel_rfl) [45, 46, 47, 48] 4 (fun i => [45, 46, 47, 48].getD i 0) (fun _ => 0)
      (fun i gB v wx => match i with
        | 0 => v = .agg #[.int .i64 D.top, .slice Sx.bits.a Sx.bits.n Sx.bits.c]
        | 1 => v = .agg #[.int .i64 D.top, .slice S.bits.a S.bits.n S.bits.c]
        | 2 => ∃ S3, v = wnV D S3 ∧ WnRd wx S3 D
        | 3 => v = .bool true
        | _ => False) (fun wx => Below x10.heap.size x10 wx) (by kernel_rfl) (Below.refl _ _).drew ?_ ?_ ?_
    · intro i gB v wx wy hi hF hb _
      match i, hi with
      | 0, _ => exact hF
      | 1, _ => exact hF
      | 2, _ => obtain ⟨S3, h0, h1⟩ := hF; exact ⟨S3, h0, h1.later hb⟩
      | 3, _ => exact hF
    · intro i hi t ρ wx hB hp hd
      match i, hi with
      | 0, _ =>
        have e8 : (fr [45, 46, 47, 48] A t).eval (.tmp 8) = .pointer (some ⟨gx, 0, none⟩) := (fr_eval_old _ _ _ 8 rfl).trans a8'
        have hc0 := (hKB wx hB).cell 0 rfl
        have hc1 := (hKB wx hB).cell 1 rfl
        refine op_run (v := .agg #[.int .i64 D.top, .slice Sx.bits.a Sx.bits.n Sx.bits.c]) (w' := wx) rfl rfl ?_ ?_
        · clear hp hd; have ec : ∀ v, (fr [45, 46, 47, 48] A t).eval (.const v) = v := fun _ => rfl; generalize (fr [45, 46, 47, 48] A t).eval = ev at ec e8 ⊢; go_simp
        · exact ⟨_, 0, rfl, hB, Below.refl _ _, rfl, .inl rfl⟩
      | 1, _ =>
        have e2 : (fr [45, 46, 47, 48] A t).eval (.tmp 2) = .pointer (some ⟨ga, 0, none⟩) := (fr_eval_old _ _ _ 2 rfl).trans a2'
        have hc0 := (hKA wx hB).cell 0 rfl
        have hc1 := (hKA wx hB).cell 1 rfl
        refine op_run (v := .agg #[.int .i64 D.top, .slice S.bits.a S.bits.n S.bits.c]) (w' := wx) rfl rfl ?_ ?_
        · clear hp hd; have ec : ∀ v, (fr [45, 46, 47, 48] A t).eval (.const v) = v := fun _ => rfl; generalize (fr [45, 46, 47, 48] A t).eval = ev at ec e2 ⊢; go_simp
        · exact ⟨_, 0, rfl, hB, Below.refl _ _, rfl, .inl rfl⟩
      | 2, _ =>
        have e46 : (fr [45, 46, 47, 48] A t).eval (.tmp 46) = .agg #[.int .i64 D.top, .slice S.bits.a S.bits.n S.bits.c] := (fr_eval _ _ _ 46 rfl (by rw [asz]; decide)).trans (hp 1 (pre_mem (by kernel_rfl)))
        refine op_call (f := 30) (args := #[.agg #[.int .i64 D.top, .slice S.bits.a S.bits.n S.bits.c]]) rfl rfl ?_ (toWin S D wx (hRS wx hB) HL4.out) ?_
        · have ef : (fr [45, 46, 47, 48] A t).eval (.func 30) = .func (.func 30) #[] #[] := rfl; clear hp hd; have ec : ∀ v, (fr [45, 46, 47, 48] A t).eval (.const v) = v := fun _ => rfl; generalize (fr [45, 46, 47, 48] A t).eval = ev at ec e46 ef ⊢; go_simp
        · rintro e wy ⟨S3, rfl, o3, b1⟩
          exact ⟨_, rfl, _, wx.heap.size, rfl, hB.trans (b1.mono hB.size), b1, ⟨S3, rfl, o3.rd⟩, .inl rfl⟩
      | 3, _ =>
        have e45 : (fr [45, 46, 47, 48] A t).eval (.tmp 45) = .agg #[.int .i64 D.top, .slice Sx.bits.a Sx.bits.n Sx.bits.c] := (fr_eval _ _ _ 45 rfl (by rw [asz]; decide)).trans (hp 0 (pre_mem (by kernel_rfl)))
        obtain ⟨S32, hv2, q2_0⟩ := hp 2 (pre_mem (by kernel_rfl))
        have e47 : (fr [45, 46, 47, 48] A t).eval (.tmp 47) = wnV D S32 := (fr_eval _ _ _ 47 rfl (by rw [asz]; decide)).trans hv2
        refine op_call (f := 26) (args := #[.agg #[.int .i64 D.top, .slice Sx.bits.a Sx.bits.n Sx.bits.c], wnV D S32]) rfl rfl ?_ (eqWin Sx S32 D wx (hRT wx hB) q2_0 HL4.out) ?_
        · have ef : (fr [45, 46, 47, 48] A t).eval (.func 26) = .func (.func 26) #[] #[] := rfl; clear hp hd q2_0; have ec : ∀ v, (fr [45, 46, 47, 48] A t).eval (.const v) = v := fun _ => rfl; generalize (fr [45, 46, 47, 48] A t).eval = ev at ec e45 e47 ef ⊢; go_simp
        · rintro e wy ⟨rfl, b1⟩
          exact ⟨_, rfl, _, wx.heap.size, rfl, hB.trans (b1.mono hB.size), b1, rfl, .inl rfl⟩
    · intro t ρ wx hB hF hne
      have hv3 := hF 3 (by decide)
      have e48 : (fr [45, 46, 47, 48] A t).eval (.tmp 48) = .bool true := (fr_eval _ _ _ 48 rfl (by rw [asz]; decide)).trans hv3
      clear hne
      refine op_wp rfl rfl ?_
      generalize hE : (fr [45, 46, 47, 48] A t).eval = ev at e48
      unfold Oper.wp
      rw [hE]
      clear hv3
      go_simp
      refine hMet _ _ (Met.intro (hRJ _ _ ⟨t 45, t 46, t 47, t 48, _, ⟨rfl, hB⟩, ?_⟩))
      rw [← hA]; rfl
  case rest =>
  obtain ⟨x11, hq11⟩ : ∃ x11, x11 = wc := ⟨_, rfl⟩
  subst hq11
  obtain ⟨rfl, b11⟩ := hcut
  have L11 : Hid (x10.heap.size ≤ x11.heap.size) := b11.size
  have B11 : Hid (Below w.heap.size w x11) := B10.out.trans (b11.mono B10.out.size)
  have KA11 : Hid (Blk x11 ga 40 [.int .i64 D.top, .slice S.bits.a S.bits.n S.bits.c]) := KA10.out.later b11
  have Ow11 : Hid (WnOwn x11 x3.heap.size x4.heap.size Sw R) := Ow10.out.later b11
  have Kw11 : Hid (Blk x11 gw 27 [.int .i64 R.top, .slice Sw.bits.a Sw.bits.n Sw.bits.c]) := Kw10.out.later b11
  have Ox11 : Hid (WnOwn x11 x5.heap.size x6.heap.size Sx D) := Ox10.out.later b11
  have Kx11 : Hid (Blk x11 gx 27 [.int .i64 D.top, .slice Sx.bits.a Sx.bits.n Sx.bits.c]) := Kx10.out.later b11
  have Og11 : Hid (WnOwn x11 x7.heap.size x8.heap.size Sg R) := Og10.out.later b11
  have Kg11 : Hid (Blk x11 gg 27 [.int .i64 R.top, .slice Sg.bits.a Sg.bits.n Sg.bits.c]) := Kg10.out.later b11
  clear b11 B10 KA10 Ow10 Kw10 Ox10 Kx10 Og10 Kg10
  have HXS : Hid ((1 : Int) + (wnSum Sx : Int) ≤ 4194304) := sum_le Ox11.out.rd HL.out
  have hk0 : ¬ ((1 : Int) + (wnSum Sx : Int) < 0) := by omega
  have ca0 := Kx11.out.cell 0 rfl
  have ca1 := Kx11.out.cell 1 rfl
  go_wp2_with fail
  refine (markWin Sx D 1 x11 x5.heap.size x6.heap.size Ox11.out (by have := L1.out; have := Gga.out; have := L2.out; have := L3.out; have := L4.out; have := L5.out; have := Ggw.out; have := L6.out; have := L7.out; have := Ggx.out; have := L8.out; have := L9.out; have := Ggg.out; have := L10.out; have := L11.out; omega) (by omega) HXS.out).mono ?_
  rintro e x12 ⟨rfl, _, k12⟩
  clear ca0 ca1
  have L12 : Hid (x11.heap.size ≤ x12.heap.size) := k12.size
  have B12 : Hid (Below w.heap.size w x12) := B11.out.trans (k12.below (by have := L1.out; have := Gga.out; have := L2.out; have := L3.out; have := L4.out; have := L5.out; have := Ggw.out; have := L6.out; have := L7.out; have := Ggx.out; have := L8.out; have := L9.out; have := Ggg.out; have := L10.out; have := L11.out; have := L12.out; omega) B11.out.size)
  have KA12 : Hid (Blk x12 ga 40 [.int .i64 D.top, .slice S.bits.a S.bits.n S.bits.c]) := KA11.out.keep (k12.block _ KA11.out.lt (by have := L1.out; have := Gga.out; have := L2.out; have := L3.out; have := L4.out; have := L5.out; have := Ggw.out; have := L6.out; have := L7.out; have := Ggx.out; have := L8.out; have := L9.out; have := Ggg.out; have := L10.out; have := L11.out; have := L12.out; omega))
  have Ow12 : Hid (WnOwn x12 x3.heap.size x4.heap.size Sw R) := Ow11.out.carry k12 (by have := L1.out; have := Gga.out; have := L2.out; have := L3.out; have := L4.out; have := L5.out; have := Ggw.out; have := L6.out; have := L7.out; have := Ggx.out; have := L8.out; have := L9.out; have := Ggg.out; have := L10.out; have := L11.out; have := L12.out; omega)
  have Kw12 : Hid (Blk x12 gw 27 [.int .i64 R.top, .slice Sw.bits.a Sw.bits.n Sw.bits.c]) := Kw11.out.keep (k12.block _ Kw11.out.lt (by have := L1.out; have := Gga.out; have := L2.out; have := L3.out; have := L4.out; have := L5.out; have := Ggw.out; have := L6.out; have := L7.out; have := Ggx.out; have := L8.out; have := L9.out; have := Ggg.out; have := L10.out; have := L11.out; have := L12.out; omega))
  have Og12 : Hid (WnOwn x12 x7.heap.size x8.heap.size Sg R) := Og11.out.carry k12 (by have := L1.out; have := Gga.out; have := L2.out; have := L3.out; have := L4.out; have := L5.out; have := Ggw.out; have := L6.out; have := L7.out; have := Ggx.out; have := L8.out; have := L9.out; have := Ggg.out; have := L10.out; have := L11.out; have := L12.out; omega)
  have Kg12 : Hid (Blk x12 gg 27 [.int .i64 R.top, .slice Sg.bits.a Sg.bits.n Sg.bits.c]) := Kg11.out.keep (k12.block _ Kg11.out.lt (by have := L1.out; have := Gga.out; have := L2.out; have := L3.out; have := L4.out; have := L5.out; have := Ggw.out; have := L6.out; have := L7.out; have := Ggx.out; have := L8.out; have := L9.out; have := Ggg.out; have := L10.out; have := L11.out; have := L12.out; omega))
  clear k12 B11 KA11 Ow11 Kw11 Ox11 Kx11 Og11 Kg11
  have ca0 := Kg12.out.cell 0 rfl
  have ca1 := Kg12.out.cell 1 rfl
  have cb0 := Kw12.out.cell 0 rfl
  have cb1 := Kw12.out.cell 1 rfl
  go_wp2_with fail
  refine (eqWin Sg Sw R x12 Og12.out.rd Ow12.out.rd HRL.out).mono ?_
  rintro e x13 ⟨rfl, b13⟩
  clear ca0 ca1
  clear cb0 cb1
  have L13 : Hid (x12.heap.size ≤ x13.heap.size) := b13.size
  have B13 : Hid (Below w.heap.size w x13) := B12.out.trans (b13.mono B12.out.size)
  have KA13 : Hid (Blk x13 ga 40 [.int .i64 D.top, .slice S.bits.a S.bits.n S.bits.c]) := KA12.out.later b13
  have Ow13 : Hid (WnOwn x13 x3.heap.size x4.heap.size Sw R) := Ow12.out.later b13
  have Kw13 : Hid (Blk x13 gw 27 [.int .i64 R.top, .slice Sw.bits.a Sw.bits.n Sw.bits.c]) := Kw12.out.later b13
  have Og13 : Hid (WnOwn x13 x7.heap.size x8.heap.size Sg R) := Og12.out.later b13
  have Kg13 : Hid (Blk x13 gg 27 [.int .i64 R.top, .slice Sg.bits.a Sg.bits.n Sg.bits.c]) := Kg12.out.later b13
  clear b13 B12 KA12 Ow12 Kw12 Og12 Kg12
  have HGS : Hid ((1 : Int) + (wnSum Sg : Int) ≤ 4194304) := sum_le Og13.out.rd HRS.out
  have hm0 : ¬ ((1 : Int) + (wnSum Sg : Int) < 0) := by omega
  have hmm : ((1 : Int) + (wnSum Sg : Int) != 1 + (wnSum Sg : Int)) = false := by simp
  have ca0 := Kg13.out.cell 0 rfl
  have ca1 := Kg13.out.cell 1 rfl
  go_wp2_with fail
  refine (markWin Sg R 1 x13 x7.heap.size x8.heap.size Og13.out (by have := L1.out; have := Gga.out; have := L2.out; have := L3.out; have := L4.out; have := L5.out; have := Ggw.out; have := L6.out; have := L7.out; have := Ggx.out; have := L8.out; have := L9.out; have := Ggg.out; have := L10.out; have := L11.out; have := L12.out; have := L13.out; omega) (by omega) HGS.out).mono ?_
  rintro e x14 ⟨rfl, og, k14⟩
  clear ca0 ca1
  have L14 : Hid (x13.heap.size ≤ x14.heap.size) := k14.size
  have B14 : Hid (Below w.heap.size w x14) := B13.out.trans (k14.below (by have := L1.out; have := Gga.out; have := L2.out; have := L3.out; have := L4.out; have := L5.out; have := Ggw.out; have := L6.out; have := L7.out; have := Ggx.out; have := L8.out; have := L9.out; have := Ggg.out; have := L10.out; have := L11.out; have := L12.out; have := L13.out; have := L14.out; omega) B13.out.size)
  have KA14 : Hid (Blk x14 ga 40 [.int .i64 D.top, .slice S.bits.a S.bits.n S.bits.c]) := KA13.out.keep (k14.block _ KA13.out.lt (by have := L1.out; have := Gga.out; have := L2.out; have := L3.out; have := L4.out; have := L5.out; have := Ggw.out; have := L6.out; have := L7.out; have := Ggx.out; have := L8.out; have := L9.out; have := Ggg.out; have := L10.out; have := L11.out; have := L12.out; have := L13.out; have := L14.out; omega))
  have Ow14 : Hid (WnOwn x14 x3.heap.size x4.heap.size Sw R) := Ow13.out.carry k14 (by have := L1.out; have := Gga.out; have := L2.out; have := L3.out; have := L4.out; have := L5.out; have := Ggw.out; have := L6.out; have := L7.out; have := Ggx.out; have := L8.out; have := L9.out; have := Ggg.out; have := L10.out; have := L11.out; have := L12.out; have := L13.out; have := L14.out; omega)
  have Kw14 : Hid (Blk x14 gw 27 [.int .i64 R.top, .slice Sw.bits.a Sw.bits.n Sw.bits.c]) := Kw13.out.keep (k14.block _ Kw13.out.lt (by have := L1.out; have := Gga.out; have := L2.out; have := L3.out; have := L4.out; have := L5.out; have := Ggw.out; have := L6.out; have := L7.out; have := Ggx.out; have := L8.out; have := L9.out; have := Ggg.out; have := L10.out; have := L11.out; have := L12.out; have := L13.out; have := L14.out; omega))
  have Kg14 : Hid (Blk x14 gg 27 [.int .i64 R.top, .slice Sg.bits.a Sg.bits.n Sg.bits.c]) := Kg13.out.keep (k14.block _ Kg13.out.lt (by have := L1.out; have := Gga.out; have := L2.out; have := L3.out; have := L4.out; have := L5.out; have := Ggw.out; have := L6.out; have := L7.out; have := Ggx.out; have := L8.out; have := L9.out; have := Ggg.out; have := L10.out; have := L11.out; have := L12.out; have := L13.out; have := L14.out; omega))
  clear k14 B13 KA13 Ow13 Kw13 Og13 Kg13
  have Og14 : Hid (WnOwn x14 x7.heap.size x8.heap.size Sg (wnMarks 1 Sg R)) := og
  clear og
  have ca0 := Kg14.out.cell 0 rfl
  have ca1 := Kg14.out.cell 1 rfl
  go_wp2_with fail
  refine (heldWin Sg R 1 x14 Og14.out.rd (by omega) HGS.out).mono ?_
  rintro e x15 ⟨rfl, b15⟩
  clear ca0 ca1
  have L15 : Hid (x14.heap.size ≤ x15.heap.size) := b15.size
  have B15 : Hid (Below w.heap.size w x15) := B14.out.trans (b15.mono B14.out.size)
  have KA15 : Hid (Blk x15 ga 40 [.int .i64 D.top, .slice S.bits.a S.bits.n S.bits.c]) := KA14.out.later b15
  have Ow15 : Hid (WnOwn x15 x3.heap.size x4.heap.size Sw R) := Ow14.out.later b15
  have Kw15 : Hid (Blk x15 gw 27 [.int .i64 R.top, .slice Sw.bits.a Sw.bits.n Sw.bits.c]) := Kw14.out.later b15
  have Kg15 : Hid (Blk x15 gg 27 [.int .i64 R.top, .slice Sg.bits.a Sg.bits.n Sg.bits.c]) := Kg14.out.later b15
  have Og15 : Hid (WnOwn x15 x7.heap.size x8.heap.size Sg (wnMarks 1 Sg R)) := Og14.out.later b15
  clear b15 B14 KA14 Ow14 Kw14 Kg14 Og14
  have c0 := KA15.out.cell 0 rfl
  have c1 := KA15.out.cell 1 rfl
  go_wp2_with fail
  refine (toWin S D x15 (HR.out.later B15.out) HL4.out).mono ?_
  rintro e x16 ⟨Sy, rfl, oy, b16⟩
  clear c0 c1
  have L16 : Hid (x15.heap.size ≤ x16.heap.size) := b16.size
  have B16 : Hid (Below w.heap.size w x16) := B15.out.trans (b16.mono B15.out.size)
  have KA16 : Hid (Blk x16 ga 40 [.int .i64 D.top, .slice S.bits.a S.bits.n S.bits.c]) := KA15.out.later b16
  have Ow16 : Hid (WnOwn x16 x3.heap.size x4.heap.size Sw R) := Ow15.out.later b16
  have Kw16 : Hid (Blk x16 gw 27 [.int .i64 R.top, .slice Sw.bits.a Sw.bits.n Sw.bits.c]) := Kw15.out.later b16
  have Kg16 : Hid (Blk x16 gg 27 [.int .i64 R.top, .slice Sg.bits.a Sg.bits.n Sg.bits.c]) := Kg15.out.later b16
  have Og16 : Hid (WnOwn x16 x7.heap.size x8.heap.size Sg (wnMarks 1 Sg R)) := Og15.out.later b16
  clear b16 B15 KA15 Ow15 Kw15 Kg15 Og15
  have Oy16 : Hid (WnOwn x16 x15.heap.size x16.heap.size Sy D) := oy
  clear oy
  go_wp2_with fail
  refine (implWinAdd Sy D z x16 Oy16.out.rd HL4.out.bits).mono ?_
  unfold Added
  rw [HRD.out, HV.out]
  rintro e x17 ⟨Sh, rfl, oh, b17⟩
  have L17 : Hid (x16.heap.size ≤ x17.heap.size) := b17.size
  have B17 : Hid (Below w.heap.size w x17) := B16.out.trans (b17.mono B16.out.size)
  have KA17 : Hid (Blk x17 ga 40 [.int .i64 D.top, .slice S.bits.a S.bits.n S.bits.c]) := KA16.out.later b17
  have Ow17 : Hid (WnOwn x17 x3.heap.size x4.heap.size Sw R) := Ow16.out.later b17
  have Kw17 : Hid (Blk x17 gw 27 [.int .i64 R.top, .slice Sw.bits.a Sw.bits.n Sw.bits.c]) := Kw16.out.later b17
  have Kg17 : Hid (Blk x17 gg 27 [.int .i64 R.top, .slice Sg.bits.a Sg.bits.n Sg.bits.c]) := Kg16.out.later b17
  have Og17 : Hid (WnOwn x17 x7.heap.size x8.heap.size Sg (wnMarks 1 Sg R)) := Og16.out.later b17
  have Oy17 : Hid (WnOwn x17 x15.heap.size x16.heap.size Sy D) := Oy16.out.later b17
  clear b17 B16 KA16 Ow16 Kw16 Kg16 Og16 Oy16
  have Oh17 : Hid (WnOwn x17 x16.heap.size x17.heap.size Sh R) := oh
  clear oh
  obtain ⟨x18, hx18⟩ : ∃ x18, x17.alloc (.cells #[.int .i64 R.top, .slice Sh.bits.a Sh.bits.n Sh.bits.c] 27) = x18 := ⟨_, rfl⟩
  have HW18 : Hid (x17.alloc (.cells #[.int .i64 R.top, .slice Sh.bits.a Sh.bits.n Sh.bits.c] 27) = x18) := hx18
  have b18 : Below x17.heap.size x17 x18 := by rw [← hx18]; exact (Below.refl _ _).alloc (Nat.le_refl _) _
  have KN : Blk x18 x17.heap.size 27 [.int .i64 R.top, .slice Sh.bits.a Sh.bits.n Sh.bits.c] := by rw [← hx18]; exact Blk.new x17 _ _
  have HSZ18 : Hid (x18.heap.size = x17.heap.size + 1) := by rw [← hx18]; show _ = _; simp
  clear hx18
  have L18 : Hid (x17.heap.size ≤ x18.heap.size) := b18.size
  have B18 : Hid (Below w.heap.size w x18) := B17.out.trans (b18.mono B17.out.size)
  have KA18 : Hid (Blk x18 ga 40 [.int .i64 D.top, .slice S.bits.a S.bits.n S.bits.c]) := KA17.out.later b18
  have Ow18 : Hid (WnOwn x18 x3.heap.size x4.heap.size Sw R) := Ow17.out.later b18
  have Kw18 : Hid (Blk x18 gw 27 [.int .i64 R.top, .slice Sw.bits.a Sw.bits.n Sw.bits.c]) := Kw17.out.later b18
  have Kg18 : Hid (Blk x18 gg 27 [.int .i64 R.top, .slice Sg.bits.a Sg.bits.n Sg.bits.c]) := Kg17.out.later b18
  have Og18 : Hid (WnOwn x18 x7.heap.size x8.heap.size Sg (wnMarks 1 Sg R)) := Og17.out.later b18
  have Oy18 : Hid (WnOwn x18 x15.heap.size x16.heap.size Sy D) := Oy17.out.later b18
  have Oh18 : Hid (WnOwn x18 x16.heap.size x17.heap.size Sh R) := Oh17.out.later b18
  clear b18 B17 KA17 Ow17 Kw17 Kg17 Og17 Oy17 Oh17
  unfold wnV
  go_upto_region 25 with fail
  rw [HW18.out]
  obtain ⟨gh, hgh⟩ : ∃ gh, x17.heap.size = gh := ⟨_, rfl⟩
  have Ggh : Hid (x17.heap.size = gh ∧ x18.heap.size = gh + 1) := ⟨hgh, by rw [← hgh]; exact HSZ18.out⟩
  rw [hgh] at KN ⊢
  clear HW18 HSZ18 hgh
  have Kh18 : Hid (Blk x18 gh 27 [.int .i64 R.top, .slice Sh.bits.a Sh.bits.n Sh.bits.c]) := KN
  clear KN
  clear Oy18
  have ca0 := Kh18.out.cell 0 rfl
  have ca1 := Kh18.out.cell 1 rfl
  have cb0 := Kw18.out.cell 0 rfl
  have cb1 := Kw18.out.cell 1 rfl
  go_wp2_with fail
  refine (eqWin Sh Sw R x18 Oh18.out.rd Ow18.out.rd HRL.out).mono ?_
  rintro e x19 ⟨rfl, b19⟩
  clear ca0 ca1
  clear cb0 cb1
  have L19 : Hid (x18.heap.size ≤ x19.heap.size) := b19.size
  have B19 : Hid (Below w.heap.size w x19) := B18.out.trans (b19.mono B18.out.size)
  have KA19 : Hid (Blk x19 ga 40 [.int .i64 D.top, .slice S.bits.a S.bits.n S.bits.c]) := KA18.out.later b19
  have Ow19 : Hid (WnOwn x19 x3.heap.size x4.heap.size Sw R) := Ow18.out.later b19
  have Kw19 : Hid (Blk x19 gw 27 [.int .i64 R.top, .slice Sw.bits.a Sw.bits.n Sw.bits.c]) := Kw18.out.later b19
  have Kg19 : Hid (Blk x19 gg 27 [.int .i64 R.top, .slice Sg.bits.a Sg.bits.n Sg.bits.c]) := Kg18.out.later b19
  have Og19 : Hid (WnOwn x19 x7.heap.size x8.heap.size Sg (wnMarks 1 Sg R)) := Og18.out.later b19
  have Oh19 : Hid (WnOwn x19 x16.heap.size x17.heap.size Sh R) := Oh18.out.later b19
  have Kh19 : Hid (Blk x19 gh 27 [.int .i64 R.top, .slice Sh.bits.a Sh.bits.n Sh.bits.c]) := Kh18.out.later b19
  clear b19 B18 KA18 Ow18 Kw18 Kg18 Og18 Oh18 Kh18
  have ca0 := Kg19.out.cell 0 rfl
  have ca1 := Kg19.out.cell 1 rfl
  go_wp2_with fail
  refine (heldWin Sg R 1 x19 Og19.out.rd (by omega) HGS.out).mono ?_
  rintro e x20 ⟨rfl, b20⟩
  clear ca0 ca1
  have L20 : Hid (x19.heap.size ≤ x20.heap.size) := b20.size
  have B20 : Hid (Below w.heap.size w x20) := B19.out.trans (b20.mono B19.out.size)
  have KA20 : Hid (Blk x20 ga 40 [.int .i64 D.top, .slice S.bits.a S.bits.n S.bits.c]) := KA19.out.later b20
  have Ow20 : Hid (WnOwn x20 x3.heap.size x4.heap.size Sw R) := Ow19.out.later b20
  have Kw20 : Hid (Blk x20 gw 27 [.int .i64 R.top, .slice Sw.bits.a Sw.bits.n Sw.bits.c]) := Kw19.out.later b20
  have Kg20 : Hid (Blk x20 gg 27 [.int .i64 R.top, .slice Sg.bits.a Sg.bits.n Sg.bits.c]) := Kg19.out.later b20
  have Og20 : Hid (WnOwn x20 x7.heap.size x8.heap.size Sg (wnMarks 1 Sg R)) := Og19.out.later b20
  have Oh20 : Hid (WnOwn x20 x16.heap.size x17.heap.size Sh R) := Oh19.out.later b20
  have Kh20 : Hid (Blk x20 gh 27 [.int .i64 R.top, .slice Sh.bits.a Sh.bits.n Sh.bits.c]) := Kh19.out.later b20
  clear b20 B19 KA19 Ow19 Kw19 Kg19 Og19 Oh19 Kh19
  go_wp2
  go_ret
  exact ⟨rfl, B20.out⟩
end Go.Proofs.Ytdoichpaobiaeaa.LawWinAdd

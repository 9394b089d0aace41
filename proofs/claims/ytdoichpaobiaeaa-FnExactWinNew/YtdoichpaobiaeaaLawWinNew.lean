/-
  The walk of the law FnExactWinNew: at every argument it answers true, and nothing that was there is written.
-/
import Derived.Test.YtdoichpaobiaeaaWnV
import Derived.Test.YtdoichpaobiaeaaWnG
import Derived.Test.YtdoichpaobiaeaaOps
namespace Go.Proofs.Ytdoichpaobiaeaa.LawWinNew
open Go.RowKit Go.Proofs.Ytdoichpaobiaeaa.Mem Go.Proofs.Ytdoichpaobiaeaa.Blk Go.Proofs.Ytdoichpaobiaeaa.Zone Go.Proofs.Ytdoichpaobiaeaa.ZoneI Go.Proofs.Ytdoichpaobiaeaa.MemI Go.Proofs.Ytdoichpaobiaeaa.WnZ Go.Proofs.Ytdoichpaobiaeaa.Each Go.Proofs.Ytdoichpaobiaeaa.Copy Go.Proofs.Ytdoichpaobiaeaa.Ops Go.Proofs.Ytdoichpaobiaeaa.WinP Go.Proofs.Ytdoichpaobiaeaa.WnS Go.Proofs.Ytdoichpaobiaeaa.WnK Go.Proofs.Ytdoichpaobiaeaa.WnT Go.Proofs.Ytdoichpaobiaeaa.WnU Go.Proofs.Ytdoichpaobiaeaa.WnV Go.Proofs.Ytdoichpaobiaeaa.WnG

set_option maxRecDepth 100000 in
set_option maxHeartbeats 8000000 in
theorem walk (w : World)  :
    Calls Try.prog 5 #[] w fun e w' => e = .returned (.bool true) ∧ Below w.heap.size w w' := by
  obtain ⟨R, hR⟩ : ∃ R : WnD, (⟨-1, zeros⟩ : WnD) = R := ⟨_, rfl⟩
  have HRD : Hid ((⟨-1, zeros⟩ : WnD) = R) := hR
  clear hR
  have HRS : Hid (WnShort R 1048576) := by rw [← HRD.out]; exact short_mid new_short
  have HRL : Hid (WnShort R 4194304) := short_big2 HRS.out
  go_enter Try.func5, Try.ntmps5
  go_wp2_with fail
  refine (specWinNew w).mono ?_
  unfold Made
  rw [HRD.out]
  rintro e x1 ⟨Sw, rfl, ow, b1⟩
  have L1 : Hid (w.heap.size ≤ x1.heap.size) := b1.size
  have B1 : Hid (Below w.heap.size w x1) := b1
  clear b1
  have Ow1 : Hid (WnOwn x1 w.heap.size x1.heap.size Sw R) := ow
  clear ow
  obtain ⟨x2, hx2⟩ : ∃ x2, x1.alloc (.cells #[.int .i64 R.top, .slice Sw.bits.a Sw.bits.n Sw.bits.c] 27) = x2 := ⟨_, rfl⟩
  have HW2 : Hid (x1.alloc (.cells #[.int .i64 R.top, .slice Sw.bits.a Sw.bits.n Sw.bits.c] 27) = x2) := hx2
  have b2 : Below x1.heap.size x1 x2 := by rw [← hx2]; exact (Below.refl _ _).alloc (Nat.le_refl _) _
  have KN : Blk x2 x1.heap.size 27 [.int .i64 R.top, .slice Sw.bits.a Sw.bits.n Sw.bits.c] := by rw [← hx2]; exact Blk.new x1 _ _
  have HSZ2 : Hid (x2.heap.size = x1.heap.size + 1) := by rw [← hx2]; show _ = _; simp
  clear hx2
  have L2 : Hid (x1.heap.size ≤ x2.heap.size) := b2.size
  have B2 : Hid (Below w.heap.size w x2) := B1.out.trans (b2.mono B1.out.size)
  have Ow2 : Hid (WnOwn x2 w.heap.size x1.heap.size Sw R) := Ow1.out.later b2
  clear b2 B1 Ow1
  unfold wnV
  go_upto_region 2 with fail
  rw [HW2.out]
  obtain ⟨gw, hgw⟩ : ∃ gw, x1.heap.size = gw := ⟨_, rfl⟩
  have Ggw : Hid (x1.heap.size = gw ∧ x2.heap.size = gw + 1) := ⟨hgw, by rw [← hgw]; exact HSZ2.out⟩
  rw [hgw] at KN ⊢
  clear HW2 HSZ2 hgw
  have Kw2 : Hid (Blk x2 gw 27 [.int .i64 R.top, .slice Sw.bits.a Sw.bits.n Sw.bits.c]) := KN
  clear KN
  go_wp2_with fail
  refine (implWinNew x2).mono ?_
  unfold Made
  rw [HRD.out]
  rintro e x3 ⟨Sg, rfl, og, b3⟩
  have L3 : Hid (x2.heap.size ≤ x3.heap.size) := b3.size
  have B3 : Hid (Below w.heap.size w x3) := B2.out.trans (b3.mono B2.out.size)
  have Ow3 : Hid (WnOwn x3 w.heap.size x1.heap.size Sw R) := Ow2.out.later b3
  have Kw3 : Hid (Blk x3 gw 27 [.int .i64 R.top, .slice Sw.bits.a Sw.bits.n Sw.bits.c]) := Kw2.out.later b3
  clear b3 B2 Ow2 Kw2
  have Og3 : Hid (WnOwn x3 x2.heap.size x3.heap.size Sg R) := og
  clear og
  obtain ⟨x4, hx4⟩ : ∃ x4, x3.alloc (.cells #[.int .i64 R.top, .slice Sg.bits.a Sg.bits.n Sg.bits.c] 27) = x4 := ⟨_, rfl⟩
  have HW4 : Hid (x3.alloc (.cells #[.int .i64 R.top, .slice Sg.bits.a Sg.bits.n Sg.bits.c] 27) = x4) := hx4
  have b4 : Below x3.heap.size x3 x4 := by rw [← hx4]; exact (Below.refl _ _).alloc (Nat.le_refl _) _
  have KN : Blk x4 x3.heap.size 27 [.int .i64 R.top, .slice Sg.bits.a Sg.bits.n Sg.bits.c] := by rw [← hx4]; exact Blk.new x3 _ _
  have HSZ4 : Hid (x4.heap.size = x3.heap.size + 1) := by rw [← hx4]; show _ = _; simp
  clear hx4
  have L4 : Hid (x3.heap.size ≤ x4.heap.size) := b4.size
  have B4 : Hid (Below w.heap.size w x4) := B3.out.trans (b4.mono B3.out.size)
  have Ow4 : Hid (WnOwn x4 w.heap.size x1.heap.size Sw R) := Ow3.out.later b4
  have Kw4 : Hid (Blk x4 gw 27 [.int .i64 R.top, .slice Sw.bits.a Sw.bits.n Sw.bits.c]) := Kw3.out.later b4
  have Og4 : Hid (WnOwn x4 x2.heap.size x3.heap.size Sg R) := Og3.out.later b4
  clear b4 B3 Ow3 Kw3 Og3
  unfold wnV
  go_upto_region 3 with fail
  rw [HW4.out]
  obtain ⟨gg, hgg⟩ : ∃ gg, x3.heap.size = gg := ⟨_, rfl⟩
  have Ggg : Hid (x3.heap.size = gg ∧ x4.heap.size = gg + 1) := ⟨hgg, by rw [← hgg]; exact HSZ4.out⟩
  rw [hgg] at KN ⊢
  clear HW4 HSZ4 hgg
  have Kg4 : Hid (Blk x4 gg 27 [.int .i64 R.top, .slice Sg.bits.a Sg.bits.n Sg.bits.c]) := KN
  clear KN
  have ca0 := Kg4.out.cell 0 rfl
  have ca1 := Kg4.out.cell 1 rfl
  have cb0 := Kw4.out.cell 0 rfl
  have cb1 := Kw4.out.cell 1 rfl
  go_wp2_with fail
  refine (eqWin Sg Sw R x4 Og4.out.rd Ow4.out.rd HRL.out).mono ?_
  rintro e x5 ⟨rfl, b5⟩
  clear ca0 ca1
  clear cb0 cb1
  have L5 : Hid (x4.heap.size ≤ x5.heap.size) := b5.size
  have B5 : Hid (Below w.heap.size w x5) := B4.out.trans (b5.mono B4.out.size)
  have Ow5 : Hid (WnOwn x5 w.heap.size x1.heap.size Sw R) := Ow4.out.later b5
  have Kw5 : Hid (Blk x5 gw 27 [.int .i64 R.top, .slice Sw.bits.a Sw.bits.n Sw.bits.c]) := Kw4.out.later b5
  have Og5 : Hid (WnOwn x5 x2.heap.size x3.heap.size Sg R) := Og4.out.later b5
  have Kg5 : Hid (Blk x5 gg 27 [.int .i64 R.top, .slice Sg.bits.a Sg.bits.n Sg.bits.c]) := Kg4.out.later b5
  clear b5 B4 Ow4 Kw4 Og4 Kg4
  have HGS : Hid ((1 : Int) + (wnSum Sg : Int) ≤ 4194304) := sum_le Og5.out.rd HRS.out
  have hm0 : ¬ ((1 : Int) + (wnSum Sg : Int) < 0) := by omega
  have hmm : ((1 : Int) + (wnSum Sg : Int) != 1 + (wnSum Sg : Int)) = false := by simp
  have ca0 := Kg5.out.cell 0 rfl
  have ca1 := Kg5.out.cell 1 rfl
  go_wp2_with fail
  refine (markWin Sg R 1 x5 x2.heap.size x3.heap.size Og5.out (by have := L1.out; have := L2.out; have := Ggw.out; have := L3.out; have := L4.out; have := Ggg.out; have := L5.out; omega) (by omega) HGS.out).mono ?_
  rintro e x6 ⟨rfl, og, k6⟩
  clear ca0 ca1
  have L6 : Hid (x5.heap.size ≤ x6.heap.size) := k6.size
  have B6 : Hid (Below w.heap.size w x6) := B5.out.trans (k6.below (by have := L1.out; have := L2.out; have := Ggw.out; have := L3.out; have := L4.out; have := Ggg.out; have := L5.out; have := L6.out; omega) B5.out.size)
  have Ow6 : Hid (WnOwn x6 w.heap.size x1.heap.size Sw R) := Ow5.out.carry k6 (by have := L1.out; have := L2.out; have := Ggw.out; have := L3.out; have := L4.out; have := Ggg.out; have := L5.out; have := L6.out; omega)
  have Kw6 : Hid (Blk x6 gw 27 [.int .i64 R.top, .slice Sw.bits.a Sw.bits.n Sw.bits.c]) := Kw5.out.keep (k6.block _ Kw5.out.lt (by have := L1.out; have := L2.out; have := Ggw.out; have := L3.out; have := L4.out; have := Ggg.out; have := L5.out; have := L6.out; omega))
  have Kg6 : Hid (Blk x6 gg 27 [.int .i64 R.top, .slice Sg.bits.a Sg.bits.n Sg.bits.c]) := Kg5.out.keep (k6.block _ Kg5.out.lt (by have := L1.out; have := L2.out; have := Ggw.out; have := L3.out; have := L4.out; have := Ggg.out; have := L5.out; have := L6.out; omega))
  clear k6 B5 Ow5 Kw5 Og5 Kg5
  have Og6 : Hid (WnOwn x6 x2.heap.size x3.heap.size Sg (wnMarks 1 Sg R)) := og
  clear og
  have ca0 := Kg6.out.cell 0 rfl
  have ca1 := Kg6.out.cell 1 rfl
  go_wp2_with fail
  refine (heldWin Sg R 1 x6 Og6.out.rd (by omega) HGS.out).mono ?_
  rintro e x7 ⟨rfl, b7⟩
  clear ca0 ca1
  have L7 : Hid (x6.heap.size ≤ x7.heap.size) := b7.size
  have B7 : Hid (Below w.heap.size w x7) := B6.out.trans (b7.mono B6.out.size)
  have Ow7 : Hid (WnOwn x7 w.heap.size x1.heap.size Sw R) := Ow6.out.later b7
  have Kw7 : Hid (Blk x7 gw 27 [.int .i64 R.top, .slice Sw.bits.a Sw.bits.n Sw.bits.c]) := Kw6.out.later b7
  have Kg7 : Hid (Blk x7 gg 27 [.int .i64 R.top, .slice Sg.bits.a Sg.bits.n Sg.bits.c]) := Kg6.out.later b7
  have Og7 : Hid (WnOwn x7 x2.heap.size x3.heap.size Sg (wnMarks 1 Sg R)) := Og6.out.later b7
  clear b7 B6 Ow6 Kw6 Kg6 Og6
  go_wp2_with fail
  refine (implWinNew x7).mono ?_
  unfold Made
  rw [HRD.out]
  rintro e x8 ⟨Sh, rfl, oh, b8⟩
  have L8 : Hid (x7.heap.size ≤ x8.heap.size) := b8.size
  have B8 : Hid (Below w.heap.size w x8) := B7.out.trans (b8.mono B7.out.size)
  have Ow8 : Hid (WnOwn x8 w.heap.size x1.heap.size Sw R) := Ow7.out.later b8
  have Kw8 : Hid (Blk x8 gw 27 [.int .i64 R.top, .slice Sw.bits.a Sw.bits.n Sw.bits.c]) := Kw7.out.later b8
  have Kg8 : Hid (Blk x8 gg 27 [.int .i64 R.top, .slice Sg.bits.a Sg.bits.n Sg.bits.c]) := Kg7.out.later b8
  have Og8 : Hid (WnOwn x8 x2.heap.size x3.heap.size Sg (wnMarks 1 Sg R)) := Og7.out.later b8
  clear b8 B7 Ow7 Kw7 Kg7 Og7
  have Oh8 : Hid (WnOwn x8 x7.heap.size x8.heap.size Sh R) := oh
  clear oh
  obtain ⟨x9, hx9⟩ : ∃ x9, x8.alloc (.cells #[.int .i64 R.top, .slice Sh.bits.a Sh.bits.n Sh.bits.c] 27) = x9 := ⟨_, rfl⟩
  have HW9 : Hid (x8.alloc (.cells #[.int .i64 R.top, .slice Sh.bits.a Sh.bits.n Sh.bits.c] 27) = x9) := hx9
  have b9 : Below x8.heap.size x8 x9 := by rw [← hx9]; exact (Below.refl _ _).alloc (Nat.le_refl _) _
  have KN : Blk x9 x8.heap.size 27 [.int .i64 R.top, .slice Sh.bits.a Sh.bits.n Sh.bits.c] := by rw [← hx9]; exact Blk.new x8 _ _
  have HSZ9 : Hid (x9.heap.size = x8.heap.size + 1) := by rw [← hx9]; show _ = _; simp
  clear hx9
  have L9 : Hid (x8.heap.size ≤ x9.heap.size) := b9.size
  have B9 : Hid (Below w.heap.size w x9) := B8.out.trans (b9.mono B8.out.size)
  have Ow9 : Hid (WnOwn x9 w.heap.size x1.heap.size Sw R) := Ow8.out.later b9
  have Kw9 : Hid (Blk x9 gw 27 [.int .i64 R.top, .slice Sw.bits.a Sw.bits.n Sw.bits.c]) := Kw8.out.later b9
  have Kg9 : Hid (Blk x9 gg 27 [.int .i64 R.top, .slice Sg.bits.a Sg.bits.n Sg.bits.c]) := Kg8.out.later b9
  have Og9 : Hid (WnOwn x9 x2.heap.size x3.heap.size Sg (wnMarks 1 Sg R)) := Og8.out.later b9
  have Oh9 : Hid (WnOwn x9 x7.heap.size x8.heap.size Sh R) := Oh8.out.later b9
  clear b9 B8 Ow8 Kw8 Kg8 Og8 Oh8
  unfold wnV
  go_upto_region 14 with fail
  rw [HW9.out]
  obtain ⟨gh, hgh⟩ : ∃ gh, x8.heap.size = gh := ⟨_, rfl⟩
  have Ggh : Hid (x8.heap.size = gh ∧ x9.heap.size = gh + 1) := ⟨hgh, by rw [← hgh]; exact HSZ9.out⟩
  rw [hgh] at KN ⊢
  clear HW9 HSZ9 hgh
  have Kh9 : Hid (Blk x9 gh 27 [.int .i64 R.top, .slice Sh.bits.a Sh.bits.n Sh.bits.c]) := KN
  clear KN
  have ca0 := Kh9.out.cell 0 rfl
  have ca1 := Kh9.out.cell 1 rfl
  have cb0 := Kw9.out.cell 0 rfl
  have cb1 := Kw9.out.cell 1 rfl
  go_wp2_with fail
  refine (eqWin Sh Sw R x9 Oh9.out.rd Ow9.out.rd HRL.out).mono ?_
  rintro e x10 ⟨rfl, b10⟩
  clear ca0 ca1
  clear cb0 cb1
  have L10 : Hid (x9.heap.size ≤ x10.heap.size) := b10.size
  have B10 : Hid (Below w.heap.size w x10) := B9.out.trans (b10.mono B9.out.size)
  have Ow10 : Hid (WnOwn x10 w.heap.size x1.heap.size Sw R) := Ow9.out.later b10
  have Kw10 : Hid (Blk x10 gw 27 [.int .i64 R.top, .slice Sw.bits.a Sw.bits.n Sw.bits.c]) := Kw9.out.later b10
  have Kg10 : Hid (Blk x10 gg 27 [.int .i64 R.top, .slice Sg.bits.a Sg.bits.n Sg.bits.c]) := Kg9.out.later b10
  have Og10 : Hid (WnOwn x10 x2.heap.size x3.heap.size Sg (wnMarks 1 Sg R)) := Og9.out.later b10
  have Oh10 : Hid (WnOwn x10 x7.heap.size x8.heap.size Sh R) := Oh9.out.later b10
  have Kh10 : Hid (Blk x10 gh 27 [.int .i64 R.top, .slice Sh.bits.a Sh.bits.n Sh.bits.c]) := Kh9.out.later b10
  clear b10 B9 Ow9 Kw9 Kg9 Og9 Oh9 Kh9
  have ca0 := Kg10.out.cell 0 rfl
  have ca1 := Kg10.out.cell 1 rfl
  go_wp2_with fail
  refine (heldWin Sg R 1 x10 Og10.out.rd (by omega) HGS.out).mono ?_
  rintro e x11 ⟨rfl, b11⟩
  clear ca0 ca1
  have L11 : Hid (x10.heap.size ≤ x11.heap.size) := b11.size
  have B11 : Hid (Below w.heap.size w x11) := B10.out.trans (b11.mono B10.out.size)
  have Ow11 : Hid (WnOwn x11 w.heap.size x1.heap.size Sw R) := Ow10.out.later b11
  have Kw11 : Hid (Blk x11 gw 27 [.int .i64 R.top, .slice Sw.bits.a Sw.bits.n Sw.bits.c]) := Kw10.out.later b11
  have Kg11 : Hid (Blk x11 gg 27 [.int .i64 R.top, .slice Sg.bits.a Sg.bits.n Sg.bits.c]) := Kg10.out.later b11
  have Og11 : Hid (WnOwn x11 x2.heap.size x3.heap.size Sg (wnMarks 1 Sg R)) := Og10.out.later b11
  have Oh11 : Hid (WnOwn x11 x7.heap.size x8.heap.size Sh R) := Oh10.out.later b11
  have Kh11 : Hid (Blk x11 gh 27 [.int .i64 R.top, .slice Sh.bits.a Sh.bits.n Sh.bits.c]) := Kh10.out.later b11
  clear b11 B10 Ow10 Kw10 Kg10 Og10 Oh10 Kh10
  go_wp2
  go_ret
  exact ⟨rfl, B11.out⟩
end Go.Proofs.Ytdoichpaobiaeaa.LawWinNew

/-
  The walk of the law FnExactWinOf: at every argument it answers true, and nothing that was there is written.
-/
import Derived.Test.YtdoichpaobiaeaaWnV
import Derived.Test.YtdoichpaobiaeaaWnG
import Derived.Test.YtdoichpaobiaeaaOps
namespace Go.Proofs.Ytdoichpaobiaeaa.LawWinOf
open Go.RowKit Go.Proofs.Ytdoichpaobiaeaa.Mem Go.Proofs.Ytdoichpaobiaeaa.Blk Go.Proofs.Ytdoichpaobiaeaa.Zone Go.Proofs.Ytdoichpaobiaeaa.ZoneI Go.Proofs.Ytdoichpaobiaeaa.MemI Go.Proofs.Ytdoichpaobiaeaa.WnZ Go.Proofs.Ytdoichpaobiaeaa.Each Go.Proofs.Ytdoichpaobiaeaa.Copy Go.Proofs.Ytdoichpaobiaeaa.Ops Go.Proofs.Ytdoichpaobiaeaa.WinP Go.Proofs.Ytdoichpaobiaeaa.WnS Go.Proofs.Ytdoichpaobiaeaa.WnK Go.Proofs.Ytdoichpaobiaeaa.WnT Go.Proofs.Ytdoichpaobiaeaa.WnU Go.Proofs.Ytdoichpaobiaeaa.WnV Go.Proofs.Ytdoichpaobiaeaa.WnG

set_option maxRecDepth 100000 in
set_option maxHeartbeats 8000000 in
theorem walk (a : Option Addr) (n c : Nat) (l : List Int) (w : World) (h : ISRd w ⟨a, n, c⟩ l) :
    Calls Try.prog 11 #[.slice a n c] w fun e w' => e = .returned (.bool true) ∧ Below w.heap.size w w' := by
  obtain ⟨R, hR⟩ : ∃ R : WnD, ofD l l.length = R := ⟨_, rfl⟩
  have HRD : Hid (ofD l l.length = R) := hR
  clear hR
  have HRS : Hid (WnShort R 1048576) := by rw [← HRD.out]; exact short_mid (of_short _ _)
  have HRL : Hid (WnShort R 4194304) := short_big2 HRS.out
  have HR : Hid (ISRd w ⟨a, n, c⟩ l) := h
  have HN : Hid (n = l.length) := h.len
  by_cases hbig : (n : Int) > 1048576
  · go_enter Try.func11, Try.ntmps11
    go_wp2
    go_ret
    exact ⟨rfl, Below.refl _ _⟩
  have hll : l.length ≤ 1048576 := by have := HN.out; omega
  clear h
  go_enter Try.func11, Try.ntmps11
  go_wp2_with fail
  refine (toI ⟨a, n, c⟩ l w HR.out (by omega)).mono ?_
  rintro e x1 ⟨rfl, op, b1⟩
  obtain ⟨qp, hqp⟩ : ∃ q, w.heap.size = q := ⟨_, rfl⟩
  rw [hqp] at op ⊢
  have L1 : Hid (w.heap.size ≤ x1.heap.size) := b1.size
  have B1 : Hid (Below w.heap.size w x1) := b1
  clear b1
  have Gqp : Hid (w.heap.size = qp) := hqp
  have Op1 : Hid (ISOwn x1 qp x1.heap.size ⟨some ⟨qp, 0, none⟩, n, n⟩ l) := op
  clear op hqp
  go_wp2_with fail
  refine (specWinOf (some ⟨qp, 0, none⟩) n n l x1 Op1.out.rd (by omega)).mono ?_
  unfold Made
  rw [HRD.out]
  rintro e x2 ⟨Sw, rfl, ow, b2⟩
  have L2 : Hid (x1.heap.size ≤ x2.heap.size) := b2.size
  have B2 : Hid (Below w.heap.size w x2) := B1.out.trans (b2.mono B1.out.size)
  have Op2 : Hid (ISOwn x2 qp x1.heap.size ⟨some ⟨qp, 0, none⟩, n, n⟩ l) := Op1.out.later b2
  clear b2 B1 Op1
  have Ow2 : Hid (WnOwn x2 x1.heap.size x2.heap.size Sw R) := ow
  clear ow
  obtain ⟨x3, hx3⟩ : ∃ x3, x2.alloc (.cells #[.int .i64 R.top, .slice Sw.bits.a Sw.bits.n Sw.bits.c] 27) = x3 := ⟨_, rfl⟩
  have HW3 : Hid (x2.alloc (.cells #[.int .i64 R.top, .slice Sw.bits.a Sw.bits.n Sw.bits.c] 27) = x3) := hx3
  have b3 : Below x2.heap.size x2 x3 := by rw [← hx3]; exact (Below.refl _ _).alloc (Nat.le_refl _) _
  have KN : Blk x3 x2.heap.size 27 [.int .i64 R.top, .slice Sw.bits.a Sw.bits.n Sw.bits.c] := by rw [← hx3]; exact Blk.new x2 _ _
  have HSZ3 : Hid (x3.heap.size = x2.heap.size + 1) := by rw [← hx3]; show _ = _; simp
  clear hx3
  have L3 : Hid (x2.heap.size ≤ x3.heap.size) := b3.size
  have B3 : Hid (Below w.heap.size w x3) := B2.out.trans (b3.mono B2.out.size)
  have Op3 : Hid (ISOwn x3 qp x1.heap.size ⟨some ⟨qp, 0, none⟩, n, n⟩ l) := Op2.out.later b3
  have Ow3 : Hid (WnOwn x3 x1.heap.size x2.heap.size Sw R) := Ow2.out.later b3
  clear b3 B2 Op2 Ow2
  unfold wnV
  go_upto_region 4 with fail
  rw [HW3.out]
  obtain ⟨gw, hgw⟩ : ∃ gw, x2.heap.size = gw := ⟨_, rfl⟩
  have Ggw : Hid (x2.heap.size = gw ∧ x3.heap.size = gw + 1) := ⟨hgw, by rw [← hgw]; exact HSZ3.out⟩
  rw [hgw] at KN ⊢
  clear HW3 HSZ3 hgw
  have Kw3 : Hid (Blk x3 gw 27 [.int .i64 R.top, .slice Sw.bits.a Sw.bits.n Sw.bits.c]) := KN
  clear KN
  clear Op3
  go_wp2_with fail
  refine (toI ⟨a, n, c⟩ l x3 (HR.out.later B3.out) (by omega)).mono ?_
  rintro e x4 ⟨rfl, ox, b4⟩
  obtain ⟨qx, hqx⟩ : ∃ q, x3.heap.size = q := ⟨_, rfl⟩
  rw [hqx] at ox ⊢
  have L4 : Hid (x3.heap.size ≤ x4.heap.size) := b4.size
  have B4 : Hid (Below w.heap.size w x4) := B3.out.trans (b4.mono B3.out.size)
  have Ow4 : Hid (WnOwn x4 x1.heap.size x2.heap.size Sw R) := Ow3.out.later b4
  have Kw4 : Hid (Blk x4 gw 27 [.int .i64 R.top, .slice Sw.bits.a Sw.bits.n Sw.bits.c]) := Kw3.out.later b4
  clear b4 B3 Ow3 Kw3
  have Gqx : Hid (x3.heap.size = qx) := hqx
  have Ox4 : Hid (ISOwn x4 qx x4.heap.size ⟨some ⟨qx, 0, none⟩, n, n⟩ l) := ox
  clear ox hqx
  go_wp2_with fail
  refine (implWinOf (some ⟨qx, 0, none⟩) n n l x4 Ox4.out.rd (by omega)).mono ?_
  unfold Made
  rw [HRD.out]
  rintro e x5 ⟨Sg, rfl, og, b5⟩
  have L5 : Hid (x4.heap.size ≤ x5.heap.size) := b5.size
  have B5 : Hid (Below w.heap.size w x5) := B4.out.trans (b5.mono B4.out.size)
  have Ow5 : Hid (WnOwn x5 x1.heap.size x2.heap.size Sw R) := Ow4.out.later b5
  have Kw5 : Hid (Blk x5 gw 27 [.int .i64 R.top, .slice Sw.bits.a Sw.bits.n Sw.bits.c]) := Kw4.out.later b5
  have Ox5 : Hid (ISOwn x5 qx x4.heap.size ⟨some ⟨qx, 0, none⟩, n, n⟩ l) := Ox4.out.later b5
  clear b5 B4 Ow4 Kw4 Ox4
  have Og5 : Hid (WnOwn x5 x4.heap.size x5.heap.size Sg R) := og
  clear og
  obtain ⟨x6, hx6⟩ : ∃ x6, x5.alloc (.cells #[.int .i64 R.top, .slice Sg.bits.a Sg.bits.n Sg.bits.c] 27) = x6 := ⟨_, rfl⟩
  have HW6 : Hid (x5.alloc (.cells #[.int .i64 R.top, .slice Sg.bits.a Sg.bits.n Sg.bits.c] 27) = x6) := hx6
  have b6 : Below x5.heap.size x5 x6 := by rw [← hx6]; exact (Below.refl _ _).alloc (Nat.le_refl _) _
  have KN : Blk x6 x5.heap.size 27 [.int .i64 R.top, .slice Sg.bits.a Sg.bits.n Sg.bits.c] := by rw [← hx6]; exact Blk.new x5 _ _
  have HSZ6 : Hid (x6.heap.size = x5.heap.size + 1) := by rw [← hx6]; show _ = _; simp
  clear hx6
  have L6 : Hid (x5.heap.size ≤ x6.heap.size) := b6.size
  have B6 : Hid (Below w.heap.size w x6) := B5.out.trans (b6.mono B5.out.size)
  have Ow6 : Hid (WnOwn x6 x1.heap.size x2.heap.size Sw R) := Ow5.out.later b6
  have Kw6 : Hid (Blk x6 gw 27 [.int .i64 R.top, .slice Sw.bits.a Sw.bits.n Sw.bits.c]) := Kw5.out.later b6
  have Ox6 : Hid (ISOwn x6 qx x4.heap.size ⟨some ⟨qx, 0, none⟩, n, n⟩ l) := Ox5.out.later b6
  have Og6 : Hid (WnOwn x6 x4.heap.size x5.heap.size Sg R) := Og5.out.later b6
  clear b6 B5 Ow5 Kw5 Ox5 Og5
  unfold wnV
  go_upto_region 6 with fail
  rw [HW6.out]
  obtain ⟨gg, hgg⟩ : ∃ gg, x5.heap.size = gg := ⟨_, rfl⟩
  have Ggg : Hid (x5.heap.size = gg ∧ x6.heap.size = gg + 1) := ⟨hgg, by rw [← hgg]; exact HSZ6.out⟩
  rw [hgg] at KN ⊢
  clear HW6 HSZ6 hgg
  have Kg6 : Hid (Blk x6 gg 27 [.int .i64 R.top, .slice Sg.bits.a Sg.bits.n Sg.bits.c]) := KN
  clear KN
  have ca0 := Kg6.out.cell 0 rfl
  have ca1 := Kg6.out.cell 1 rfl
  have cb0 := Kw6.out.cell 0 rfl
  have cb1 := Kw6.out.cell 1 rfl
  go_wp2_with fail
  refine (eqWin Sg Sw R x6 Og6.out.rd Ow6.out.rd HRL.out).mono ?_
  rintro e x7 ⟨rfl, b7⟩
  clear ca0 ca1
  clear cb0 cb1
  have L7 : Hid (x6.heap.size ≤ x7.heap.size) := b7.size
  have B7 : Hid (Below w.heap.size w x7) := B6.out.trans (b7.mono B6.out.size)
  have Ow7 : Hid (WnOwn x7 x1.heap.size x2.heap.size Sw R) := Ow6.out.later b7
  have Kw7 : Hid (Blk x7 gw 27 [.int .i64 R.top, .slice Sw.bits.a Sw.bits.n Sw.bits.c]) := Kw6.out.later b7
  have Ox7 : Hid (ISOwn x7 qx x4.heap.size ⟨some ⟨qx, 0, none⟩, n, n⟩ l) := Ox6.out.later b7
  have Og7 : Hid (WnOwn x7 x4.heap.size x5.heap.size Sg R) := Og6.out.later b7
  have Kg7 : Hid (Blk x7 gg 27 [.int .i64 R.top, .slice Sg.bits.a Sg.bits.n Sg.bits.c]) := Kg6.out.later b7
  clear b7 B6 Ow6 Kw6 Ox6 Og6 Kg6
  go_wp2_with fail
  refine (toI ⟨a, n, c⟩ l x7 (HR.out.later B7.out) (by omega)).mono ?_
  rintro e x8 ⟨rfl, oy, b8⟩
  obtain ⟨qy, hqy⟩ : ∃ q, x7.heap.size = q := ⟨_, rfl⟩
  rw [hqy] at oy ⊢
  have L8 : Hid (x7.heap.size ≤ x8.heap.size) := b8.size
  have B8 : Hid (Below w.heap.size w x8) := B7.out.trans (b8.mono B7.out.size)
  have Ow8 : Hid (WnOwn x8 x1.heap.size x2.heap.size Sw R) := Ow7.out.later b8
  have Kw8 : Hid (Blk x8 gw 27 [.int .i64 R.top, .slice Sw.bits.a Sw.bits.n Sw.bits.c]) := Kw7.out.later b8
  have Ox8 : Hid (ISOwn x8 qx x4.heap.size ⟨some ⟨qx, 0, none⟩, n, n⟩ l) := Ox7.out.later b8
  have Og8 : Hid (WnOwn x8 x4.heap.size x5.heap.size Sg R) := Og7.out.later b8
  have Kg8 : Hid (Blk x8 gg 27 [.int .i64 R.top, .slice Sg.bits.a Sg.bits.n Sg.bits.c]) := Kg7.out.later b8
  clear b8 B7 Ow7 Kw7 Ox7 Og7 Kg7
  have Gqy : Hid (x7.heap.size = qy) := hqy
  have Oy8 : Hid (ISOwn x8 qy x8.heap.size ⟨some ⟨qy, 0, none⟩, n, n⟩ l) := oy
  clear oy hqy
  go_wp2_with fail
  refine (eqI ⟨some ⟨qx, 0, none⟩, n, n⟩ ⟨some ⟨qy, 0, none⟩, n, n⟩ l l x8 Ox8.out.rd Oy8.out.rd (by omega) (by omega)).mono ?_
  rw [decide_eq_true (show l = l from rfl)]
  rintro e x9 ⟨rfl, b9⟩
  have L9 : Hid (x8.heap.size ≤ x9.heap.size) := b9.size
  have B9 : Hid (Below w.heap.size w x9) := B8.out.trans (b9.mono B8.out.size)
  have Ow9 : Hid (WnOwn x9 x1.heap.size x2.heap.size Sw R) := Ow8.out.later b9
  have Kw9 : Hid (Blk x9 gw 27 [.int .i64 R.top, .slice Sw.bits.a Sw.bits.n Sw.bits.c]) := Kw8.out.later b9
  have Ox9 : Hid (ISOwn x9 qx x4.heap.size ⟨some ⟨qx, 0, none⟩, n, n⟩ l) := Ox8.out.later b9
  have Og9 : Hid (WnOwn x9 x4.heap.size x5.heap.size Sg R) := Og8.out.later b9
  have Kg9 : Hid (Blk x9 gg 27 [.int .i64 R.top, .slice Sg.bits.a Sg.bits.n Sg.bits.c]) := Kg8.out.later b9
  have Oy9 : Hid (ISOwn x9 qy x8.heap.size ⟨some ⟨qy, 0, none⟩, n, n⟩ l) := Oy8.out.later b9
  clear b9 B8 Ow8 Kw8 Ox8 Og8 Kg8 Oy8
  clear Oy9
  have hn4 : n ≤ 4194304 := by have := HN.out; omega
  have hk0 : ¬ ((1 : Int) + (n : Int) < 0) := by omega
  go_wp2_with fail
  refine (markI ⟨some ⟨qx, 0, none⟩, n, n⟩ l 1 x9 qx x4.heap.size Ox9.out (by omega) (by omega) (by omega)).mono ?_
  rintro e x10 ⟨rfl, _, k10⟩
  have L10 : Hid (x9.heap.size ≤ x10.heap.size) := k10.size
  have B10 : Hid (Below w.heap.size w x10) := B9.out.trans (k10.below (by have := L1.out; have := Gqp.out; have := L2.out; have := L3.out; have := Ggw.out; have := L4.out; have := Gqx.out; have := L5.out; have := L6.out; have := Ggg.out; have := L7.out; have := L8.out; have := Gqy.out; have := L9.out; have := L10.out; omega) B9.out.size)
  have Ow10 : Hid (WnOwn x10 x1.heap.size x2.heap.size Sw R) := Ow9.out.carry k10 (by have := L1.out; have := Gqp.out; have := L2.out; have := L3.out; have := Ggw.out; have := L4.out; have := Gqx.out; have := L5.out; have := L6.out; have := Ggg.out; have := L7.out; have := L8.out; have := Gqy.out; have := L9.out; have := L10.out; omega)
  have Kw10 : Hid (Blk x10 gw 27 [.int .i64 R.top, .slice Sw.bits.a Sw.bits.n Sw.bits.c]) := Kw9.out.keep (k10.block _ Kw9.out.lt (by have := L1.out; have := Gqp.out; have := L2.out; have := L3.out; have := Ggw.out; have := L4.out; have := Gqx.out; have := L5.out; have := L6.out; have := Ggg.out; have := L7.out; have := L8.out; have := Gqy.out; have := L9.out; have := L10.out; omega))
  have Og10 : Hid (WnOwn x10 x4.heap.size x5.heap.size Sg R) := Og9.out.carry k10 (by have := L1.out; have := Gqp.out; have := L2.out; have := L3.out; have := Ggw.out; have := L4.out; have := Gqx.out; have := L5.out; have := L6.out; have := Ggg.out; have := L7.out; have := L8.out; have := Gqy.out; have := L9.out; have := L10.out; omega)
  have Kg10 : Hid (Blk x10 gg 27 [.int .i64 R.top, .slice Sg.bits.a Sg.bits.n Sg.bits.c]) := Kg9.out.keep (k10.block _ Kg9.out.lt (by have := L1.out; have := Gqp.out; have := L2.out; have := L3.out; have := Ggw.out; have := L4.out; have := Gqx.out; have := L5.out; have := L6.out; have := Ggg.out; have := L7.out; have := L8.out; have := Gqy.out; have := L9.out; have := L10.out; omega))
  clear k10 B9 Ow9 Kw9 Ox9 Og9 Kg9
  have ca0 := Kg10.out.cell 0 rfl
  have ca1 := Kg10.out.cell 1 rfl
  have cb0 := Kw10.out.cell 0 rfl
  have cb1 := Kw10.out.cell 1 rfl
  go_wp2_with fail
  refine (eqWin Sg Sw R x10 Og10.out.rd Ow10.out.rd HRL.out).mono ?_
  rintro e x11 ⟨rfl, b11⟩
  clear ca0 ca1
  clear cb0 cb1
  have L11 : Hid (x10.heap.size ≤ x11.heap.size) := b11.size
  have B11 : Hid (Below w.heap.size w x11) := B10.out.trans (b11.mono B10.out.size)
  have Ow11 : Hid (WnOwn x11 x1.heap.size x2.heap.size Sw R) := Ow10.out.later b11
  have Kw11 : Hid (Blk x11 gw 27 [.int .i64 R.top, .slice Sw.bits.a Sw.bits.n Sw.bits.c]) := Kw10.out.later b11
  have Og11 : Hid (WnOwn x11 x4.heap.size x5.heap.size Sg R) := Og10.out.later b11
  have Kg11 : Hid (Blk x11 gg 27 [.int .i64 R.top, .slice Sg.bits.a Sg.bits.n Sg.bits.c]) := Kg10.out.later b11
  clear b11 B10 Ow10 Kw10 Og10 Kg10
  have HGS : Hid ((1 : Int) + (wnSum Sg : Int) ≤ 4194304) := sum_le Og11.out.rd HRS.out
  have hm0 : ¬ ((1 : Int) + (wnSum Sg : Int) < 0) := by omega
  have hmm : ((1 : Int) + (wnSum Sg : Int) != 1 + (wnSum Sg : Int)) = false := by simp
  have ca0 := Kg11.out.cell 0 rfl
  have ca1 := Kg11.out.cell 1 rfl
  go_wp2_with fail
  refine (markWin Sg R 1 x11 x4.heap.size x5.heap.size Og11.out (by have := L1.out; have := Gqp.out; have := L2.out; have := L3.out; have := Ggw.out; have := L4.out; have := Gqx.out; have := L5.out; have := L6.out; have := Ggg.out; have := L7.out; have := L8.out; have := Gqy.out; have := L9.out; have := L10.out; have := L11.out; omega) (by omega) HGS.out).mono ?_
  rintro e x12 ⟨rfl, og, k12⟩
  clear ca0 ca1
  have L12 : Hid (x11.heap.size ≤ x12.heap.size) := k12.size
  have B12 : Hid (Below w.heap.size w x12) := B11.out.trans (k12.below (by have := L1.out; have := Gqp.out; have := L2.out; have := L3.out; have := Ggw.out; have := L4.out; have := Gqx.out; have := L5.out; have := L6.out; have := Ggg.out; have := L7.out; have := L8.out; have := Gqy.out; have := L9.out; have := L10.out; have := L11.out; have := L12.out; omega) B11.out.size)
  have Ow12 : Hid (WnOwn x12 x1.heap.size x2.heap.size Sw R) := Ow11.out.carry k12 (by have := L1.out; have := Gqp.out; have := L2.out; have := L3.out; have := Ggw.out; have := L4.out; have := Gqx.out; have := L5.out; have := L6.out; have := Ggg.out; have := L7.out; have := L8.out; have := Gqy.out; have := L9.out; have := L10.out; have := L11.out; have := L12.out; omega)
  have Kw12 : Hid (Blk x12 gw 27 [.int .i64 R.top, .slice Sw.bits.a Sw.bits.n Sw.bits.c]) := Kw11.out.keep (k12.block _ Kw11.out.lt (by have := L1.out; have := Gqp.out; have := L2.out; have := L3.out; have := Ggw.out; have := L4.out; have := Gqx.out; have := L5.out; have := L6.out; have := Ggg.out; have := L7.out; have := L8.out; have := Gqy.out; have := L9.out; have := L10.out; have := L11.out; have := L12.out; omega))
  have Kg12 : Hid (Blk x12 gg 27 [.int .i64 R.top, .slice Sg.bits.a Sg.bits.n Sg.bits.c]) := Kg11.out.keep (k12.block _ Kg11.out.lt (by have := L1.out; have := Gqp.out; have := L2.out; have := L3.out; have := Ggw.out; have := L4.out; have := Gqx.out; have := L5.out; have := L6.out; have := Ggg.out; have := L7.out; have := L8.out; have := Gqy.out; have := L9.out; have := L10.out; have := L11.out; have := L12.out; omega))
  clear k12 B11 Ow11 Kw11 Og11 Kg11
  have Og12 : Hid (WnOwn x12 x4.heap.size x5.heap.size Sg (wnMarks 1 Sg R)) := og
  clear og
  have ca0 := Kg12.out.cell 0 rfl
  have ca1 := Kg12.out.cell 1 rfl
  go_wp2_with fail
  refine (heldWin Sg R 1 x12 Og12.out.rd (by omega) HGS.out).mono ?_
  rintro e x13 ⟨rfl, b13⟩
  clear ca0 ca1
  have L13 : Hid (x12.heap.size ≤ x13.heap.size) := b13.size
  have B13 : Hid (Below w.heap.size w x13) := B12.out.trans (b13.mono B12.out.size)
  have Ow13 : Hid (WnOwn x13 x1.heap.size x2.heap.size Sw R) := Ow12.out.later b13
  have Kw13 : Hid (Blk x13 gw 27 [.int .i64 R.top, .slice Sw.bits.a Sw.bits.n Sw.bits.c]) := Kw12.out.later b13
  have Kg13 : Hid (Blk x13 gg 27 [.int .i64 R.top, .slice Sg.bits.a Sg.bits.n Sg.bits.c]) := Kg12.out.later b13
  have Og13 : Hid (WnOwn x13 x4.heap.size x5.heap.size Sg (wnMarks 1 Sg R)) := Og12.out.later b13
  clear b13 B12 Ow12 Kw12 Kg12 Og12
  go_wp2_with fail
  refine (toI ⟨a, n, c⟩ l x13 (HR.out.later B13.out) (by omega)).mono ?_
  rintro e x14 ⟨rfl, oy, b14⟩
  obtain ⟨qy, hqy⟩ : ∃ q, x13.heap.size = q := ⟨_, rfl⟩
  rw [hqy] at oy ⊢
  have L14 : Hid (x13.heap.size ≤ x14.heap.size) := b14.size
  have B14 : Hid (Below w.heap.size w x14) := B13.out.trans (b14.mono B13.out.size)
  have Ow14 : Hid (WnOwn x14 x1.heap.size x2.heap.size Sw R) := Ow13.out.later b14
  have Kw14 : Hid (Blk x14 gw 27 [.int .i64 R.top, .slice Sw.bits.a Sw.bits.n Sw.bits.c]) := Kw13.out.later b14
  have Kg14 : Hid (Blk x14 gg 27 [.int .i64 R.top, .slice Sg.bits.a Sg.bits.n Sg.bits.c]) := Kg13.out.later b14
  have Og14 : Hid (WnOwn x14 x4.heap.size x5.heap.size Sg (wnMarks 1 Sg R)) := Og13.out.later b14
  clear b14 B13 Ow13 Kw13 Kg13 Og13
  have Gqy : Hid (x13.heap.size = qy) := hqy
  have Oy14 : Hid (ISOwn x14 qy x14.heap.size ⟨some ⟨qy, 0, none⟩, n, n⟩ l) := oy
  clear oy hqy
  go_wp2_with fail
  refine (implWinOf (some ⟨qy, 0, none⟩) n n l x14 Oy14.out.rd (by omega)).mono ?_
  unfold Made
  rw [HRD.out]
  rintro e x15 ⟨Sh, rfl, oh, b15⟩
  have L15 : Hid (x14.heap.size ≤ x15.heap.size) := b15.size
  have B15 : Hid (Below w.heap.size w x15) := B14.out.trans (b15.mono B14.out.size)
  have Ow15 : Hid (WnOwn x15 x1.heap.size x2.heap.size Sw R) := Ow14.out.later b15
  have Kw15 : Hid (Blk x15 gw 27 [.int .i64 R.top, .slice Sw.bits.a Sw.bits.n Sw.bits.c]) := Kw14.out.later b15
  have Kg15 : Hid (Blk x15 gg 27 [.int .i64 R.top, .slice Sg.bits.a Sg.bits.n Sg.bits.c]) := Kg14.out.later b15
  have Og15 : Hid (WnOwn x15 x4.heap.size x5.heap.size Sg (wnMarks 1 Sg R)) := Og14.out.later b15
  have Oy15 : Hid (ISOwn x15 qy x14.heap.size ⟨some ⟨qy, 0, none⟩, n, n⟩ l) := Oy14.out.later b15
  clear b15 B14 Ow14 Kw14 Kg14 Og14 Oy14
  have Oh15 : Hid (WnOwn x15 x14.heap.size x15.heap.size Sh R) := oh
  clear oh
  obtain ⟨x16, hx16⟩ : ∃ x16, x15.alloc (.cells #[.int .i64 R.top, .slice Sh.bits.a Sh.bits.n Sh.bits.c] 27) = x16 := ⟨_, rfl⟩
  have HW16 : Hid (x15.alloc (.cells #[.int .i64 R.top, .slice Sh.bits.a Sh.bits.n Sh.bits.c] 27) = x16) := hx16
  have b16 : Below x15.heap.size x15 x16 := by rw [← hx16]; exact (Below.refl _ _).alloc (Nat.le_refl _) _
  have KN : Blk x16 x15.heap.size 27 [.int .i64 R.top, .slice Sh.bits.a Sh.bits.n Sh.bits.c] := by rw [← hx16]; exact Blk.new x15 _ _
  have HSZ16 : Hid (x16.heap.size = x15.heap.size + 1) := by rw [← hx16]; show _ = _; simp
  clear hx16
  have L16 : Hid (x15.heap.size ≤ x16.heap.size) := b16.size
  have B16 : Hid (Below w.heap.size w x16) := B15.out.trans (b16.mono B15.out.size)
  have Ow16 : Hid (WnOwn x16 x1.heap.size x2.heap.size Sw R) := Ow15.out.later b16
  have Kw16 : Hid (Blk x16 gw 27 [.int .i64 R.top, .slice Sw.bits.a Sw.bits.n Sw.bits.c]) := Kw15.out.later b16
  have Kg16 : Hid (Blk x16 gg 27 [.int .i64 R.top, .slice Sg.bits.a Sg.bits.n Sg.bits.c]) := Kg15.out.later b16
  have Og16 : Hid (WnOwn x16 x4.heap.size x5.heap.size Sg (wnMarks 1 Sg R)) := Og15.out.later b16
  have Oy16 : Hid (ISOwn x16 qy x14.heap.size ⟨some ⟨qy, 0, none⟩, n, n⟩ l) := Oy15.out.later b16
  have Oh16 : Hid (WnOwn x16 x14.heap.size x15.heap.size Sh R) := Oh15.out.later b16
  clear b16 B15 Ow15 Kw15 Kg15 Og15 Oy15 Oh15
  unfold wnV
  go_upto_region 23 with fail
  rw [HW16.out]
  obtain ⟨gh, hgh⟩ : ∃ gh, x15.heap.size = gh := ⟨_, rfl⟩
  have Ggh : Hid (x15.heap.size = gh ∧ x16.heap.size = gh + 1) := ⟨hgh, by rw [← hgh]; exact HSZ16.out⟩
  rw [hgh] at KN ⊢
  clear HW16 HSZ16 hgh
  have Kh16 : Hid (Blk x16 gh 27 [.int .i64 R.top, .slice Sh.bits.a Sh.bits.n Sh.bits.c]) := KN
  clear KN
  clear Oy16
  have ca0 := Kh16.out.cell 0 rfl
  have ca1 := Kh16.out.cell 1 rfl
  have cb0 := Kw16.out.cell 0 rfl
  have cb1 := Kw16.out.cell 1 rfl
  go_wp2_with fail
  refine (eqWin Sh Sw R x16 Oh16.out.rd Ow16.out.rd HRL.out).mono ?_
  rintro e x17 ⟨rfl, b17⟩
  clear ca0 ca1
  clear cb0 cb1
  have L17 : Hid (x16.heap.size ≤ x17.heap.size) := b17.size
  have B17 : Hid (Below w.heap.size w x17) := B16.out.trans (b17.mono B16.out.size)
  have Ow17 : Hid (WnOwn x17 x1.heap.size x2.heap.size Sw R) := Ow16.out.later b17
  have Kw17 : Hid (Blk x17 gw 27 [.int .i64 R.top, .slice Sw.bits.a Sw.bits.n Sw.bits.c]) := Kw16.out.later b17
  have Kg17 : Hid (Blk x17 gg 27 [.int .i64 R.top, .slice Sg.bits.a Sg.bits.n Sg.bits.c]) := Kg16.out.later b17
  have Og17 : Hid (WnOwn x17 x4.heap.size x5.heap.size Sg (wnMarks 1 Sg R)) := Og16.out.later b17
  have Oh17 : Hid (WnOwn x17 x14.heap.size x15.heap.size Sh R) := Oh16.out.later b17
  have Kh17 : Hid (Blk x17 gh 27 [.int .i64 R.top, .slice Sh.bits.a Sh.bits.n Sh.bits.c]) := Kh16.out.later b17
  clear b17 B16 Ow16 Kw16 Kg16 Og16 Oh16 Kh16
  have ca0 := Kg17.out.cell 0 rfl
  have ca1 := Kg17.out.cell 1 rfl
  go_wp2_with fail
  refine (heldWin Sg R 1 x17 Og17.out.rd (by omega) HGS.out).mono ?_
  rintro e x18 ⟨rfl, b18⟩
  clear ca0 ca1
  have L18 : Hid (x17.heap.size ≤ x18.heap.size) := b18.size
  have B18 : Hid (Below w.heap.size w x18) := B17.out.trans (b18.mono B17.out.size)
  have Ow18 : Hid (WnOwn x18 x1.heap.size x2.heap.size Sw R) := Ow17.out.later b18
  have Kw18 : Hid (Blk x18 gw 27 [.int .i64 R.top, .slice Sw.bits.a Sw.bits.n Sw.bits.c]) := Kw17.out.later b18
  have Kg18 : Hid (Blk x18 gg 27 [.int .i64 R.top, .slice Sg.bits.a Sg.bits.n Sg.bits.c]) := Kg17.out.later b18
  have Og18 : Hid (WnOwn x18 x4.heap.size x5.heap.size Sg (wnMarks 1 Sg R)) := Og17.out.later b18
  have Oh18 : Hid (WnOwn x18 x14.heap.size x15.heap.size Sh R) := Oh17.out.later b18
  have Kh18 : Hid (Blk x18 gh 27 [.int .i64 R.top, .slice Sh.bits.a Sh.bits.n Sh.bits.c]) := Kh17.out.later b18
  clear b18 B17 Ow17 Kw17 Kg17 Og17 Oh17 Kh17
  go_wp2
  go_ret
  exact ⟨rfl, B18.out⟩
theorem walk1 (a : Option Addr) (n c : Nat) (z : List Int) (w : World) (h : IsRow .i64 w a n c z) :
    Calls Try.prog 11 #[.slice a n c] w fun e w' => e = .returned (.bool true) ∧ Below w.heap.size w w' := by
  have hc : n ≤ c := by
    rcases h with ⟨_, rfl, rfl, _⟩ | ⟨_, _, h, _⟩
    · exact Nat.le_refl _
    · exact h
  obtain ⟨l, h1, h2, h3, _⟩ := readI h
  exact walk a n c l w ⟨h1, h2, h3, hc⟩
end Go.Proofs.Ytdoichpaobiaeaa.LawWinOf

/-
  The walk of the law FnTimersBent: at every code what comes next of a timer, right or not, is as the specification has it.
-/
import Derived.Test.YtadlckgaeljdkaaDrTm
import Derived.Test.YtadlckgaeljdkaaTmI
import Derived.Test.YtadlckgaeljdkaaTmS
namespace Go.Proofs.Ytadlckgaeljdkaa.LawTimersBent
open Go.RowKit Go.Proofs.Ytadlckgaeljdkaa.Mem Go.Proofs.Ytadlckgaeljdkaa.App Go.Proofs.Ytadlckgaeljdkaa.Blk Go.Proofs.Ytadlckgaeljdkaa.Draw Go.Proofs.Ytadlckgaeljdkaa.Zone Go.Proofs.Ytadlckgaeljdkaa.Res Go.Proofs.Ytadlckgaeljdkaa.DrN Go.Proofs.Ytadlckgaeljdkaa.Words Go.Proofs.Ytadlckgaeljdkaa.TmP Go.Proofs.Ytadlckgaeljdkaa.TmE Go.Proofs.Ytadlckgaeljdkaa.DrTm Go.Proofs.Ytadlckgaeljdkaa.Shp

set_option maxRecDepth 100000 in
theorem bigNo (a : Option Addr) (len cap : Nat) (w : World) (h : len ≤ 1048576) :
    Calls Try.prog 10 #[.slice a len cap] w fun e w' => e = .returned (.bool false) ∧ w = w' := by
  have h' : ¬ ((1048576 : Int) < (len : Int)) := by omega
  go_enter Try.func10, Try.ntmps10
  go_wp2
  go_ret
  exact ⟨rfl, rfl⟩
set_option maxRecDepth 100000 in
theorem bigYes (a : Option Addr) (len cap : Nat) (w : World) (h : 1048576 < len) :
    Calls Try.prog 10 #[.slice a len cap] w fun e w' => e = .returned (.bool true) ∧ w = w' := by
  have h' : (1048576 : Int) < (len : Int) := by omega
  go_enter Try.func10, Try.ntmps10
  go_wp2
  go_ret
  exact ⟨rfl, rfl⟩
set_option maxRecDepth 100000 in
set_option maxHeartbeats 16000000 in
theorem small (a : Option Addr) (len cap : Nat) (l : List Int) (w : World) (hl : len = l.length) (hr : Rd w a l) (hb : Bytes l) (hlen : len ≤ 1048576) :
    Calls Try.prog 4 #[.slice a len cap] w fun e w' => e = .returned (.bool true) ∧ Below w.heap.size w w' := by
  have HR : Hid (Rd w a l) := hr
  have HL : Hid (len = l.length) := hl
  have HB : Hid (Bytes l) := hb
  clear hr hl hb
  have B0 : Hid (Below w.heap.size w w) := Below.refl _ _
  go_enter Try.func4, Try.ntmps4
  go_wp2_with fail
  refine (bigNo a len cap w hlen).mono ?_
  rintro e w0 ⟨rfl, rfl⟩
  go_wp2_with fail
  refine (drawTimerNext a len cap l w HL.out (HR.out.later B0.out (Nat.le_refl _)) HB.out hlen).mono ?_
  rintro e x1 ⟨D, n, rfl, b⟩
  have L1 : Hid (w.heap.size ≤ x1.heap.size) := b.size
  have B1 : Hid (Below w.heap.size w x1) := B0.out.trans (b.mono B0.out.size)
  clear b B0
  obtain ⟨x2, hx2⟩ : ∃ x2, x1.alloc (.cells #[.bool D.on, .int .i64 D.due, .int .i64 D.wait, .int .i64 D.tries] 26) = x2 := ⟨_, rfl⟩
  have HW2 : Hid (x1.alloc (.cells #[.bool D.on, .int .i64 D.due, .int .i64 D.wait, .int .i64 D.tries] 26) = x2) := hx2
  have b2 : Below x1.heap.size x1 x2 := by rw [← hx2]; exact (Below.refl _ _).alloc (Nat.le_refl _) _
  have KN : Blk x2 x1.heap.size 26 [.bool D.on, .int .i64 D.due, .int .i64 D.wait, .int .i64 D.tries] := by rw [← hx2]; exact Blk.new x1 _ _
  have HSZ2 : Hid (x2.heap.size = x1.heap.size + 1) := by rw [← hx2]; show _ = _; simp
  clear hx2
  have L2 : Hid (x1.heap.size ≤ x2.heap.size) := b2.size
  have B2 : Hid (Below w.heap.size w x2) := B1.out.trans (b2.mono B1.out.size)
  clear b2 B1
  unfold tmV
  go_upto_region 4 with fail
  rw [HW2.out]
  obtain ⟨gd, hgd⟩ : ∃ g, x1.heap.size = g := ⟨_, rfl⟩
  have Ggd : Hid (x1.heap.size = gd ∧ x2.heap.size = gd + 1) := ⟨hgd, by rw [← hgd]; exact HSZ2.out⟩
  rw [hgd] at KN ⊢
  clear HW2 HSZ2 hgd
  have KD2 : Hid (Blk x2 gd 26 [.bool D.on, .int .i64 D.due, .int .i64 D.wait, .int .i64 D.tries]) := KN
  clear KN
  obtain ⟨N, hN⟩ : ∃ z : TmD, nextT D n = z := ⟨_, rfl⟩
  have HN : Hid (nextT D n = N) := hN
  clear hN
  obtain ⟨C, hC⟩ : ∃ z : Int, nextC D n = z := ⟨_, rfl⟩
  have HC : Hid (nextC D n = C) := hC
  clear hC
  obtain ⟨f, hf⟩ : ∃ z : Bool, fires D n = z := ⟨_, rfl⟩
  have HFI : Hid (fires D n = f) := hf
  clear hf
  have d0 := KD2.out.cell 0 rfl
  have d1 := KD2.out.cell 1 rfl
  have d2 := KD2.out.cell 2 rfl
  have d3 := KD2.out.cell 3 rfl
  go_wp2_with fail
  refine (TmI.implTimerNext D n x2).mono ?_
  rw [HN.out, HC.out]
  rintro e x3 ⟨rfl, b⟩
  clear d0 d1 d2 d3
  have L3 : Hid (x2.heap.size ≤ x3.heap.size) := b.size
  have B3 : Hid (Below w.heap.size w x3) := B2.out.trans (b.mono B2.out.size)
  have KD3 : Hid (Blk x3 gd 26 [.bool D.on, .int .i64 D.due, .int .i64 D.wait, .int .i64 D.tries]) := KD2.out.later b
  clear b B2 KD2
  obtain ⟨x4, hx4⟩ : ∃ x4, x3.alloc (.cells #[.bool N.on, .int .i64 N.due, .int .i64 N.wait, .int .i64 N.tries] 26) = x4 := ⟨_, rfl⟩
  have HW4 : Hid (x3.alloc (.cells #[.bool N.on, .int .i64 N.due, .int .i64 N.wait, .int .i64 N.tries] 26) = x4) := hx4
  have b4 : Below x3.heap.size x3 x4 := by rw [← hx4]; exact (Below.refl _ _).alloc (Nat.le_refl _) _
  have KN : Blk x4 x3.heap.size 26 [.bool N.on, .int .i64 N.due, .int .i64 N.wait, .int .i64 N.tries] := by rw [← hx4]; exact Blk.new x3 _ _
  have HSZ4 : Hid (x4.heap.size = x3.heap.size + 1) := by rw [← hx4]; show _ = _; simp
  clear hx4
  have L4 : Hid (x3.heap.size ≤ x4.heap.size) := b4.size
  have B4 : Hid (Below w.heap.size w x4) := B3.out.trans (b4.mono B3.out.size)
  have KD4 : Hid (Blk x4 gd 26 [.bool D.on, .int .i64 D.due, .int .i64 D.wait, .int .i64 D.tries]) := KD3.out.later b4
  clear b4 B3 KD3
  unfold tmV
  go_upto_region 5 with fail
  rw [HW4.out]
  obtain ⟨gx, hgx⟩ : ∃ g, x3.heap.size = g := ⟨_, rfl⟩
  have Ggx : Hid (x3.heap.size = gx ∧ x4.heap.size = gx + 1) := ⟨hgx, by rw [← hgx]; exact HSZ4.out⟩
  rw [hgx] at KN ⊢
  clear HW4 HSZ4 hgx
  have KX4 : Hid (Blk x4 gx 26 [.bool N.on, .int .i64 N.due, .int .i64 N.wait, .int .i64 N.tries]) := KN
  clear KN
  have d0 := KD4.out.cell 0 rfl
  have d1 := KD4.out.cell 1 rfl
  have d2 := KD4.out.cell 2 rfl
  have d3 := KD4.out.cell 3 rfl
  go_wp2_with fail
  refine (TmS.specTimerNext D n x4).mono ?_
  rw [HN.out, HC.out]
  rintro e x5 ⟨rfl, b⟩
  clear d0 d1 d2 d3
  have L5 : Hid (x4.heap.size ≤ x5.heap.size) := b.size
  have B5 : Hid (Below w.heap.size w x5) := B4.out.trans (b.mono B4.out.size)
  have KD5 : Hid (Blk x5 gd 26 [.bool D.on, .int .i64 D.due, .int .i64 D.wait, .int .i64 D.tries]) := KD4.out.later b
  have KX5 : Hid (Blk x5 gx 26 [.bool N.on, .int .i64 N.due, .int .i64 N.wait, .int .i64 N.tries]) := KX4.out.later b
  clear b B4 KD4 KX4
  obtain ⟨x6, hx6⟩ : ∃ x6, x5.alloc (.cells #[.bool N.on, .int .i64 N.due, .int .i64 N.wait, .int .i64 N.tries] 26) = x6 := ⟨_, rfl⟩
  have HW6 : Hid (x5.alloc (.cells #[.bool N.on, .int .i64 N.due, .int .i64 N.wait, .int .i64 N.tries] 26) = x6) := hx6
  have b6 : Below x5.heap.size x5 x6 := by rw [← hx6]; exact (Below.refl _ _).alloc (Nat.le_refl _) _
  have KN : Blk x6 x5.heap.size 26 [.bool N.on, .int .i64 N.due, .int .i64 N.wait, .int .i64 N.tries] := by rw [← hx6]; exact Blk.new x5 _ _
  have HSZ6 : Hid (x6.heap.size = x5.heap.size + 1) := by rw [← hx6]; show _ = _; simp
  clear hx6
  have L6 : Hid (x5.heap.size ≤ x6.heap.size) := b6.size
  have B6 : Hid (Below w.heap.size w x6) := B5.out.trans (b6.mono B5.out.size)
  have KD6 : Hid (Blk x6 gd 26 [.bool D.on, .int .i64 D.due, .int .i64 D.wait, .int .i64 D.tries]) := KD5.out.later b6
  have KX6 : Hid (Blk x6 gx 26 [.bool N.on, .int .i64 N.due, .int .i64 N.wait, .int .i64 N.tries]) := KX5.out.later b6
  clear b6 B5 KD5 KX5
  unfold tmV
  go_upto_region 6 with fail
  rw [HW6.out]
  obtain ⟨gy, hgy⟩ : ∃ g, x5.heap.size = g := ⟨_, rfl⟩
  have Ggy : Hid (x5.heap.size = gy ∧ x6.heap.size = gy + 1) := ⟨hgy, by rw [← hgy]; exact HSZ6.out⟩
  rw [hgy] at KN ⊢
  clear HW6 HSZ6 hgy
  have KY6 : Hid (Blk x6 gy 26 [.bool N.on, .int .i64 N.due, .int .i64 N.wait, .int .i64 N.tries]) := KN
  clear KN
  cases f with
  | false =>
    obtain ⟨e1, e2⟩ := next_no HFI.out
    obtain rfl : N = D := by rw [← HN.out]; exact e1
    obtain rfl : C = 0 := by rw [← HC.out]; exact e2
    clear e1 e2
    have eqp := eqTm N.on N.due N.wait N.tries N.on N.due N.wait N.tries
    simp only [beq_self_eq_true, Bool.and_self] at eqp
    have d0 := KD6.out.cell 0 rfl
    have d1 := KD6.out.cell 1 rfl
    have d2 := KD6.out.cell 2 rfl
    have d3 := KD6.out.cell 3 rfl
    have p0 := KX6.out.cell 0 rfl
    have p1 := KX6.out.cell 1 rfl
    have p2 := KX6.out.cell 2 rfl
    have p3 := KX6.out.cell 3 rfl
    have q0 := KY6.out.cell 0 rfl
    have q1 := KY6.out.cell 1 rfl
    have q2 := KY6.out.cell 2 rfl
    have q3 := KY6.out.cell 3 rfl
    go_wp2_with fail
    refine (TmI.implTimerFires N n x6).mono ?_
    rw [HFI.out]
    rintro e x7 ⟨rfl, b⟩
    clear d0 d1 d2 d3
    clear p0 p1 p2 p3
    clear q0 q1 q2 q3
    have L7 : Hid (x6.heap.size ≤ x7.heap.size) := b.size
    have B7 : Hid (Below w.heap.size w x7) := B6.out.trans (b.mono B6.out.size)
    have KD7 : Hid (Blk x7 gd 26 [.bool N.on, .int .i64 N.due, .int .i64 N.wait, .int .i64 N.tries]) := KD6.out.later b
    have KX7 : Hid (Blk x7 gx 26 [.bool N.on, .int .i64 N.due, .int .i64 N.wait, .int .i64 N.tries]) := KX6.out.later b
    have KY7 : Hid (Blk x7 gy 26 [.bool N.on, .int .i64 N.due, .int .i64 N.wait, .int .i64 N.tries]) := KY6.out.later b
    clear b B6 KD6 KX6 KY6
    have d0 := KD7.out.cell 0 rfl
    have d1 := KD7.out.cell 1 rfl
    have d2 := KD7.out.cell 2 rfl
    have d3 := KD7.out.cell 3 rfl
    have p0 := KX7.out.cell 0 rfl
    have p1 := KX7.out.cell 1 rfl
    have p2 := KX7.out.cell 2 rfl
    have p3 := KX7.out.cell 3 rfl
    have q0 := KY7.out.cell 0 rfl
    have q1 := KY7.out.cell 1 rfl
    have q2 := KY7.out.cell 2 rfl
    have q3 := KY7.out.cell 3 rfl
    go_wp2
    go_ret
    exact ⟨rfl, B7.out⟩
  | true =>
    by_cases h5 : D.tries = 5
    case pos =>
      obtain ⟨e1, e2⟩ := next_end HFI.out h5
      obtain rfl : N = ⟨false, 0, 0, 0⟩ := by rw [← HN.out]; exact e1
      obtain rfl : C = 2 := by rw [← HC.out]; exact e2
      clear e1 e2 h5
      have eqp := eqTm false 0 0 0 false 0 0 0
      simp only [beq_self_eq_true, Bool.and_self] at eqp
      have d0 := KD6.out.cell 0 rfl
      have d1 := KD6.out.cell 1 rfl
      have d2 := KD6.out.cell 2 rfl
      have d3 := KD6.out.cell 3 rfl
      have p0 := KX6.out.cell 0 rfl
      have p1 := KX6.out.cell 1 rfl
      have p2 := KX6.out.cell 2 rfl
      have p3 := KX6.out.cell 3 rfl
      have q0 := KY6.out.cell 0 rfl
      have q1 := KY6.out.cell 1 rfl
      have q2 := KY6.out.cell 2 rfl
      have q3 := KY6.out.cell 3 rfl
      go_wp2_with fail
      refine (TmI.implTimerFires D n x6).mono ?_
      rw [HFI.out]
      rintro e x7 ⟨rfl, b⟩
      clear d0 d1 d2 d3
      clear p0 p1 p2 p3
      clear q0 q1 q2 q3
      have L7 : Hid (x6.heap.size ≤ x7.heap.size) := b.size
      have B7 : Hid (Below w.heap.size w x7) := B6.out.trans (b.mono B6.out.size)
      have KD7 : Hid (Blk x7 gd 26 [.bool D.on, .int .i64 D.due, .int .i64 D.wait, .int .i64 D.tries]) := KD6.out.later b
      have KX7 : Hid (Blk x7 gx 26 [.bool false, .int .i64 0, .int .i64 0, .int .i64 0]) := KX6.out.later b
      have KY7 : Hid (Blk x7 gy 26 [.bool false, .int .i64 0, .int .i64 0, .int .i64 0]) := KY6.out.later b
      clear b B6 KD6 KX6 KY6
      have d0 := KD7.out.cell 0 rfl
      have d1 := KD7.out.cell 1 rfl
      have d2 := KD7.out.cell 2 rfl
      have d3 := KD7.out.cell 3 rfl
      have p0 := KX7.out.cell 0 rfl
      have p1 := KX7.out.cell 1 rfl
      have p2 := KX7.out.cell 2 rfl
      have p3 := KX7.out.cell 3 rfl
      have q0 := KY7.out.cell 0 rfl
      have q1 := KY7.out.cell 1 rfl
      have q2 := KY7.out.cell 2 rfl
      have q3 := KY7.out.cell 3 rfl
      go_wp2
      go_ret
      exact ⟨rfl, B7.out⟩
    case neg =>
      obtain ⟨_, e2⟩ := next_on HFI.out h5
      obtain rfl : C = 1 := by rw [← HC.out]; exact e2
      clear e2 h5
      have eqp := eqTm N.on N.due N.wait N.tries N.on N.due N.wait N.tries
      simp only [beq_self_eq_true, Bool.and_self] at eqp
      have d0 := KD6.out.cell 0 rfl
      have d1 := KD6.out.cell 1 rfl
      have d2 := KD6.out.cell 2 rfl
      have d3 := KD6.out.cell 3 rfl
      have p0 := KX6.out.cell 0 rfl
      have p1 := KX6.out.cell 1 rfl
      have p2 := KX6.out.cell 2 rfl
      have p3 := KX6.out.cell 3 rfl
      have q0 := KY6.out.cell 0 rfl
      have q1 := KY6.out.cell 1 rfl
      have q2 := KY6.out.cell 2 rfl
      have q3 := KY6.out.cell 3 rfl
      go_wp2_with fail
      refine (TmI.implTimerFires D n x6).mono ?_
      rw [HFI.out]
      rintro e x7 ⟨rfl, b⟩
      clear d0 d1 d2 d3
      clear p0 p1 p2 p3
      clear q0 q1 q2 q3
      have L7 : Hid (x6.heap.size ≤ x7.heap.size) := b.size
      have B7 : Hid (Below w.heap.size w x7) := B6.out.trans (b.mono B6.out.size)
      have KD7 : Hid (Blk x7 gd 26 [.bool D.on, .int .i64 D.due, .int .i64 D.wait, .int .i64 D.tries]) := KD6.out.later b
      have KX7 : Hid (Blk x7 gx 26 [.bool N.on, .int .i64 N.due, .int .i64 N.wait, .int .i64 N.tries]) := KX6.out.later b
      have KY7 : Hid (Blk x7 gy 26 [.bool N.on, .int .i64 N.due, .int .i64 N.wait, .int .i64 N.tries]) := KY6.out.later b
      clear b B6 KD6 KX6 KY6
      have d0 := KD7.out.cell 0 rfl
      have d1 := KD7.out.cell 1 rfl
      have d2 := KD7.out.cell 2 rfl
      have d3 := KD7.out.cell 3 rfl
      have p0 := KX7.out.cell 0 rfl
      have p1 := KX7.out.cell 1 rfl
      have p2 := KX7.out.cell 2 rfl
      have p3 := KX7.out.cell 3 rfl
      have q0 := KY7.out.cell 0 rfl
      have q1 := KY7.out.cell 1 rfl
      have q2 := KY7.out.cell 2 rfl
      have q3 := KY7.out.cell 3 rfl
      go_wp2
      go_ret
      exact ⟨rfl, B7.out⟩

set_option maxRecDepth 100000 in
theorem walk (a : Option Addr) (len cap : Nat) (zs : List Int) (w : World)  (h : IsRow .u8 w a len cap zs) :
    Calls Try.prog 4 #[.slice a len cap] w fun e w' => e = .returned (.bool true) ∧ Below w.heap.size w w' := by
  obtain ⟨l, h1, h2, _, h4⟩ := h.read
  by_cases hl : len ≤ 1048576
  · exact small a len cap l w  h1 h2 h4 hl
  · clear h h1 h2 h4
    go_enter Try.func4, Try.ntmps4
    go_wp2_with fail
    refine (bigYes a len cap w (by omega)).mono ?_
    rintro e w0 ⟨rfl, rfl⟩
    go_wp2
    go_ret
    exact ⟨rfl, Below.refl _ _⟩
end Go.Proofs.Ytadlckgaeljdkaa.LawTimersBent

/-
  The walk of the law FnExactJarNew: at every argument it answers true, and nothing that was there is written.
-/
import Derived.Test.YtpgapjdejelajaaDoorCkJ
import Derived.Test.YtpgapjdejelajaaDoorCkT
import Derived.Test.YtpgapjdejelajaaDoorShp
import Derived.Test.YtpgapjdejelajaaDoorOps
import Derived.Test.YtpgapjdejelajaaDoorCa1
namespace Go.Proofs.YtpgapjdejelajaaDoor.LawJarNew
open Go.RowKit Go.Proofs.YtpgapjdejelajaaDoor.Mem Go.Proofs.YtpgapjdejelajaaDoor.Blk Go.Proofs.YtpgapjdejelajaaDoor.Zone Go.Proofs.YtpgapjdejelajaaDoor.ZoneB Go.Proofs.YtpgapjdejelajaaDoor.ZoneI Go.Proofs.YtpgapjdejelajaaDoor.MemI Go.Proofs.YtpgapjdejelajaaDoor.Each Go.Proofs.YtpgapjdejelajaaDoor.Copy Go.Proofs.YtpgapjdejelajaaDoor.Ops Go.Proofs.YtpgapjdejelajaaDoor.Shp Go.Proofs.YtpgapjdejelajaaDoor.App Go.Proofs.YtpgapjdejelajaaDoor.JaZ Go.Proofs.YtpgapjdejelajaaDoor.JaL Go.Proofs.YtpgapjdejelajaaDoor.CkP Go.Proofs.YtpgapjdejelajaaDoor.CkQ Go.Proofs.YtpgapjdejelajaaDoor.Comp

set_option maxRecDepth 100000 in
set_option maxHeartbeats 8000000 in
theorem walk (s0 : Sl) (l0 : List Int) (w : World) (hT : Tab w) (h0 : SRd w s0 l0) :
    Calls Tryd.prog 3 #[.slice s0.a s0.n s0.c] w fun e w' => e = .returned (.bool true) ∧ Below w.heap.size w w' := by
  obtain ⟨R0, hR0⟩ : ∃ R : JaD, newJ l0 = R := ⟨_, rfl⟩
  have HRD0 : Hid (newJ l0 = R0) := hR0
  clear hR0
  have HT : Hid (Tab w) := hT
  clear hT
  have HR0 : Hid (SRd w s0 l0) := h0
  have HN0 : Hid (s0.n = l0.length) := h0.len
  clear h0
  go_enter Tryd.func3, Tryd.ntmps3
  by_cases hbig0 : (s0.n : Int) > 1048576
  · go_wp2
    go_ret
    exact ⟨rfl, Below.refl _ _⟩
  have HL0 : Hid (l0.length ≤ 1048576) := by have := HN0.out; show _ ≤ _; omega
  have HRS0 : Hid (JaShort R0 1048576) := by rw [← HRD0.out]; exact ja_short_le (newJ_short _) (by omega)
  have HRL0 : Hid (JaShort R0 4194304) := ja_short_le HRS0.out (by omega)
  go_wp2_with fail
  refine (toB s0 l0 w HR0.out (by have := HL0.out; omega)).mono ?_
  rintro e x1 ⟨rfl, o, b1⟩
  obtain ⟨qp0, hq⟩ : ∃ q, w.heap.size = q := ⟨_, rfl⟩
  rw [hq] at o ⊢
  have L1 : Hid (w.heap.size ≤ x1.heap.size) := b1.size
  have B1 : Hid (Below w.heap.size w x1) := b1
  clear b1
  have Gqp0 : Hid (w.heap.size = qp0) := hq
  have Op0_1 : Hid (SOwn x1 qp0 x1.heap.size ⟨some ⟨qp0, 0, none⟩, s0.n, s0.n⟩ l0) := o
  clear o hq
  go_wp2_with fail
  refine (CkT.specJarNew ⟨some ⟨qp0, 0, none⟩, s0.n, s0.n⟩ l0 x1 Op0_1.out.rd).mono ?_
  rw [HRD0.out]
  rintro e x2 ⟨Sw0, rfl, o0, b⟩
  have L2 : Hid (x1.heap.size ≤ x2.heap.size) := b.size
  have B2 : Hid (Below w.heap.size w x2) := B1.out.trans (b.mono B1.out.size)
  have Op0_2 : Hid (SOwn x2 qp0 x1.heap.size ⟨some ⟨qp0, 0, none⟩, s0.n, s0.n⟩ l0) := Op0_1.out.later b
  clear b B1 Op0_1
  have Ow0r_2 : Hid (JaOwn x2 x1.heap.size x2.heap.size Sw0 R0) := o0
  clear o0
  obtain ⟨x3, hx3⟩ : ∃ x3, x2.alloc (.cells #[.slice Sw0.secret.a Sw0.secret.n Sw0.secret.c] 24) = x3 := ⟨_, rfl⟩
  have HW3 : Hid (x2.alloc (.cells #[.slice Sw0.secret.a Sw0.secret.n Sw0.secret.c] 24) = x3) := hx3
  have b : Below x2.heap.size x2 x3 := by rw [← hx3]; exact (Below.refl _ _).alloc (Nat.le_refl _) _
  have KN0 : Blk x3 (x2.heap.size) 24 [.slice Sw0.secret.a Sw0.secret.n Sw0.secret.c] := by
    have q := Blk.new (x2) 24 [.slice Sw0.secret.a Sw0.secret.n Sw0.secret.c]
    rw [← hx3]; exact q
  have HSZ3 : Hid (x3.heap.size = x2.heap.size + 1) := by rw [← hx3]; show _ = _; simp
  clear hx3
  have L3 : Hid (x2.heap.size ≤ x3.heap.size) := b.size
  have B3 : Hid (Below w.heap.size w x3) := B2.out.trans (b.mono B2.out.size)
  have Op0_3 : Hid (SOwn x3 qp0 x1.heap.size ⟨some ⟨qp0, 0, none⟩, s0.n, s0.n⟩ l0) := Op0_2.out.later b
  have Ow0r_3 : Hid (JaOwn x3 x1.heap.size x2.heap.size Sw0 R0) := Ow0r_2.out.later b
  clear b B2 Op0_2 Ow0r_2
  unfold jaV
  go_upto_region 4 with fail
  rw [HW3.out]
  obtain ⟨gw0, hg0⟩ : ∃ g, x2.heap.size = g := ⟨_, rfl⟩
  have Gw_ : Hid (x2.heap.size + 0 = gw0 ∧ x3.heap.size = x2.heap.size + 1) := ⟨by omega, HSZ3.out⟩
  rw [hg0] at KN0
  rw [hg0]
  clear HW3 HSZ3 hg0
  have Kw0_3 : Hid (Blk x3 gw0 24 [.slice Sw0.secret.a Sw0.secret.n Sw0.secret.c]) := KN0
  clear KN0
  clear Op0_3
  go_wp2_with fail
  refine (toB s0 l0 x3 (HR0.out.later B3.out) (by have := HL0.out; omega)).mono ?_
  rintro e x4 ⟨rfl, o, b4⟩
  obtain ⟨qx0, hq⟩ : ∃ q, x3.heap.size = q := ⟨_, rfl⟩
  rw [hq] at o ⊢
  have L4 : Hid (x3.heap.size ≤ x4.heap.size) := b4.size
  have B4 : Hid (Below w.heap.size w x4) := B3.out.trans (b4.mono B3.out.size)
  have Ow0r_4 : Hid (JaOwn x4 x1.heap.size x2.heap.size Sw0 R0) := Ow0r_3.out.later b4
  have Kw0_4 : Hid (Blk x4 gw0 24 [.slice Sw0.secret.a Sw0.secret.n Sw0.secret.c]) := Kw0_3.out.later b4
  clear b4 B3 Ow0r_3 Kw0_3
  have Gqx0 : Hid (x3.heap.size = qx0) := hq
  have Ox0_4 : Hid (SOwn x4 qx0 x4.heap.size ⟨some ⟨qx0, 0, none⟩, s0.n, s0.n⟩ l0) := o
  clear o hq
  go_wp2_with fail
  refine (CkJ.implJarNew ⟨some ⟨qx0, 0, none⟩, s0.n, s0.n⟩ l0 x4 (HT.out.later B4.out) Ox0_4.out.rd).mono ?_
  rw [HRD0.out]
  rintro e x5 ⟨Sg0, rfl, o0, b⟩
  have L5 : Hid (x4.heap.size ≤ x5.heap.size) := b.size
  have B5 : Hid (Below w.heap.size w x5) := B4.out.trans (b.mono B4.out.size)
  have Ow0r_5 : Hid (JaOwn x5 x1.heap.size x2.heap.size Sw0 R0) := Ow0r_4.out.later b
  have Kw0_5 : Hid (Blk x5 gw0 24 [.slice Sw0.secret.a Sw0.secret.n Sw0.secret.c]) := Kw0_4.out.later b
  have Ox0_5 : Hid (SOwn x5 qx0 x4.heap.size ⟨some ⟨qx0, 0, none⟩, s0.n, s0.n⟩ l0) := Ox0_4.out.later b
  clear b B4 Ow0r_4 Kw0_4 Ox0_4
  have Og0r_5 : Hid (JaOwn x5 x4.heap.size x5.heap.size Sg0 R0) := o0
  clear o0
  obtain ⟨x6, hx6⟩ : ∃ x6, x5.alloc (.cells #[.slice Sg0.secret.a Sg0.secret.n Sg0.secret.c] 24) = x6 := ⟨_, rfl⟩
  have HW6 : Hid (x5.alloc (.cells #[.slice Sg0.secret.a Sg0.secret.n Sg0.secret.c] 24) = x6) := hx6
  have b : Below x5.heap.size x5 x6 := by rw [← hx6]; exact (Below.refl _ _).alloc (Nat.le_refl _) _
  have KN0 : Blk x6 (x5.heap.size) 24 [.slice Sg0.secret.a Sg0.secret.n Sg0.secret.c] := by
    have q := Blk.new (x5) 24 [.slice Sg0.secret.a Sg0.secret.n Sg0.secret.c]
    rw [← hx6]; exact q
  have HSZ6 : Hid (x6.heap.size = x5.heap.size + 1) := by rw [← hx6]; show _ = _; simp
  clear hx6
  have L6 : Hid (x5.heap.size ≤ x6.heap.size) := b.size
  have B6 : Hid (Below w.heap.size w x6) := B5.out.trans (b.mono B5.out.size)
  have Ow0r_6 : Hid (JaOwn x6 x1.heap.size x2.heap.size Sw0 R0) := Ow0r_5.out.later b
  have Kw0_6 : Hid (Blk x6 gw0 24 [.slice Sw0.secret.a Sw0.secret.n Sw0.secret.c]) := Kw0_5.out.later b
  have Ox0_6 : Hid (SOwn x6 qx0 x4.heap.size ⟨some ⟨qx0, 0, none⟩, s0.n, s0.n⟩ l0) := Ox0_5.out.later b
  have Og0r_6 : Hid (JaOwn x6 x4.heap.size x5.heap.size Sg0 R0) := Og0r_5.out.later b
  clear b B5 Ow0r_5 Kw0_5 Ox0_5 Og0r_5
  unfold jaV
  go_upto_region 6 with fail
  rw [HW6.out]
  obtain ⟨gg0, hg0⟩ : ∃ g, x5.heap.size = g := ⟨_, rfl⟩
  have Gg_ : Hid (x5.heap.size + 0 = gg0 ∧ x6.heap.size = x5.heap.size + 1) := ⟨by omega, HSZ6.out⟩
  rw [hg0] at KN0
  rw [hg0]
  clear HW6 HSZ6 hg0
  have Kg0_6 : Hid (Blk x6 gg0 24 [.slice Sg0.secret.a Sg0.secret.n Sg0.secret.c]) := KN0
  clear KN0
  have ca0 := Kg0_6.out.cell 0 rfl
  have cb0 := Kw0_6.out.cell 0 rfl
  go_wp2_with fail
  refine (eqJar Sg0 Sw0 R0 x6 Og0r_6.out.rd Ow0r_6.out.rd HRL0.out).mono ?_
  rintro e x7 ⟨rfl, b7⟩
  clear ca0
  clear cb0
  have L7 : Hid (x6.heap.size ≤ x7.heap.size) := b7.size
  have B7 : Hid (Below w.heap.size w x7) := B6.out.trans (b7.mono B6.out.size)
  have Ow0r_7 : Hid (JaOwn x7 x1.heap.size x2.heap.size Sw0 R0) := Ow0r_6.out.later b7
  have Kw0_7 : Hid (Blk x7 gw0 24 [.slice Sw0.secret.a Sw0.secret.n Sw0.secret.c]) := Kw0_6.out.later b7
  have Ox0_7 : Hid (SOwn x7 qx0 x4.heap.size ⟨some ⟨qx0, 0, none⟩, s0.n, s0.n⟩ l0) := Ox0_6.out.later b7
  have Og0r_7 : Hid (JaOwn x7 x4.heap.size x5.heap.size Sg0 R0) := Og0r_6.out.later b7
  have Kg0_7 : Hid (Blk x7 gg0 24 [.slice Sg0.secret.a Sg0.secret.n Sg0.secret.c]) := Kg0_6.out.later b7
  clear b7 B6 Ow0r_6 Kw0_6 Ox0_6 Og0r_6 Kg0_6
  go_wp2_with fail
  refine (toB s0 l0 x7 (HR0.out.later B7.out) (by have := HL0.out; omega)).mono ?_
  rintro e x8 ⟨rfl, o, b8⟩
  obtain ⟨qy0, hq⟩ : ∃ q, x7.heap.size = q := ⟨_, rfl⟩
  rw [hq] at o ⊢
  have L8 : Hid (x7.heap.size ≤ x8.heap.size) := b8.size
  have B8 : Hid (Below w.heap.size w x8) := B7.out.trans (b8.mono B7.out.size)
  have Ow0r_8 : Hid (JaOwn x8 x1.heap.size x2.heap.size Sw0 R0) := Ow0r_7.out.later b8
  have Kw0_8 : Hid (Blk x8 gw0 24 [.slice Sw0.secret.a Sw0.secret.n Sw0.secret.c]) := Kw0_7.out.later b8
  have Ox0_8 : Hid (SOwn x8 qx0 x4.heap.size ⟨some ⟨qx0, 0, none⟩, s0.n, s0.n⟩ l0) := Ox0_7.out.later b8
  have Og0r_8 : Hid (JaOwn x8 x4.heap.size x5.heap.size Sg0 R0) := Og0r_7.out.later b8
  have Kg0_8 : Hid (Blk x8 gg0 24 [.slice Sg0.secret.a Sg0.secret.n Sg0.secret.c]) := Kg0_7.out.later b8
  clear b8 B7 Ow0r_7 Kw0_7 Ox0_7 Og0r_7 Kg0_7
  have Gqy0 : Hid (x7.heap.size = qy0) := hq
  have Oy0_8 : Hid (SOwn x8 qy0 x8.heap.size ⟨some ⟨qy0, 0, none⟩, s0.n, s0.n⟩ l0) := o
  clear o hq
  go_wp2_with fail
  refine (eqB ⟨some ⟨qx0, 0, none⟩, s0.n, s0.n⟩ ⟨some ⟨qy0, 0, none⟩, s0.n, s0.n⟩ l0 l0 x8 Ox0_8.out.rd Oy0_8.out.rd (by have := HL0.out; omega) (by have := HL0.out; omega)).mono ?_
  rw [decide_eq_true (show l0 = l0 from rfl)]
  rintro e x9 ⟨rfl, b9⟩
  have L9 : Hid (x8.heap.size ≤ x9.heap.size) := b9.size
  have B9 : Hid (Below w.heap.size w x9) := B8.out.trans (b9.mono B8.out.size)
  have Ow0r_9 : Hid (JaOwn x9 x1.heap.size x2.heap.size Sw0 R0) := Ow0r_8.out.later b9
  have Kw0_9 : Hid (Blk x9 gw0 24 [.slice Sw0.secret.a Sw0.secret.n Sw0.secret.c]) := Kw0_8.out.later b9
  have Ox0_9 : Hid (SOwn x9 qx0 x4.heap.size ⟨some ⟨qx0, 0, none⟩, s0.n, s0.n⟩ l0) := Ox0_8.out.later b9
  have Og0r_9 : Hid (JaOwn x9 x4.heap.size x5.heap.size Sg0 R0) := Og0r_8.out.later b9
  have Kg0_9 : Hid (Blk x9 gg0 24 [.slice Sg0.secret.a Sg0.secret.n Sg0.secret.c]) := Kg0_8.out.later b9
  have Oy0_9 : Hid (SOwn x9 qy0 x8.heap.size ⟨some ⟨qy0, 0, none⟩, s0.n, s0.n⟩ l0) := Oy0_8.out.later b9
  clear b9 B8 Ow0r_8 Kw0_8 Ox0_8 Og0r_8 Kg0_8 Oy0_8
  clear Oy0_9
  go_wp2_with fail
  refine (markB ⟨some ⟨qx0, 0, none⟩, s0.n, s0.n⟩ l0 (1 : Int) x9 qx0 x4.heap.size Ox0_9.out (by have := HL0.out; omega) (by omega) (by omega)).mono ?_
  rintro e x10 ⟨rfl, _, k10, _⟩
  have L10 : Hid (x9.heap.size ≤ x10.heap.size) := k10.size
  have B10 : Hid (Below w.heap.size w x10) := B9.out.trans (k10.below (by have := L1.out; have := Gqp0.out; have := L2.out; have := L3.out; have := Gw_.out; have := L4.out; have := Gqx0.out; have := L5.out; have := L6.out; have := Gg_.out; have := L7.out; have := L8.out; have := Gqy0.out; have := L9.out; have := L10.out; omega) B9.out.size)
  have Ow0r_10 : Hid (JaOwn x10 x1.heap.size x2.heap.size Sw0 R0) := Ow0r_9.out.carry k10 (by have := L1.out; have := Gqp0.out; have := L2.out; have := L3.out; have := Gw_.out; have := L4.out; have := Gqx0.out; have := L5.out; have := L6.out; have := Gg_.out; have := L7.out; have := L8.out; have := Gqy0.out; have := L9.out; have := L10.out; omega)
  have Kw0_10 : Hid (Blk x10 gw0 24 [.slice Sw0.secret.a Sw0.secret.n Sw0.secret.c]) := Kw0_9.out.keep (k10.block _ Kw0_9.out.lt (by have := L1.out; have := Gqp0.out; have := L2.out; have := L3.out; have := Gw_.out; have := L4.out; have := Gqx0.out; have := L5.out; have := L6.out; have := Gg_.out; have := L7.out; have := L8.out; have := Gqy0.out; have := L9.out; have := L10.out; omega))
  have Og0r_10 : Hid (JaOwn x10 x4.heap.size x5.heap.size Sg0 R0) := Og0r_9.out.carry k10 (by have := L1.out; have := Gqp0.out; have := L2.out; have := L3.out; have := Gw_.out; have := L4.out; have := Gqx0.out; have := L5.out; have := L6.out; have := Gg_.out; have := L7.out; have := L8.out; have := Gqy0.out; have := L9.out; have := L10.out; omega)
  have Kg0_10 : Hid (Blk x10 gg0 24 [.slice Sg0.secret.a Sg0.secret.n Sg0.secret.c]) := Kg0_9.out.keep (k10.block _ Kg0_9.out.lt (by have := L1.out; have := Gqp0.out; have := L2.out; have := L3.out; have := Gw_.out; have := L4.out; have := Gqx0.out; have := L5.out; have := L6.out; have := Gg_.out; have := L7.out; have := L8.out; have := Gqy0.out; have := L9.out; have := L10.out; omega))
  clear k10 B9 Ow0r_9 Kw0_9 Ox0_9 Og0r_9 Kg0_9
  have hk0 : ¬ (((1 : Int) + (s0.n : Int)) < 0) := by omega
  have ca0 := Kg0_10.out.cell 0 rfl
  have cb0 := Kw0_10.out.cell 0 rfl
  go_wp2_with fail
  refine (eqJar Sg0 Sw0 R0 x10 Og0r_10.out.rd Ow0r_10.out.rd HRL0.out).mono ?_
  rintro e x11 ⟨rfl, b11⟩
  clear ca0
  clear cb0
  have L11 : Hid (x10.heap.size ≤ x11.heap.size) := b11.size
  have B11 : Hid (Below w.heap.size w x11) := B10.out.trans (b11.mono B10.out.size)
  have Ow0r_11 : Hid (JaOwn x11 x1.heap.size x2.heap.size Sw0 R0) := Ow0r_10.out.later b11
  have Kw0_11 : Hid (Blk x11 gw0 24 [.slice Sw0.secret.a Sw0.secret.n Sw0.secret.c]) := Kw0_10.out.later b11
  have Og0r_11 : Hid (JaOwn x11 x4.heap.size x5.heap.size Sg0 R0) := Og0r_10.out.later b11
  have Kg0_11 : Hid (Blk x11 gg0 24 [.slice Sg0.secret.a Sg0.secret.n Sg0.secret.c]) := Kg0_10.out.later b11
  clear b11 B10 Ow0r_10 Kw0_10 Og0r_10 Kg0_10
  have hms0 : (jaSum Sg0 : Int) ≤ 1048576 := by have := ja_sum_le Og0r_11.out.rd HRS0.out; omega
  have ca0 := Kg0_11.out.cell 0 rfl
  go_wp2_with fail
  refine (markJar Sg0 R0 (1 : Int) x11 x4.heap.size x5.heap.size Og0r_11.out (by have := L1.out; have := Gqp0.out; have := L2.out; have := L3.out; have := Gw_.out; have := L4.out; have := Gqx0.out; have := L5.out; have := L6.out; have := Gg_.out; have := L7.out; have := L8.out; have := Gqy0.out; have := L9.out; have := L10.out; have := L11.out; omega) (by omega) (by omega)).mono ?_
  rintro e x12 ⟨rfl, og, k12⟩
  clear ca0
  have L12 : Hid (x11.heap.size ≤ x12.heap.size) := k12.size
  have B12 : Hid (Below w.heap.size w x12) := B11.out.trans (k12.below (by have := L1.out; have := Gqp0.out; have := L2.out; have := L3.out; have := Gw_.out; have := L4.out; have := Gqx0.out; have := L5.out; have := L6.out; have := Gg_.out; have := L7.out; have := L8.out; have := Gqy0.out; have := L9.out; have := L10.out; have := L11.out; have := L12.out; omega) B11.out.size)
  have Ow0r_12 : Hid (JaOwn x12 x1.heap.size x2.heap.size Sw0 R0) := Ow0r_11.out.carry k12 (by have := L1.out; have := Gqp0.out; have := L2.out; have := L3.out; have := Gw_.out; have := L4.out; have := Gqx0.out; have := L5.out; have := L6.out; have := Gg_.out; have := L7.out; have := L8.out; have := Gqy0.out; have := L9.out; have := L10.out; have := L11.out; have := L12.out; omega)
  have Kw0_12 : Hid (Blk x12 gw0 24 [.slice Sw0.secret.a Sw0.secret.n Sw0.secret.c]) := Kw0_11.out.keep (k12.block _ Kw0_11.out.lt (by have := L1.out; have := Gqp0.out; have := L2.out; have := L3.out; have := Gw_.out; have := L4.out; have := Gqx0.out; have := L5.out; have := L6.out; have := Gg_.out; have := L7.out; have := L8.out; have := Gqy0.out; have := L9.out; have := L10.out; have := L11.out; have := L12.out; omega))
  have Kg0_12 : Hid (Blk x12 gg0 24 [.slice Sg0.secret.a Sg0.secret.n Sg0.secret.c]) := Kg0_11.out.keep (k12.block _ Kg0_11.out.lt (by have := L1.out; have := Gqp0.out; have := L2.out; have := L3.out; have := Gw_.out; have := L4.out; have := Gqx0.out; have := L5.out; have := L6.out; have := Gg_.out; have := L7.out; have := L8.out; have := Gqy0.out; have := L9.out; have := L10.out; have := L11.out; have := L12.out; omega))
  clear k12 B11 Ow0r_11 Kw0_11 Og0r_11 Kg0_11
  have Og0r_12 : Hid (JaOwn x12 x4.heap.size x5.heap.size Sg0 (jaMarks (1 : Int) Sg0 R0)) := og
  clear og
  have hmm : (((1 : Int) + (jaSum Sg0 : Int)) != ((1 : Int) + (jaSum Sg0 : Int))) = false := by simp
  have ca0 := Kg0_12.out.cell 0 rfl
  go_wp2_with fail
  refine (heldJar Sg0 R0 (1 : Int) x12 Og0r_12.out.rd (by omega) (by omega)).mono ?_
  rintro e x13 ⟨rfl, b13⟩
  clear ca0
  have L13 : Hid (x12.heap.size ≤ x13.heap.size) := b13.size
  have B13 : Hid (Below w.heap.size w x13) := B12.out.trans (b13.mono B12.out.size)
  have Ow0r_13 : Hid (JaOwn x13 x1.heap.size x2.heap.size Sw0 R0) := Ow0r_12.out.later b13
  have Kw0_13 : Hid (Blk x13 gw0 24 [.slice Sw0.secret.a Sw0.secret.n Sw0.secret.c]) := Kw0_12.out.later b13
  have Kg0_13 : Hid (Blk x13 gg0 24 [.slice Sg0.secret.a Sg0.secret.n Sg0.secret.c]) := Kg0_12.out.later b13
  have Og0r_13 : Hid (JaOwn x13 x4.heap.size x5.heap.size Sg0 (jaMarks (1 : Int) Sg0 R0)) := Og0r_12.out.later b13
  clear b13 B12 Ow0r_12 Kw0_12 Kg0_12 Og0r_12
  have hq13_0 : ¬ ((1 : Int) + (jaSum Sg0 : Int) < 0) := by omega
  go_wp2_with fail
  refine (toB s0 l0 x13 (HR0.out.later B13.out) (by have := HL0.out; omega)).mono ?_
  rintro e x14 ⟨rfl, o, b14⟩
  obtain ⟨qy0, hq⟩ : ∃ q, x13.heap.size = q := ⟨_, rfl⟩
  rw [hq] at o ⊢
  have L14 : Hid (x13.heap.size ≤ x14.heap.size) := b14.size
  have B14 : Hid (Below w.heap.size w x14) := B13.out.trans (b14.mono B13.out.size)
  have Ow0r_14 : Hid (JaOwn x14 x1.heap.size x2.heap.size Sw0 R0) := Ow0r_13.out.later b14
  have Kw0_14 : Hid (Blk x14 gw0 24 [.slice Sw0.secret.a Sw0.secret.n Sw0.secret.c]) := Kw0_13.out.later b14
  have Kg0_14 : Hid (Blk x14 gg0 24 [.slice Sg0.secret.a Sg0.secret.n Sg0.secret.c]) := Kg0_13.out.later b14
  have Og0r_14 : Hid (JaOwn x14 x4.heap.size x5.heap.size Sg0 (jaMarks (1 : Int) Sg0 R0)) := Og0r_13.out.later b14
  clear b14 B13 Ow0r_13 Kw0_13 Kg0_13 Og0r_13
  have Gqy0 : Hid (x13.heap.size = qy0) := hq
  have Oy0_14 : Hid (SOwn x14 qy0 x14.heap.size ⟨some ⟨qy0, 0, none⟩, s0.n, s0.n⟩ l0) := o
  clear o hq
  go_wp2_with fail
  refine (CkJ.implJarNew ⟨some ⟨qy0, 0, none⟩, s0.n, s0.n⟩ l0 x14 (HT.out.later B14.out) Oy0_14.out.rd).mono ?_
  rw [HRD0.out]
  rintro e x15 ⟨Sh0, rfl, o0, b⟩
  have L15 : Hid (x14.heap.size ≤ x15.heap.size) := b.size
  have B15 : Hid (Below w.heap.size w x15) := B14.out.trans (b.mono B14.out.size)
  have Ow0r_15 : Hid (JaOwn x15 x1.heap.size x2.heap.size Sw0 R0) := Ow0r_14.out.later b
  have Kw0_15 : Hid (Blk x15 gw0 24 [.slice Sw0.secret.a Sw0.secret.n Sw0.secret.c]) := Kw0_14.out.later b
  have Kg0_15 : Hid (Blk x15 gg0 24 [.slice Sg0.secret.a Sg0.secret.n Sg0.secret.c]) := Kg0_14.out.later b
  have Og0r_15 : Hid (JaOwn x15 x4.heap.size x5.heap.size Sg0 (jaMarks (1 : Int) Sg0 R0)) := Og0r_14.out.later b
  have Oy0_15 : Hid (SOwn x15 qy0 x14.heap.size ⟨some ⟨qy0, 0, none⟩, s0.n, s0.n⟩ l0) := Oy0_14.out.later b
  clear b B14 Ow0r_14 Kw0_14 Kg0_14 Og0r_14 Oy0_14
  have Oh0r_15 : Hid (JaOwn x15 x14.heap.size x15.heap.size Sh0 R0) := o0
  clear o0
  obtain ⟨x16, hx16⟩ : ∃ x16, x15.alloc (.cells #[.slice Sh0.secret.a Sh0.secret.n Sh0.secret.c] 24) = x16 := ⟨_, rfl⟩
  have HW16 : Hid (x15.alloc (.cells #[.slice Sh0.secret.a Sh0.secret.n Sh0.secret.c] 24) = x16) := hx16
  have b : Below x15.heap.size x15 x16 := by rw [← hx16]; exact (Below.refl _ _).alloc (Nat.le_refl _) _
  have KN0 : Blk x16 (x15.heap.size) 24 [.slice Sh0.secret.a Sh0.secret.n Sh0.secret.c] := by
    have q := Blk.new (x15) 24 [.slice Sh0.secret.a Sh0.secret.n Sh0.secret.c]
    rw [← hx16]; exact q
  have HSZ16 : Hid (x16.heap.size = x15.heap.size + 1) := by rw [← hx16]; show _ = _; simp
  clear hx16
  have L16 : Hid (x15.heap.size ≤ x16.heap.size) := b.size
  have B16 : Hid (Below w.heap.size w x16) := B15.out.trans (b.mono B15.out.size)
  have Ow0r_16 : Hid (JaOwn x16 x1.heap.size x2.heap.size Sw0 R0) := Ow0r_15.out.later b
  have Kw0_16 : Hid (Blk x16 gw0 24 [.slice Sw0.secret.a Sw0.secret.n Sw0.secret.c]) := Kw0_15.out.later b
  have Kg0_16 : Hid (Blk x16 gg0 24 [.slice Sg0.secret.a Sg0.secret.n Sg0.secret.c]) := Kg0_15.out.later b
  have Og0r_16 : Hid (JaOwn x16 x4.heap.size x5.heap.size Sg0 (jaMarks (1 : Int) Sg0 R0)) := Og0r_15.out.later b
  have Oy0_16 : Hid (SOwn x16 qy0 x14.heap.size ⟨some ⟨qy0, 0, none⟩, s0.n, s0.n⟩ l0) := Oy0_15.out.later b
  have Oh0r_16 : Hid (JaOwn x16 x14.heap.size x15.heap.size Sh0 R0) := Oh0r_15.out.later b
  clear b B15 Ow0r_15 Kw0_15 Kg0_15 Og0r_15 Oy0_15 Oh0r_15
  unfold jaV
  go_upto_region 23 with fail
  rw [HW16.out]
  obtain ⟨gh0, hg0⟩ : ∃ g, x15.heap.size = g := ⟨_, rfl⟩
  have Gh_ : Hid (x15.heap.size + 0 = gh0 ∧ x16.heap.size = x15.heap.size + 1) := ⟨by omega, HSZ16.out⟩
  rw [hg0] at KN0
  rw [hg0]
  clear HW16 HSZ16 hg0
  have Kh0_16 : Hid (Blk x16 gh0 24 [.slice Sh0.secret.a Sh0.secret.n Sh0.secret.c]) := KN0
  clear KN0
  clear Oy0_16
  have ca0 := Kh0_16.out.cell 0 rfl
  have cb0 := Kw0_16.out.cell 0 rfl
  go_wp2_with fail
  refine (eqJar Sh0 Sw0 R0 x16 Oh0r_16.out.rd Ow0r_16.out.rd HRL0.out).mono ?_
  rintro e x17 ⟨rfl, b17⟩
  clear ca0
  clear cb0
  have L17 : Hid (x16.heap.size ≤ x17.heap.size) := b17.size
  have B17 : Hid (Below w.heap.size w x17) := B16.out.trans (b17.mono B16.out.size)
  have Ow0r_17 : Hid (JaOwn x17 x1.heap.size x2.heap.size Sw0 R0) := Ow0r_16.out.later b17
  have Kw0_17 : Hid (Blk x17 gw0 24 [.slice Sw0.secret.a Sw0.secret.n Sw0.secret.c]) := Kw0_16.out.later b17
  have Kg0_17 : Hid (Blk x17 gg0 24 [.slice Sg0.secret.a Sg0.secret.n Sg0.secret.c]) := Kg0_16.out.later b17
  have Og0r_17 : Hid (JaOwn x17 x4.heap.size x5.heap.size Sg0 (jaMarks (1 : Int) Sg0 R0)) := Og0r_16.out.later b17
  have Oh0r_17 : Hid (JaOwn x17 x14.heap.size x15.heap.size Sh0 R0) := Oh0r_16.out.later b17
  have Kh0_17 : Hid (Blk x17 gh0 24 [.slice Sh0.secret.a Sh0.secret.n Sh0.secret.c]) := Kh0_16.out.later b17
  clear b17 B16 Ow0r_16 Kw0_16 Kg0_16 Og0r_16 Oh0r_16 Kh0_16
  have ca0 := Kg0_17.out.cell 0 rfl
  go_wp2_with fail
  refine (heldJar Sg0 R0 (1 : Int) x17 Og0r_17.out.rd (by omega) (by omega)).mono ?_
  rintro e x18 ⟨rfl, b18⟩
  clear ca0
  have L18 : Hid (x17.heap.size ≤ x18.heap.size) := b18.size
  have B18 : Hid (Below w.heap.size w x18) := B17.out.trans (b18.mono B17.out.size)
  have Ow0r_18 : Hid (JaOwn x18 x1.heap.size x2.heap.size Sw0 R0) := Ow0r_17.out.later b18
  have Kw0_18 : Hid (Blk x18 gw0 24 [.slice Sw0.secret.a Sw0.secret.n Sw0.secret.c]) := Kw0_17.out.later b18
  have Kg0_18 : Hid (Blk x18 gg0 24 [.slice Sg0.secret.a Sg0.secret.n Sg0.secret.c]) := Kg0_17.out.later b18
  have Og0r_18 : Hid (JaOwn x18 x4.heap.size x5.heap.size Sg0 (jaMarks (1 : Int) Sg0 R0)) := Og0r_17.out.later b18
  have Oh0r_18 : Hid (JaOwn x18 x14.heap.size x15.heap.size Sh0 R0) := Oh0r_17.out.later b18
  have Kh0_18 : Hid (Blk x18 gh0 24 [.slice Sh0.secret.a Sh0.secret.n Sh0.secret.c]) := Kh0_17.out.later b18
  clear b18 B17 Ow0r_17 Kw0_17 Kg0_17 Og0r_17 Oh0r_17 Kh0_17
  have hq18_0 : ¬ ((1 : Int) + (jaSum Sg0 : Int) < 0) := by omega
  go_wp2
  go_ret
  exact ⟨rfl, B18.out⟩
set_option maxRecDepth 100000 in
theorem walk1 (a0 : Option Addr) (n0 c0 : Nat) (z0 : List Int) (w : World) (hT : Tab w) (h0 : IsRow .u8 w a0 n0 c0 z0) :
    Calls Tryd.prog 3 #[.slice a0 n0 c0] w fun e w' => e = .returned (.bool true) ∧ Below w.heap.size w w' := by
  obtain ⟨l0, r0⟩ := row_sl h0
  exact walk ⟨a0, n0, c0⟩ l0 w hT r0
end Go.Proofs.YtpgapjdejelajaaDoor.LawJarNew

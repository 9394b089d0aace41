/-
  The walk of the law FnExactHeadOf: at every argument it answers true, and nothing that was there is written.
-/
import Derived.Test.YtmcflfpckpjphaaSlI
import Derived.Test.YtmcflfpckpjphaaSlS
import Derived.Test.YtmcflfpckpjphaaShp
import Derived.Test.YtmcflfpckpjphaaOps
import Derived.Test.YtmcflfpckpjphaaFrL
namespace Go.Proofs.Ytmcflfpckpjphaa.LawHeadOf
open Go.RowKit Go.Proofs.Ytmcflfpckpjphaa.Mem Go.Proofs.Ytmcflfpckpjphaa.Blk Go.Proofs.Ytmcflfpckpjphaa.Zone Go.Proofs.Ytmcflfpckpjphaa.ZoneB Go.Proofs.Ytmcflfpckpjphaa.ZoneI Go.Proofs.Ytmcflfpckpjphaa.MemI Go.Proofs.Ytmcflfpckpjphaa.Each Go.Proofs.Ytmcflfpckpjphaa.Copy Go.Proofs.Ytmcflfpckpjphaa.Ops Go.Proofs.Ytmcflfpckpjphaa.Shp Go.Proofs.Ytmcflfpckpjphaa.App Go.Proofs.Ytmcflfpckpjphaa.FrZ Go.Proofs.Ytmcflfpckpjphaa.FrL Go.Proofs.Ytmcflfpckpjphaa.FrP Go.Proofs.Ytmcflfpckpjphaa.FrQ Go.Proofs.Ytmcflfpckpjphaa.SlP

set_option maxRecDepth 100000 in
set_option maxHeartbeats 8000000 in
theorem walk (a0 : Int) (s1 : Sl) (l1 : List Int) (a2 : Int) (a3 : Int) (w : World)  (h1 : SRd w s1 l1) :
    Calls Try.prog 5 #[.int .i64 a0, .slice s1.a s1.n s1.c, .int .i64 a2, .int .i64 a3] w fun e w' => e = .returned (.bool true) ∧ Below w.heap.size w w' := by
  obtain ⟨R0, hR0⟩ : ∃ R : List Int, headL a0 l1 a2 a3 = R := ⟨_, rfl⟩
  have HRD0 : Hid (headL a0 l1 a2 a3 = R0) := hR0
  clear hR0
  have HR1 : Hid (SRd w s1 l1) := h1
  have HN1 : Hid (s1.n = l1.length) := h1.len
  clear h1
  go_enter Try.func5, Try.ntmps5
  by_cases hbig1 : (s1.n : Int) > 1048576
  · go_wp2
    go_ret
    exact ⟨rfl, Below.refl _ _⟩
  have HL1 : Hid (l1.length ≤ 1048576) := by have := HN1.out; show _ ≤ _; omega
  have HRS0 : Hid (R0.length ≤ 1048576) := by rw [← HRD0.out]; exact Nat.le_trans (headL_le _ _ _ _) (by omega)
  go_wp2_with fail
  refine (toB s1 l1 w HR1.out (by have := HL1.out; omega)).mono ?_
  rintro e x1 ⟨rfl, o, b1⟩
  obtain ⟨qp1, hq⟩ : ∃ q, w.heap.size = q := ⟨_, rfl⟩
  rw [hq] at o ⊢
  have L1 : Hid (w.heap.size ≤ x1.heap.size) := b1.size
  have B1 : Hid (Below w.heap.size w x1) := b1
  clear b1
  have Gqp1 : Hid (w.heap.size = qp1) := hq
  have Op1_1 : Hid (SOwn x1 qp1 x1.heap.size ⟨some ⟨qp1, 0, none⟩, s1.n, s1.n⟩ l1) := o
  clear o hq
  go_wp2_with fail
  refine ((SlS.specHeadOf a0 ⟨some ⟨qp1, 0, none⟩, s1.n, s1.n⟩ l1 a2 a3 x1 Op1_1.out.rd).mono (fun _ _ h => AnsB.of (headL_bytes _ _ _ _ HR1.out.bytes) h)).mono ?_
  rw [HRD0.out]
  rintro e x2 ⟨Sw0, rfl, o0, b⟩
  have L2 : Hid (x1.heap.size ≤ x2.heap.size) := b.size
  have B2 : Hid (Below w.heap.size w x2) := B1.out.trans (b.mono B1.out.size)
  have Op1_2 : Hid (SOwn x2 qp1 x1.heap.size ⟨some ⟨qp1, 0, none⟩, s1.n, s1.n⟩ l1) := Op1_1.out.later b
  clear b B1 Op1_1
  have Ow0r_2 : Hid (SOwn x2 x1.heap.size x2.heap.size Sw0 R0) := o0
  clear o0
  go_upto_region 4 with fail
  clear Op1_2
  go_wp2_with fail
  refine (toB s1 l1 x2 (HR1.out.later B2.out) (by have := HL1.out; omega)).mono ?_
  rintro e x3 ⟨rfl, o, b3⟩
  obtain ⟨qx1, hq⟩ : ∃ q, x2.heap.size = q := ⟨_, rfl⟩
  rw [hq] at o ⊢
  have L3 : Hid (x2.heap.size ≤ x3.heap.size) := b3.size
  have B3 : Hid (Below w.heap.size w x3) := B2.out.trans (b3.mono B2.out.size)
  have Ow0r_3 : Hid (SOwn x3 x1.heap.size x2.heap.size Sw0 R0) := Ow0r_2.out.later b3
  clear b3 B2 Ow0r_2
  have Gqx1 : Hid (x2.heap.size = qx1) := hq
  have Ox1_3 : Hid (SOwn x3 qx1 x3.heap.size ⟨some ⟨qx1, 0, none⟩, s1.n, s1.n⟩ l1) := o
  clear o hq
  go_wp2_with fail
  refine ((SlI.implHeadOf a0 ⟨some ⟨qx1, 0, none⟩, s1.n, s1.n⟩ l1 a2 a3 x3 Ox1_3.out.rd).mono (fun _ _ h => AnsB.of (headL_bytes _ _ _ _ HR1.out.bytes) h)).mono ?_
  rw [HRD0.out]
  rintro e x4 ⟨Sg0, rfl, o0, b⟩
  have L4 : Hid (x3.heap.size ≤ x4.heap.size) := b.size
  have B4 : Hid (Below w.heap.size w x4) := B3.out.trans (b.mono B3.out.size)
  have Ow0r_4 : Hid (SOwn x4 x1.heap.size x2.heap.size Sw0 R0) := Ow0r_3.out.later b
  have Ox1_4 : Hid (SOwn x4 qx1 x3.heap.size ⟨some ⟨qx1, 0, none⟩, s1.n, s1.n⟩ l1) := Ox1_3.out.later b
  clear b B3 Ow0r_3 Ox1_3
  have Og0r_4 : Hid (SOwn x4 x3.heap.size x4.heap.size Sg0 R0) := o0
  clear o0
  go_upto_region 6 with fail
  go_wp2_with fail
  refine (eqB Sg0 Sw0 R0 R0 x4 Og0r_4.out.rd Ow0r_4.out.rd (by have := HRS0.out; omega) (by have := HRS0.out; omega)).mono ?_
  rw [decide_eq_true (show R0 = R0 from rfl)]
  rintro e x5 ⟨rfl, b5⟩
  have L5 : Hid (x4.heap.size ≤ x5.heap.size) := b5.size
  have B5 : Hid (Below w.heap.size w x5) := B4.out.trans (b5.mono B4.out.size)
  have Ow0r_5 : Hid (SOwn x5 x1.heap.size x2.heap.size Sw0 R0) := Ow0r_4.out.later b5
  have Ox1_5 : Hid (SOwn x5 qx1 x3.heap.size ⟨some ⟨qx1, 0, none⟩, s1.n, s1.n⟩ l1) := Ox1_4.out.later b5
  have Og0r_5 : Hid (SOwn x5 x3.heap.size x4.heap.size Sg0 R0) := Og0r_4.out.later b5
  clear b5 B4 Ow0r_4 Ox1_4 Og0r_4
  go_wp2_with fail
  refine (toB s1 l1 x5 (HR1.out.later B5.out) (by have := HL1.out; omega)).mono ?_
  rintro e x6 ⟨rfl, o, b6⟩
  obtain ⟨qy1, hq⟩ : ∃ q, x5.heap.size = q := ⟨_, rfl⟩
  rw [hq] at o ⊢
  have L6 : Hid (x5.heap.size ≤ x6.heap.size) := b6.size
  have B6 : Hid (Below w.heap.size w x6) := B5.out.trans (b6.mono B5.out.size)
  have Ow0r_6 : Hid (SOwn x6 x1.heap.size x2.heap.size Sw0 R0) := Ow0r_5.out.later b6
  have Ox1_6 : Hid (SOwn x6 qx1 x3.heap.size ⟨some ⟨qx1, 0, none⟩, s1.n, s1.n⟩ l1) := Ox1_5.out.later b6
  have Og0r_6 : Hid (SOwn x6 x3.heap.size x4.heap.size Sg0 R0) := Og0r_5.out.later b6
  clear b6 B5 Ow0r_5 Ox1_5 Og0r_5
  have Gqy1 : Hid (x5.heap.size = qy1) := hq
  have Oy1_6 : Hid (SOwn x6 qy1 x6.heap.size ⟨some ⟨qy1, 0, none⟩, s1.n, s1.n⟩ l1) := o
  clear o hq
  go_wp2_with fail
  refine (eqB ⟨some ⟨qx1, 0, none⟩, s1.n, s1.n⟩ ⟨some ⟨qy1, 0, none⟩, s1.n, s1.n⟩ l1 l1 x6 Ox1_6.out.rd Oy1_6.out.rd (by have := HL1.out; omega) (by have := HL1.out; omega)).mono ?_
  rw [decide_eq_true (show l1 = l1 from rfl)]
  rintro e x7 ⟨rfl, b7⟩
  have L7 : Hid (x6.heap.size ≤ x7.heap.size) := b7.size
  have B7 : Hid (Below w.heap.size w x7) := B6.out.trans (b7.mono B6.out.size)
  have Ow0r_7 : Hid (SOwn x7 x1.heap.size x2.heap.size Sw0 R0) := Ow0r_6.out.later b7
  have Ox1_7 : Hid (SOwn x7 qx1 x3.heap.size ⟨some ⟨qx1, 0, none⟩, s1.n, s1.n⟩ l1) := Ox1_6.out.later b7
  have Og0r_7 : Hid (SOwn x7 x3.heap.size x4.heap.size Sg0 R0) := Og0r_6.out.later b7
  have Oy1_7 : Hid (SOwn x7 qy1 x6.heap.size ⟨some ⟨qy1, 0, none⟩, s1.n, s1.n⟩ l1) := Oy1_6.out.later b7
  clear b7 B6 Ow0r_6 Ox1_6 Og0r_6 Oy1_6
  clear Oy1_7
  go_wp2_with fail
  refine (markB ⟨some ⟨qx1, 0, none⟩, s1.n, s1.n⟩ l1 (1 : Int) x7 qx1 x3.heap.size Ox1_7.out (by have := HL1.out; omega) (by omega) (by omega)).mono ?_
  rintro e x8 ⟨rfl, _, k8, _⟩
  have L8 : Hid (x7.heap.size ≤ x8.heap.size) := k8.size
  have B8 : Hid (Below w.heap.size w x8) := B7.out.trans (k8.below (by have := L1.out; have := Gqp1.out; have := L2.out; have := L3.out; have := Gqx1.out; have := L4.out; have := L5.out; have := L6.out; have := Gqy1.out; have := L7.out; have := L8.out; omega) B7.out.size)
  have Ow0r_8 : Hid (SOwn x8 x1.heap.size x2.heap.size Sw0 R0) := Ow0r_7.out.carry k8 (by have := L1.out; have := Gqp1.out; have := L2.out; have := L3.out; have := Gqx1.out; have := L4.out; have := L5.out; have := L6.out; have := Gqy1.out; have := L7.out; have := L8.out; omega)
  have Og0r_8 : Hid (SOwn x8 x3.heap.size x4.heap.size Sg0 R0) := Og0r_7.out.carry k8 (by have := L1.out; have := Gqp1.out; have := L2.out; have := L3.out; have := Gqx1.out; have := L4.out; have := L5.out; have := L6.out; have := Gqy1.out; have := L7.out; have := L8.out; omega)
  clear k8 B7 Ow0r_7 Ox1_7 Og0r_7
  have hk0 : ¬ (((1 : Int) + (s1.n : Int)) < 0) := by omega
  go_wp2_with fail
  refine (eqB Sg0 Sw0 R0 R0 x8 Og0r_8.out.rd Ow0r_8.out.rd (by have := HRS0.out; omega) (by have := HRS0.out; omega)).mono ?_
  rw [decide_eq_true (show R0 = R0 from rfl)]
  rintro e x9 ⟨rfl, b9⟩
  have L9 : Hid (x8.heap.size ≤ x9.heap.size) := b9.size
  have B9 : Hid (Below w.heap.size w x9) := B8.out.trans (b9.mono B8.out.size)
  have Ow0r_9 : Hid (SOwn x9 x1.heap.size x2.heap.size Sw0 R0) := Ow0r_8.out.later b9
  have Og0r_9 : Hid (SOwn x9 x3.heap.size x4.heap.size Sg0 R0) := Og0r_8.out.later b9
  clear b9 B8 Ow0r_8 Og0r_8
  have hms0 : (Sg0.n : Int) ≤ 1048576 := by have := Og0r_9.out.len; have := HRS0.out; omega
  go_wp2_with fail
  refine (markB Sg0 R0 (1 : Int) x9 x3.heap.size x4.heap.size Og0r_9.out (by have := HRS0.out; omega) (by omega) (by omega)).mono ?_
  rintro e x10 ⟨rfl, og, k10, _⟩
  have L10 : Hid (x9.heap.size ≤ x10.heap.size) := k10.size
  have B10 : Hid (Below w.heap.size w x10) := B9.out.trans (k10.below (by have := L1.out; have := Gqp1.out; have := L2.out; have := L3.out; have := Gqx1.out; have := L4.out; have := L5.out; have := L6.out; have := Gqy1.out; have := L7.out; have := L8.out; have := L9.out; have := L10.out; omega) B9.out.size)
  have Ow0r_10 : Hid (SOwn x10 x1.heap.size x2.heap.size Sw0 R0) := Ow0r_9.out.carry k10 (by have := L1.out; have := Gqp1.out; have := L2.out; have := L3.out; have := Gqx1.out; have := L4.out; have := L5.out; have := L6.out; have := Gqy1.out; have := L7.out; have := L8.out; have := L9.out; have := L10.out; omega)
  clear k10 B9 Ow0r_9 Og0r_9
  have Og0r_10 : Hid (SOwn x10 x3.heap.size x4.heap.size Sg0 (marks (1 : Int) Sg0.n)) := og
  clear og
  have hmm : (((1 : Int) + (Sg0.n : Int)) != ((1 : Int) + (Sg0.n : Int))) = false := by simp
  go_wp2_with fail
  refine (heldB Sg0 (1 : Int) x10 Og0r_10.out.rd (by omega) (by omega) (by omega)).mono ?_
  rintro e xz ⟨rfl, rfl⟩
  have hq10_0 : ¬ ((1 : Int) + (Sg0.n : Int) < 0) := by omega
  go_wp2_with fail
  refine (toB s1 l1 x10 (HR1.out.later B10.out) (by have := HL1.out; omega)).mono ?_
  rintro e x11 ⟨rfl, o, b11⟩
  obtain ⟨qy1, hq⟩ : ∃ q, x10.heap.size = q := ⟨_, rfl⟩
  rw [hq] at o ⊢
  have L11 : Hid (x10.heap.size ≤ x11.heap.size) := b11.size
  have B11 : Hid (Below w.heap.size w x11) := B10.out.trans (b11.mono B10.out.size)
  have Ow0r_11 : Hid (SOwn x11 x1.heap.size x2.heap.size Sw0 R0) := Ow0r_10.out.later b11
  have Og0r_11 : Hid (SOwn x11 x3.heap.size x4.heap.size Sg0 (marks (1 : Int) Sg0.n)) := Og0r_10.out.later b11
  clear b11 B10 Ow0r_10 Og0r_10
  have Gqy1 : Hid (x10.heap.size = qy1) := hq
  have Oy1_11 : Hid (SOwn x11 qy1 x11.heap.size ⟨some ⟨qy1, 0, none⟩, s1.n, s1.n⟩ l1) := o
  clear o hq
  go_wp2_with fail
  refine ((SlI.implHeadOf a0 ⟨some ⟨qy1, 0, none⟩, s1.n, s1.n⟩ l1 a2 a3 x11 Oy1_11.out.rd).mono (fun _ _ h => AnsB.of (headL_bytes _ _ _ _ HR1.out.bytes) h)).mono ?_
  rw [HRD0.out]
  rintro e x12 ⟨Sh0, rfl, o0, b⟩
  have L12 : Hid (x11.heap.size ≤ x12.heap.size) := b.size
  have B12 : Hid (Below w.heap.size w x12) := B11.out.trans (b.mono B11.out.size)
  have Ow0r_12 : Hid (SOwn x12 x1.heap.size x2.heap.size Sw0 R0) := Ow0r_11.out.later b
  have Og0r_12 : Hid (SOwn x12 x3.heap.size x4.heap.size Sg0 (marks (1 : Int) Sg0.n)) := Og0r_11.out.later b
  have Oy1_12 : Hid (SOwn x12 qy1 x11.heap.size ⟨some ⟨qy1, 0, none⟩, s1.n, s1.n⟩ l1) := Oy1_11.out.later b
  clear b B11 Ow0r_11 Og0r_11 Oy1_11
  have Oh0r_12 : Hid (SOwn x12 x11.heap.size x12.heap.size Sh0 R0) := o0
  clear o0
  go_upto_region 23 with fail
  clear Oy1_12
  go_wp2_with fail
  refine (eqB Sh0 Sw0 R0 R0 x12 Oh0r_12.out.rd Ow0r_12.out.rd (by have := HRS0.out; omega) (by have := HRS0.out; omega)).mono ?_
  rw [decide_eq_true (show R0 = R0 from rfl)]
  rintro e x13 ⟨rfl, b13⟩
  have L13 : Hid (x12.heap.size ≤ x13.heap.size) := b13.size
  have B13 : Hid (Below w.heap.size w x13) := B12.out.trans (b13.mono B12.out.size)
  have Ow0r_13 : Hid (SOwn x13 x1.heap.size x2.heap.size Sw0 R0) := Ow0r_12.out.later b13
  have Og0r_13 : Hid (SOwn x13 x3.heap.size x4.heap.size Sg0 (marks (1 : Int) Sg0.n)) := Og0r_12.out.later b13
  have Oh0r_13 : Hid (SOwn x13 x11.heap.size x12.heap.size Sh0 R0) := Oh0r_12.out.later b13
  clear b13 B12 Ow0r_12 Og0r_12 Oh0r_12
  go_wp2_with fail
  refine (heldB Sg0 (1 : Int) x13 Og0r_13.out.rd (by omega) (by omega) (by omega)).mono ?_
  rintro e xz ⟨rfl, rfl⟩
  have hq13_0 : ¬ ((1 : Int) + (Sg0.n : Int) < 0) := by omega
  go_wp2
  go_ret
  exact ⟨rfl, B13.out⟩
theorem walk1 (a0 : Int) (a1 : Option Addr) (n1 c1 : Nat) (z1 : List Int) (a2 : Int) (a3 : Int) (w : World)  (h1 : IsRow .u8 w a1 n1 c1 z1) :
    Calls Try.prog 5 #[.int .i64 a0, .slice a1 n1 c1, .int .i64 a2, .int .i64 a3] w fun e w' => e = .returned (.bool true) ∧ Below w.heap.size w w' := by
  obtain ⟨l1, r1⟩ := row_sl h1
  exact walk a0 ⟨a1, n1, c1⟩ l1 a2 a3 w  r1
end Go.Proofs.Ytmcflfpckpjphaa.LawHeadOf

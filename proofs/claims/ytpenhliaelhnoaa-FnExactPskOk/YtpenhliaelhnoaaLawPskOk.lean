/-
  The walk of the law FnExactPskOk: at every argument it answers true, and nothing that was there is written.
-/
import Derived.Test.YtpenhliaelhnoaaKeI
import Derived.Test.YtpenhliaelhnoaaKeS
import Derived.Test.YtpenhliaelhnoaaZoneB
import Derived.Test.YtpenhliaelhnoaaZoneI
import Derived.Test.YtpenhliaelhnoaaShp
import Derived.Test.YtpenhliaelhnoaaOps
namespace Go.Proofs.Ytpenhliaelhnoaa.LawPskOk
open Go.RowKit Go.Proofs.Ytpenhliaelhnoaa.Mem Go.Proofs.Ytpenhliaelhnoaa.Blk Go.Proofs.Ytpenhliaelhnoaa.Zone Go.Proofs.Ytpenhliaelhnoaa.ZoneB Go.Proofs.Ytpenhliaelhnoaa.ZoneI Go.Proofs.Ytpenhliaelhnoaa.MemI Go.Proofs.Ytpenhliaelhnoaa.Each Go.Proofs.Ytpenhliaelhnoaa.Copy Go.Proofs.Ytpenhliaelhnoaa.Ops Go.Proofs.Ytpenhliaelhnoaa.Shp Go.Proofs.Ytpenhliaelhnoaa.App Go.Proofs.Ytpenhliaelhnoaa.KeP

set_option maxRecDepth 100000 in
set_option maxHeartbeats 8000000 in
theorem walk (s0 : Sl) (l0 : List Int) (w : World)  (h0 : SRd w s0 l0) :
    Calls Try.prog 3 #[.slice s0.a s0.n s0.c] w fun e w' => e = .returned (.bool true) ∧ Below w.heap.size w w' := by
  obtain ⟨R0, hR0⟩ : ∃ R : Bool, pskOk l0.length = R := ⟨_, rfl⟩
  have HRD0 : Hid (pskOk l0.length = R0) := hR0
  clear hR0
  have hvv0 : (R0 != R0) = false := by simp
  have HR0 : Hid (SRd w s0 l0) := h0
  have HN0 : Hid (s0.n = l0.length) := h0.len
  clear h0
  go_enter Try.func3, Try.ntmps3
  by_cases hbig0 : (s0.n : Int) > 1048576
  · go_wp2
    go_ret
    exact ⟨rfl, Below.refl _ _⟩
  have HL0 : Hid (l0.length ≤ 1048576) := by have := HN0.out; show _ ≤ _; omega
  go_wp2_with fail
  refine (toB s0 l0 w HR0.out (by have := HL0.out; omega)).mono ?_
  rintro e x1 ⟨rfl, o, b1⟩
  obtain ⟨qp0, hq⟩ : ∃ q, w.heap.size = q := ⟨_, rfl⟩
  rw [hq] at o ⊢
  have L1 : Hid (w.heap.size ≤ x1.heap.size) := b1.size
  have B1 : Hid (Below w.heap.size w x1) := b1
  clear b1
  have Gqp0 : Hid (w.heap.size = qp0) := hq
  have Op0_1 : Hid (SOwn x1 qp0 x1.heap.size ⟨some ⟨qp0, 0, none⟩, s0.n, s0.n⟩ l0) := o
  clear o hq
  go_wp2_with fail
  refine (KeS.specPskOkB ⟨some ⟨qp0, 0, none⟩, s0.n, s0.n⟩ l0 x1 Op0_1.out.rd).mono ?_
  rw [HRD0.out]
  rintro e x2 ⟨rfl, b⟩
  have L2 : Hid (x1.heap.size ≤ x2.heap.size) := b.size
  have B2 : Hid (Below w.heap.size w x2) := B1.out.trans (b.mono B1.out.size)
  have Op0_2 : Hid (SOwn x2 qp0 x1.heap.size ⟨some ⟨qp0, 0, none⟩, s0.n, s0.n⟩ l0) := Op0_1.out.later b
  clear b B1 Op0_1
  go_upto_region 4 with fail
  clear Op0_2
  go_wp2_with fail
  refine (toB s0 l0 x2 (HR0.out.later B2.out) (by have := HL0.out; omega)).mono ?_
  rintro e x3 ⟨rfl, o, b3⟩
  obtain ⟨qx0, hq⟩ : ∃ q, x2.heap.size = q := ⟨_, rfl⟩
  rw [hq] at o ⊢
  have L3 : Hid (x2.heap.size ≤ x3.heap.size) := b3.size
  have B3 : Hid (Below w.heap.size w x3) := B2.out.trans (b3.mono B2.out.size)
  clear b3 B2
  have Gqx0 : Hid (x2.heap.size = qx0) := hq
  have Ox0_3 : Hid (SOwn x3 qx0 x3.heap.size ⟨some ⟨qx0, 0, none⟩, s0.n, s0.n⟩ l0) := o
  clear o hq
  go_wp2_with fail
  refine (KeI.implPskOkB ⟨some ⟨qx0, 0, none⟩, s0.n, s0.n⟩ l0 x3 Ox0_3.out.rd).mono ?_
  rw [HRD0.out]
  rintro e x4 ⟨rfl, b⟩
  have L4 : Hid (x3.heap.size ≤ x4.heap.size) := b.size
  have B4 : Hid (Below w.heap.size w x4) := B3.out.trans (b.mono B3.out.size)
  have Ox0_4 : Hid (SOwn x4 qx0 x3.heap.size ⟨some ⟨qx0, 0, none⟩, s0.n, s0.n⟩ l0) := Ox0_3.out.later b
  clear b B3 Ox0_3
  go_upto_region 6 with fail
  go_wp2_with fail
  refine (toB s0 l0 x4 (HR0.out.later B4.out) (by have := HL0.out; omega)).mono ?_
  rintro e x5 ⟨rfl, o, b5⟩
  obtain ⟨qy0, hq⟩ : ∃ q, x4.heap.size = q := ⟨_, rfl⟩
  rw [hq] at o ⊢
  have L5 : Hid (x4.heap.size ≤ x5.heap.size) := b5.size
  have B5 : Hid (Below w.heap.size w x5) := B4.out.trans (b5.mono B4.out.size)
  have Ox0_5 : Hid (SOwn x5 qx0 x3.heap.size ⟨some ⟨qx0, 0, none⟩, s0.n, s0.n⟩ l0) := Ox0_4.out.later b5
  clear b5 B4 Ox0_4
  have Gqy0 : Hid (x4.heap.size = qy0) := hq
  have Oy0_5 : Hid (SOwn x5 qy0 x5.heap.size ⟨some ⟨qy0, 0, none⟩, s0.n, s0.n⟩ l0) := o
  clear o hq
  go_wp2_with fail
  refine (eqB ⟨some ⟨qx0, 0, none⟩, s0.n, s0.n⟩ ⟨some ⟨qy0, 0, none⟩, s0.n, s0.n⟩ l0 l0 x5 Ox0_5.out.rd Oy0_5.out.rd (by have := HL0.out; omega) (by have := HL0.out; omega)).mono ?_
  rw [decide_eq_true (show l0 = l0 from rfl)]
  rintro e x6 ⟨rfl, b6⟩
  have L6 : Hid (x5.heap.size ≤ x6.heap.size) := b6.size
  have B6 : Hid (Below w.heap.size w x6) := B5.out.trans (b6.mono B5.out.size)
  have Ox0_6 : Hid (SOwn x6 qx0 x3.heap.size ⟨some ⟨qx0, 0, none⟩, s0.n, s0.n⟩ l0) := Ox0_5.out.later b6
  have Oy0_6 : Hid (SOwn x6 qy0 x5.heap.size ⟨some ⟨qy0, 0, none⟩, s0.n, s0.n⟩ l0) := Oy0_5.out.later b6
  clear b6 B5 Ox0_5 Oy0_5
  clear Oy0_6
  go_wp2
  go_ret
  exact ⟨rfl, B6.out⟩
set_option maxRecDepth 100000 in
theorem walk1 (a0 : Option Addr) (n0 c0 : Nat) (z0 : List Int) (w : World)  (h0 : IsRow .u8 w a0 n0 c0 z0) :
    Calls Try.prog 3 #[.slice a0 n0 c0] w fun e w' => e = .returned (.bool true) ∧ Below w.heap.size w w' := by
  obtain ⟨l0, r0⟩ := row_sl h0
  exact walk ⟨a0, n0, c0⟩ l0 w  r0
end Go.Proofs.Ytpenhliaelhnoaa.LawPskOk

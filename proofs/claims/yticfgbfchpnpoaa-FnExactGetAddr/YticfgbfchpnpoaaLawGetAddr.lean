/-
  The walk of the law FnExactGetAddr: at every slice of bytes and every int it answers true, and nothing that was there is written.
-/
import Derived.Test.YticfgbfchpnpoaaAddrL
import Derived.Test.YticfgbfchpnpoaaAddrI
namespace Go.Proofs.Yticfgbfchpnpoaa.LawGetAddr
open Go.RowKit Go.Proofs.Yticfgbfchpnpoaa.Mem Go.Proofs.Yticfgbfchpnpoaa.App Go.Proofs.Yticfgbfchpnpoaa.Get Go.Proofs.Yticfgbfchpnpoaa.Blk Go.Proofs.Yticfgbfchpnpoaa.AddrP Go.Proofs.Yticfgbfchpnpoaa.AddrS Go.Proofs.Yticfgbfchpnpoaa.AddrL Go.Proofs.Yticfgbfchpnpoaa.AddrI

theorem got_form (l : List Int) (i : Int) : ∃ x y z b, gotA l i = .tuple #[addrV x y, .int .i64 z, .bool b] := by
  unfold gotA; split <;> exact ⟨_, _, _, _, rfl⟩

set_option maxRecDepth 100000 in
set_option maxHeartbeats 1600000 in
theorem small (a : Option Addr) (len cap : Nat) (l : List Int) (i : Int) (w : World) (hl : len = l.length) (hr : Rd w a l) (hb : Bytes l) (hlen : len ≤ 1048576) (hi : i ≤ 9223372036854775807) :
    Calls Try.prog 5 #[.slice a len cap, .int .i64 i] w fun e w' => e = .returned (.bool true) ∧ Below w.heap.size w w' := by
  have HR : Hid (Rd w a l) := hr
  have HL : Hid (len = l.length) := hl
  have HY : Hid (Bytes l) := hb
  have hll : l.length ≤ 1048576 := by omega
  obtain ⟨x, y, z, ok, hg⟩ := got_form l i
  have HG : Hid (gotA l i = .tuple #[addrV x y, .int .i64 z, .bool ok]) := hg
  have hbb : (ok != ok) = false := by simp
  clear hr hl hb hg
  go_enter Try.func5, Try.ntmps5
  go_wp2_with fail
  refine (toByteS a len cap l _ HL.out HR.out (by omega)).mono ?_
  rintro e x1 ⟨rfl, rx1, bx1⟩
  have N1 : Hid (Row x1 w.heap.size len l) := rx1
  have B1 : Hid (Below w.heap.size w x1) := bx1
  clear rx1 bx1
  go_wp2_with fail
  refine (specGetAddr _ len len l i _ HL.out N1.out.rd HY.out (by omega)).mono ?_
  rw [HG.out]
  rintro e x2 ⟨rfl, b2⟩
  have B2 : Hid (Below w.heap.size w x2) := B1.out.trans (b2.mono B1.out.size)
  clear b2 B1 N1
  obtain ⟨x3, hx3⟩ : ∃ x3, x2.alloc (.cells #[.int .i64 x, .int .i64 y] 25) = x3 := ⟨_, rfl⟩
  have HW3 : Hid (x2.alloc (.cells #[.int .i64 x, .int .i64 y] 25) = x3) := hx3
  have B3 : Hid (Below w.heap.size w x3) := by rw [← hx3]; exact B2.out.alloc B2.out.size _
  have K3 : Hid (Blk x3 x2.heap.size 25 [.int .i64 x, .int .i64 y]) := by rw [← hx3]; exact Blk.new x2 _ _
  clear hx3 B2
  unfold addrV
  go_wp2_with fail
  rw [HW3.out]
  generalize x2.heap.size = g2 at *
  clear HW3
  refine (toByteS a len cap l _ HL.out (HR.out.later B3.out (Nat.le_refl _)) (by omega)).mono ?_
  rintro e x4 ⟨rfl, rx4, bx4⟩
  have N4 : Hid (Row x4 x3.heap.size len l) := rx4
  have B4 : Hid (Below w.heap.size w x4) := B3.out.trans (bx4.mono B3.out.size)
  have K4 : Hid (Blk x4 g2 25 [.int .i64 x, .int .i64 y]) := K3.out.later bx4
  clear rx4 bx4 B3 K3
  go_wp2_with fail
  refine (implGetAddr _ len len l i _ HL.out N4.out.rd HY.out (Nat.le_refl _) (by omega) hi).mono ?_
  rw [HG.out]
  rintro e x5 ⟨rfl, b5⟩
  have B5 : Hid (Below w.heap.size w x5) := B4.out.trans (b5.mono B4.out.size)
  obtain ⟨x6, hx6⟩ : ∃ x6, x5.alloc (.cells #[.int .i64 x, .int .i64 y] 25) = x6 := ⟨_, rfl⟩
  have HW6 : Hid (x5.alloc (.cells #[.int .i64 x, .int .i64 y] 25) = x6) := hx6
  have B6 : Hid (Below w.heap.size w x6) := by rw [← hx6]; exact B5.out.alloc B5.out.size _
  have K6 : Hid (Blk x6 g2 25 [.int .i64 x, .int .i64 y]) := by rw [← hx6]; exact (K4.out.later b5).alloc _
  have L6 : Hid (Blk x6 x5.heap.size 25 [.int .i64 x, .int .i64 y]) := by rw [← hx6]; exact Blk.new x5 _ _
  have N6 : Hid (Row x6 x3.heap.size len l) := by rw [← hx6]; exact row_alloc (N4.out.later b5) _
  clear hx6 b5 B4 B5 K4 N4
  unfold addrV
  go_upto_region 6 with fail
  rw [HW6.out]
  generalize x5.heap.size = g5 at *
  have c0 := K6.out.cell 0 rfl
  have c1 := K6.out.cell 1 rfl
  have d0 := L6.out.cell 0 rfl
  have d1 := L6.out.cell 1 rfl
  clear HW6
  go_wp2_with fail
  refine (eqAddr x y x y x6).mono ?_
  rw [decide_eq_true (show x = x ∧ y = y from ⟨rfl, rfl⟩)]
  rintro e x7 ⟨rfl, b7⟩
  have B7 : Hid (Below w.heap.size w x7) := B6.out.trans (b7.mono B6.out.size)
  have N7 : Hid (Row x7 x3.heap.size len l) := N6.out.later b7
  clear b7 B6 N6 K6 L6 c0 c1 d0 d1
  go_wp2_with fail
  refine (toByteS a len cap l _ HL.out (HR.out.later B7.out (Nat.le_refl _)) (by omega)).mono ?_
  rintro e x8 ⟨rfl, rx8, bx8⟩
  have T8 : Hid (Row x8 x7.heap.size len l) := rx8
  have B8 : Hid (Below w.heap.size w x8) := B7.out.trans (bx8.mono B7.out.size)
  have N8 : Hid (Row x8 x3.heap.size len l) := N7.out.later bx8
  clear rx8 bx8 B7 N7
  go_wp2_with fail
  refine (eqByteS _ _ len len len len l l _ HL.out HL.out N8.out.rd T8.out.rd (by omega) (by omega)).mono ?_
  rintro e x9 ⟨rfl, m9, d9⟩
  have B9 : Hid (Below w.heap.size w x9) := by rw [d9]; exact below_drewN B8.out _
  clear d9 B8
  go_wp2
  go_ret
  exact ⟨rfl, B9.out⟩

theorem walk (a : Option Addr) (len cap : Nat) (z : List Int) (i : Int) (w : World) (h : IsRow .u8 w a len cap z) (hi : i ≤ 9223372036854775807) :
    Calls Try.prog 5 #[.slice a len cap, .int .i64 i] w fun e w' => e = .returned (.bool true) ∧ Below w.heap.size w w' := by
  obtain ⟨l, h1, h2, _, h4⟩ := h.read
  by_cases hl : len ≤ 1048576
  · exact small a len cap l i w h1 h2 h4 hl hi
  · have hl' : (1048576 : Int) < (len : Int) := by omega
    clear h h1 h2 h4 hl hi
    go_enter Try.func5, Try.ntmps5
    go_wp2
    go_ret
    exact ⟨rfl, Below.refl _ _⟩
end Go.Proofs.Yticfgbfchpnpoaa.LawGetAddr

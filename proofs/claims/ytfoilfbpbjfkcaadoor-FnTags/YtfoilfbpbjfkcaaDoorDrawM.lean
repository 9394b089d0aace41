/-
  What DrawHmac and DrawTag give: two slices of bytes, in new memory.
-/
import Derived.Test.YtfoilfbpbjfkcaaDoorDrawB
namespace Go.Proofs.YtfoilfbpbjfkcaaDoor.DrawM
open Go.RowKit Go.Proofs.YtfoilfbpbjfkcaaDoor.Mem Go.Proofs.YtfoilfbpbjfkcaaDoor.App Go.Proofs.YtfoilfbpbjfkcaaDoor.Draw

set_option maxRecDepth 100000 in
set_option maxHeartbeats 800000 in
theorem drawHmac (a : Option Addr) (len cap : Nat) (l : List Int) (w : World) (hl : len = l.length) (hr : Rd w a l) (hb : Bytes l) (hlen : len ≤ 1048576) :
    Calls Tryd.prog 29 #[.slice a len cap] w fun e w' =>
      ∃ (g m c : Nat) (r : List Int) (g2 m2 c2 : Nat) (r2 : List Int), e = .returned (.tuple #[.slice (some ⟨g, 0, none⟩) m c, .slice (some ⟨g2, 0, none⟩) m2 c2]) ∧ m = r.length ∧ m ≤ 1000 ∧ Bytes r ∧ m2 = r2.length ∧ m2 ≤ 1000 ∧ Bytes r2 ∧ Row w' g c r ∧ Row w' g2 c2 r2 ∧ Below w.heap.size w w' := by
  have HR : Hid (Rd w a l) := hr
  have HB : Hid (Bytes l) := hb
  have HL : Hid (len = l.length) := hl
  clear hr hb hl
  go_enter Tryd.func29, Tryd.ntmps29
  go_wp2_with fail
  refine (newCur a len cap l w HL.out HR.out HB.out hlen).mono ?_
  rintro e w1 ⟨p, rfl, r1⟩
  have R1 : Hid (Ready w a len cap l p w1) := r1
  clear r1 HR HB HL
  go_wp2_with fail
  refine (intOfList (R1.out.alloc _) w1.heap.size 7 [0, 4, 20, 32, 64, 65, 131] rfl (ints_new w1 _) (by have := R1.out.hc.lt; omega) (by omega) (by omega)).mono ?_
  rintro e w2 ⟨x, rfl, hx, r2, _⟩
  have hx : 0 ≤ x ∧ x ≤ 1000 := by simp at hx; omega
  obtain ⟨X, rfl⟩ := Int.eq_ofNat_of_zero_le hx.1
  have hX : X ≤ 1000 := by omega
  have R2 : Hid (Ready w a len cap l p w2) := r2
  clear r2 R1 hx
  go_wp2_with fail
  refine (bytesOf R2.out X hX).mono ?_
  rintro e w3 ⟨g, c, r, rfl, hr1, hr2, hg, row, rdy, _⟩
  have HG : Hid (g ≠ p) := Nat.ne_of_gt (Nat.lt_of_lt_of_le R2.out.hc.lt hg)
  have R3 : Hid (Ready w a len cap l p w3) := rdy
  have HE : Hid (X = r.length) := hr1
  have HY : Hid (Bytes r) := hr2
  have HRow : Hid (Row w3 g c r) := row
  clear rdy hg hr1 hr2 row
  go_wp2_with fail
  refine (intOfList (R3.out.alloc _) w3.heap.size 7 [0, 1, 28, 50, 56, 64, 120] rfl (ints_new w3 _) (by have := R3.out.hc.lt; omega) (by omega) (by omega)).mono ?_
  rintro e w4 ⟨y, rfl, hy, r4, b4⟩
  have hy : 0 ≤ y ∧ y ≤ 1000 := by simp at hy; omega
  obtain ⟨Y, rfl⟩ := Int.eq_ofNat_of_zero_le hy.1
  have hY : Y ≤ 1000 := by omega
  have R4 : Hid (Ready w a len cap l p w4) := r4
  have HRow4 : Hid (Row w4 g c r) := Row.but (row_alloc HRow.out _) b4 HG.out
  clear r4 R3 hy b4 HRow
  go_wp2_with fail
  refine (bytesOf R4.out Y hY).mono ?_
  rintro e w5 ⟨g2, c2, s, rfl, hs1, hs2, hg2, row2, rdy2, b5⟩
  have HRow5 : Hid (Row w5 g c r) := Row.but HRow4.out b5 HG.out
  have B5 : Hid (Below w.heap.size w w5) := rdy2.hB
  have HE2 : Hid (Y = s.length) := hs1
  have HY2 : Hid (Bytes s) := hs2
  have HRow2 : Hid (Row w5 g2 c2 s) := row2
  clear rdy2 hg2 hs1 hs2 row2 b5
  go_wp2
  go_ret2
  exact ⟨g, X, c, r, g2, Y, c2, s, rfl, HE.out, hX, HY.out, HE2.out, hY, HY2.out, HRow5.out, HRow2.out, B5.out⟩

set_option maxRecDepth 100000 in
set_option maxHeartbeats 800000 in
theorem drawTag (a : Option Addr) (len cap : Nat) (l : List Int) (w : World) (hl : len = l.length) (hr : Rd w a l) (hb : Bytes l) (hlen : len ≤ 1048576) :
    Calls Tryd.prog 23 #[.slice a len cap] w fun e w' =>
      ∃ (g m c : Nat) (r : List Int) (g2 m2 c2 : Nat) (r2 : List Int), e = .returned (.tuple #[.slice (some ⟨g, 0, none⟩) m c, .slice (some ⟨g2, 0, none⟩) m2 c2]) ∧ m = r.length ∧ m ≤ 1000 ∧ Bytes r ∧ m2 = r2.length ∧ m2 ≤ 1000 ∧ Bytes r2 ∧ Row w' g c r ∧ Row w' g2 c2 r2 ∧ Below w.heap.size w w' := by
  have HR : Hid (Rd w a l) := hr
  have HB : Hid (Bytes l) := hb
  have HL : Hid (len = l.length) := hl
  clear hr hb hl
  go_enter Tryd.func23, Tryd.ntmps23
  go_wp2_with fail
  refine (newCur a len cap l w HL.out HR.out HB.out hlen).mono ?_
  rintro e w1 ⟨p, rfl, r1⟩
  have R1 : Hid (Ready w a len cap l p w1) := r1
  clear r1 HR HB HL
  go_wp2_with fail
  refine (intOfList (R1.out.alloc _) w1.heap.size 5 [0, 32, 32, 64, 65] rfl (ints_new w1 _) (by have := R1.out.hc.lt; omega) (by omega) (by omega)).mono ?_
  rintro e w2 ⟨x, rfl, hx, r2, _⟩
  have hx : 0 ≤ x ∧ x ≤ 1000 := by simp at hx; omega
  obtain ⟨X, rfl⟩ := Int.eq_ofNat_of_zero_le hx.1
  have hX : X ≤ 1000 := by omega
  have R2 : Hid (Ready w a len cap l p w2) := r2
  clear r2 R1 hx
  go_wp2_with fail
  refine (bytesOf R2.out X hX).mono ?_
  rintro e w3 ⟨g, c, r, rfl, hr1, hr2, hg, row, rdy, _⟩
  have HG : Hid (g ≠ p) := Nat.ne_of_gt (Nat.lt_of_lt_of_le R2.out.hc.lt hg)
  have R3 : Hid (Ready w a len cap l p w3) := rdy
  have HE : Hid (X = r.length) := hr1
  have HY : Hid (Bytes r) := hr2
  have HRow : Hid (Row w3 g c r) := row
  clear rdy hg hr1 hr2 row
  go_wp2_with fail
  refine (intOfList (R3.out.alloc _) w3.heap.size 5 [0, 1, 28, 56, 80] rfl (ints_new w3 _) (by have := R3.out.hc.lt; omega) (by omega) (by omega)).mono ?_
  rintro e w4 ⟨y, rfl, hy, r4, b4⟩
  have hy : 0 ≤ y ∧ y ≤ 1000 := by simp at hy; omega
  obtain ⟨Y, rfl⟩ := Int.eq_ofNat_of_zero_le hy.1
  have hY : Y ≤ 1000 := by omega
  have R4 : Hid (Ready w a len cap l p w4) := r4
  have HRow4 : Hid (Row w4 g c r) := Row.but (row_alloc HRow.out _) b4 HG.out
  clear r4 R3 hy b4 HRow
  go_wp2_with fail
  refine (bytesOf R4.out Y hY).mono ?_
  rintro e w5 ⟨g2, c2, s, rfl, hs1, hs2, hg2, row2, rdy2, b5⟩
  have HRow5 : Hid (Row w5 g c r) := Row.but HRow4.out b5 HG.out
  have B5 : Hid (Below w.heap.size w w5) := rdy2.hB
  have HE2 : Hid (Y = s.length) := hs1
  have HY2 : Hid (Bytes s) := hs2
  have HRow2 : Hid (Row w5 g2 c2 s) := row2
  clear rdy2 hg2 hs1 hs2 row2 b5
  go_wp2
  go_ret2
  exact ⟨g, X, c, r, g2, Y, c2, s, rfl, HE.out, hX, HY.out, HE2.out, hY, HY2.out, HRow5.out, HRow2.out, B5.out⟩

end Go.Proofs.YtfoilfbpbjfkcaaDoor.DrawM

/-
  What the draws of chapters 4 and 5 give: bytes in new memory, and numbers.
-/
import Derived.Test.YtppckomiobablaaDoorDrawB
namespace Go.Proofs.YtppckomiobablaaDoor.DrawK
open Go.RowKit Go.Proofs.YtppckomiobablaaDoor.Mem Go.Proofs.YtppckomiobablaaDoor.App Go.Proofs.YtppckomiobablaaDoor.Draw

set_option maxRecDepth 100000 in
set_option maxHeartbeats 1600000 in
theorem drawStream (a : Option Addr) (len cap : Nat) (l : List Int) (w : World) (hl : len = l.length) (hr : Rd w a l) (hb : Bytes l) (hlen : len ≤ 1048576) :
    Calls Tryd.prog 9 #[.slice a len cap] w fun e w' =>
      ∃ (g1 m1 c1 : Nat) (s1 : List Int) (g2 m2 c2 : Nat) (s2 : List Int) (x3 : Int), e = .returned (.tuple #[.slice (some ⟨g1, 0, none⟩) m1 c1, .slice (some ⟨g2, 0, none⟩) m2 c2, .int .i64 x3]) ∧ (m1 = s1.length ∧ m1 ≤ 1000 ∧ Bytes s1) ∧ (m2 = s2.length ∧ m2 ≤ 1000 ∧ Bytes s2) ∧ (x3 ∈ ([0, 1, 12, 31, 32, 33, 40, 64, 200, 201, -1] : List Int)) ∧ Row w' g1 c1 s1 ∧ Row w' g2 c2 s2 ∧ Below w.heap.size w w' := by
  have HR : Hid (Rd w a l) := hr
  have HB : Hid (Bytes l) := hb
  have HL : Hid (len = l.length) := hl
  clear hr hb hl
  go_enter Tryd.func9, Tryd.ntmps9
  go_wp2_with fail
  refine (newCur a len cap l w HL.out HR.out HB.out hlen).mono ?_
  rintro e w1 ⟨p, rfl, r1⟩
  have R1 : Hid (Ready w a len cap l p w1) := r1
  clear r1 HR HB HL
  go_wp2_with fail
  refine (intOfList (R1.out.alloc _) w1.heap.size 3 [0, 32, 32] rfl (ints_new w1 _) (by have := R1.out.hc.lt; omega) (by omega) (by omega)).mono ?_
  rintro e w2 ⟨x1, rfl, hx1, rw2, bw2⟩
  have R2 : Hid (Ready w a len cap l p w2) := rw2
  clear rw2 bw2 R1
  have qx1 : 0 ≤ x1 ∧ x1 ≤ 1000 := by simp at hx1; omega
  obtain ⟨X1, rfl⟩ := Int.eq_ofNat_of_zero_le qx1.1
  have hX1 : X1 ≤ 1000 := by omega
  clear qx1 hx1
  go_wp2_with fail
  refine (bytesOf R2.out X1 hX1).mono ?_
  rintro e w3 ⟨g1, c1, s1, rfl, e1, y1, k1, o1, rw3, bw3⟩
  have G1 : Hid (g1 ≠ p) := Nat.ne_of_gt (Nat.lt_of_lt_of_le R2.out.hc.lt k1)
  have E1 : Hid (X1 = s1.length) := e1
  have Y1 : Hid (Bytes s1) := y1
  have W1 : Hid (Row w3 g1 c1 s1) := o1
  have R3 : Hid (Ready w a len cap l p w3) := rw3
  clear rw3 bw3 R2 e1 y1 k1 o1
  go_wp2_with fail
  refine (intOfList (R3.out.alloc _) w3.heap.size 5 [0, 23, 23, 100, 101] rfl (ints_new w3 _) (by have := R3.out.hc.lt; omega) (by omega) (by omega)).mono ?_
  rintro e w4 ⟨x2, rfl, hx2, rw4, bw4⟩
  have W1x : Hid (Row w4 g1 c1 s1) := Row.but (row_alloc W1.out _) bw4 G1.out
  clear W1
  have R4 : Hid (Ready w a len cap l p w4) := rw4
  clear rw4 bw4 R3
  have qx2 : 0 ≤ x2 ∧ x2 ≤ 1000 := by simp at hx2; omega
  obtain ⟨X2, rfl⟩ := Int.eq_ofNat_of_zero_le qx2.1
  have hX2 : X2 ≤ 1000 := by omega
  clear qx2 hx2
  go_wp2_with fail
  refine (bytesOf R4.out X2 hX2).mono ?_
  rintro e w5 ⟨g2, c2, s2, rfl, e2, y2, k2, o2, rw5, bw5⟩
  have G2 : Hid (g2 ≠ p) := Nat.ne_of_gt (Nat.lt_of_lt_of_le R4.out.hc.lt k2)
  have E2 : Hid (X2 = s2.length) := e2
  have Y2 : Hid (Bytes s2) := y2
  have W2 : Hid (Row w5 g2 c2 s2) := o2
  have W1xx : Hid (Row w5 g1 c1 s1) := Row.but W1x.out bw5 G1.out
  clear W1x
  have R5 : Hid (Ready w a len cap l p w5) := rw5
  clear rw5 bw5 R4 e2 y2 k2 o2
  go_wp2_with fail
  refine (intOfList (R5.out.alloc _) w5.heap.size 11 [0, 1, 12, 31, 32, 33, 40, 64, 200, 201, -1] rfl (ints_new w5 _) (by have := R5.out.hc.lt; omega) (by omega) (by omega)).mono ?_
  rintro e w6 ⟨x3, rfl, hx3, rw6, bw6⟩
  have W1xxx : Hid (Row w6 g1 c1 s1) := Row.but (row_alloc W1xx.out _) bw6 G1.out
  clear W1xx
  have W2x : Hid (Row w6 g2 c2 s2) := Row.but (row_alloc W2.out _) bw6 G2.out
  clear W2
  have R6 : Hid (Ready w a len cap l p w6) := rw6
  clear rw6 bw6 R5
  have M3 : Hid (x3 ∈ ([0, 1, 12, 31, 32, 33, 40, 64, 200, 201, -1] : List Int)) := hx3
  clear hx3
  have BB : Hid (Below w.heap.size w w6) := R6.out.hB
  go_wp2
  go_ret3
  exact ⟨g1, X1, c1, s1, g2, X2, c2, s2, x3, rfl, ⟨E1.out, hX1, Y1.out⟩, ⟨E2.out, hX2, Y2.out⟩, M3.out, W1xxx.out, W2x.out, BB.out⟩

set_option maxRecDepth 100000 in
set_option maxHeartbeats 1600000 in
theorem drawMix (a : Option Addr) (len cap : Nat) (l : List Int) (w : World) (hl : len = l.length) (hr : Rd w a l) (hb : Bytes l) (hlen : len ≤ 1048576) :
    Calls Tryd.prog 14 #[.slice a len cap] w fun e w' =>
      ∃ (g1 m1 c1 : Nat) (s1 : List Int) (g2 m2 c2 : Nat) (s2 : List Int) (g3 m3 c3 : Nat) (s3 : List Int), e = .returned (.tuple #[.slice (some ⟨g1, 0, none⟩) m1 c1, .slice (some ⟨g2, 0, none⟩) m2 c2, .slice (some ⟨g3, 0, none⟩) m3 c3]) ∧ (m1 = s1.length ∧ m1 ≤ 1000 ∧ Bytes s1) ∧ (m2 = s2.length ∧ m2 ≤ 1000 ∧ Bytes s2) ∧ (m3 = s3.length ∧ m3 ≤ 1000 ∧ Bytes s3) ∧ Row w' g1 c1 s1 ∧ Row w' g2 c2 s2 ∧ Row w' g3 c3 s3 ∧ Below w.heap.size w w' := by
  have HR : Hid (Rd w a l) := hr
  have HB : Hid (Bytes l) := hb
  have HL : Hid (len = l.length) := hl
  clear hr hb hl
  go_enter Tryd.func14, Tryd.ntmps14
  go_wp2_with fail
  refine (newCur a len cap l w HL.out HR.out HB.out hlen).mono ?_
  rintro e w1 ⟨p, rfl, r1⟩
  have R1 : Hid (Ready w a len cap l p w1) := r1
  clear r1 HR HB HL
  have hX1 : 32 ≤ 1000 := by omega
  go_wp2_with fail
  refine (bytesOf R1.out 32 hX1).mono ?_
  rintro e w2 ⟨g1, c1, s1, rfl, e1, y1, k1, o1, rw2, bw2⟩
  have G1 : Hid (g1 ≠ p) := Nat.ne_of_gt (Nat.lt_of_lt_of_le R1.out.hc.lt k1)
  have E1 : Hid (32 = s1.length) := e1
  have Y1 : Hid (Bytes s1) := y1
  have W1 : Hid (Row w2 g1 c1 s1) := o1
  have R2 : Hid (Ready w a len cap l p w2) := rw2
  clear rw2 bw2 R1 e1 y1 k1 o1
  go_wp2_with fail
  refine (intOfList (R2.out.alloc _) w2.heap.size 5 [0, 23, 23, 100, 101] rfl (ints_new w2 _) (by have := R2.out.hc.lt; omega) (by omega) (by omega)).mono ?_
  rintro e w3 ⟨x2, rfl, hx2, rw3, bw3⟩
  have W1x : Hid (Row w3 g1 c1 s1) := Row.but (row_alloc W1.out _) bw3 G1.out
  clear W1
  have R3 : Hid (Ready w a len cap l p w3) := rw3
  clear rw3 bw3 R2
  have qx2 : 0 ≤ x2 ∧ x2 ≤ 1000 := by simp at hx2; omega
  obtain ⟨X2, rfl⟩ := Int.eq_ofNat_of_zero_le qx2.1
  have hX2 : X2 ≤ 1000 := by omega
  clear qx2 hx2
  go_wp2_with fail
  refine (bytesOf R3.out X2 hX2).mono ?_
  rintro e w4 ⟨g2, c2, s2, rfl, e2, y2, k2, o2, rw4, bw4⟩
  have G2 : Hid (g2 ≠ p) := Nat.ne_of_gt (Nat.lt_of_lt_of_le R3.out.hc.lt k2)
  have E2 : Hid (X2 = s2.length) := e2
  have Y2 : Hid (Bytes s2) := y2
  have W2 : Hid (Row w4 g2 c2 s2) := o2
  have W1xx : Hid (Row w4 g1 c1 s1) := Row.but W1x.out bw4 G1.out
  clear W1x
  have R4 : Hid (Ready w a len cap l p w4) := rw4
  clear rw4 bw4 R3 e2 y2 k2 o2
  go_wp2_with fail
  refine (intOfList (R4.out.alloc _) w4.heap.size 8 [0, 1, 12, 32, 33, 40, 200, 201] rfl (ints_new w4 _) (by have := R4.out.hc.lt; omega) (by omega) (by omega)).mono ?_
  rintro e w5 ⟨x3, rfl, hx3, rw5, bw5⟩
  have W1xxx : Hid (Row w5 g1 c1 s1) := Row.but (row_alloc W1xx.out _) bw5 G1.out
  clear W1xx
  have W2x : Hid (Row w5 g2 c2 s2) := Row.but (row_alloc W2.out _) bw5 G2.out
  clear W2
  have R5 : Hid (Ready w a len cap l p w5) := rw5
  clear rw5 bw5 R4
  have qx3 : 0 ≤ x3 ∧ x3 ≤ 1000 := by simp at hx3; omega
  obtain ⟨X3, rfl⟩ := Int.eq_ofNat_of_zero_le qx3.1
  have hX3 : X3 ≤ 1000 := by omega
  clear qx3 hx3
  go_wp2_with fail
  refine (bytesOf R5.out X3 hX3).mono ?_
  rintro e w6 ⟨g3, c3, s3, rfl, e3, y3, k3, o3, rw6, bw6⟩
  have G3 : Hid (g3 ≠ p) := Nat.ne_of_gt (Nat.lt_of_lt_of_le R5.out.hc.lt k3)
  have E3 : Hid (X3 = s3.length) := e3
  have Y3 : Hid (Bytes s3) := y3
  have W3 : Hid (Row w6 g3 c3 s3) := o3
  have W1xxxx : Hid (Row w6 g1 c1 s1) := Row.but W1xxx.out bw6 G1.out
  clear W1xxx
  have W2xx : Hid (Row w6 g2 c2 s2) := Row.but W2x.out bw6 G2.out
  clear W2x
  have R6 : Hid (Ready w a len cap l p w6) := rw6
  clear rw6 bw6 R5 e3 y3 k3 o3
  have BB : Hid (Below w.heap.size w w6) := R6.out.hB
  go_wp2
  go_ret3
  exact ⟨g1, 32, c1, s1, g2, X2, c2, s2, g3, X3, c3, s3, rfl, ⟨E1.out, hX1, Y1.out⟩, ⟨E2.out, hX2, Y2.out⟩, ⟨E3.out, hX3, Y3.out⟩, W1xxxx.out, W2xx.out, W3.out, BB.out⟩
end Go.Proofs.YtppckomiobablaaDoor.DrawK

/-
  What is drawn of addresses: right ones, any, and texts; nothing that was there is written.
-/
import Derived.Test.YtpgapjdejelajaaGreatDoorVaAddrT
import Derived.Test.YtpgapjdejelajaaGreatDoorVaDrawD
import Derived.Test.YtpgapjdejelajaaGreatDoorVaStrs
set_option maxRecDepth 100000
namespace Go.Proofs.YtpgapjdejelajaaGreatDoor.DrawA
open Go.RowKit Mem App Blk Str Draw DrawD AddrP Res AddrS

theorem Ready.later {W0 : World} {a : Option Addr} {len cap : Nat} {l : List Int} {p : Nat} {w w' : World} (h : Ready W0 a len cap l p w) (b : Below w.heap.size w w') : Ready W0 a len cap l p w' :=
 h.next (h.hc.keep (b.block p h.hc.lt)) (but_below b)
theorem Blk.but {w w' : World} {p g : Nat} {t : TypeId} {cs : List Value} (h : Blk w g t cs) (b : But p w w') (hg : g ≠ p) : Blk w' g t cs :=
 h.keep (b.block g h.lt (by simp only [ne_eq, Option.some.injEq]; exact hg))
theorem Ready.setCell {W0 : World} {a : Option Addr} {len cap : Nat} {l : List Int} {p : Nat} {w : World} (h : Ready W0 a len cap l p w) (ad : Addr) (v : Value) (h1 : ad.block ≠ p) (h2 : W0.heap.size ≤ ad.block) : Ready W0 a len cap l p (w.setCell ad v) :=
 ⟨h.hl, h.hr, h.hb, h.hlen, h.hB.setCell h2 v, h.hp, h.hc.keep (Below.heap_setCell w ad v p (Ne.symm h1))⟩

theorem But.setCell {p : Nat} {w w' : World} (h : But p w w') (ad : Addr) (v : Value) (hg : w.heap.size ≤ ad.block) : But p w (w'.setCell ad v) :=
 ⟨h.os, h.tape, h.output, by have := h.size; simpa using this, fun i hi hne => (Below.heap_setCell w' ad v i (by omega)).trans (h.block i hi hne)⟩
theorem own2 {W0 : World} {a : Option Addr} {len cap : Nat} {l : List Int} {p g : Nat} {w w' : World} {t : TypeId} {u0 u1 : Value} (R : Ready W0 a len cap l p w') (B : But p w w') (K : Blk w' g t [u0, u1]) (h1 : g ≠ p) (h2 : W0.heap.size ≤ g) (h3 : w.heap.size ≤ g) (v0 v1 : Value) :
  Ready W0 a len cap l p ((w'.setCell ⟨g, 0, none⟩ v0).setCell ⟨g, 1, none⟩ v1) ∧ But p w ((w'.setCell ⟨g, 0, none⟩ v0).setCell ⟨g, 1, none⟩ v1) ∧ Blk ((w'.setCell ⟨g, 0, none⟩ v0).setCell ⟨g, 1, none⟩ v1) g t [v0, v1] :=
 ⟨Ready.setCell (Ready.setCell R _ _ h1 h2) _ _ h1 h2, But.setCell (But.setCell B _ _ h3) _ _ h3, (K.set 0 v0 (by simp [maxLen])).set 1 v1 (by simp [maxLen])⟩

set_option maxHeartbeats 1600000 in
theorem l6Draw {W0 : World} {a : Option Addr} {len cap : Nat} {l : List Int} {p : Nat} {w : World} (h : Ready W0 a len cap l p w) :
  Calls Tryz.prog 65 #[.pointer (some ⟨p, 0, none⟩)] w fun e w' => ∃ x y : Int, e = .returned (addrV x y) ∧ addrOk x y = true ∧ Ready W0 a len cap l p w' ∧ But p w w' := by
 obtain ⟨w0, hw0⟩ : ∃ w0, w.alloc (.cells #[.int .i64 0, .int .i64 0] 27) = w0 := ⟨_, rfl⟩
 have HW0 := hid (hw0)
 have HR : Hid (Ready W0 a len cap l p w0) := by rw [← hw0]; exact h.alloc _
 have B0 : Hid (But p w w0) := by rw [← hw0]; exact (But.refl p w).alloc _
 have K0 : Hid (Blk w0 w.heap.size 27 [.int .i64 0, .int .i64 0]) := by rw [← hw0]; exact Blk.new w _ _
 have hlt := h.hc.lt
 have hne : w.heap.size ≠ p := by omega
 have hle : W0.heap.size ≤ w.heap.size := h.hB.size
 clear h hw0
 go_enter Tryz.func65, Tryz.ntmps65
 go_upto_region 1 with fail
 rw [HW0.out]
 generalize hgg : w.heap.size = gg at *
 go_wp2_with fail
 refine (once HR.out 3 (by omega) (by omega)).mono ?_
 rintro e w1 ⟨x, rfl, r1, b1⟩
 have R1 := hid (r1)
 have B1 := hid (B0.out.trans b1)
 have K1 : Hid (Blk w1 gg 27 [.int .i64 0, .int .i64 0]) := Blk.but K0.out b1 hne
 clear r1 b1 HR B0 K0
 cases x with
 | true =>
  go_wp2_with fail
  refine (below R1.out 16777216 (by omega) (by omega)).mono ?_
  rintro e w2 ⟨x, rfl, x0, x1, r2, b2⟩
  have R2 := hid (r2)
  have B2 := hid (B1.out.trans b2)
  have K2 : Hid (Blk w2 gg 27 [.int .i64 0, .int .i64 0]) := Blk.but K1.out b2 hne
  clear r2 b2 R1 B1 K1
  go_wp2_with fail
  refine (Draw.byteOf R2.out).mono ?_
  rintro e w3 ⟨y, rfl, y0, y1, r3, b3⟩
  have R3 := hid (r3)
  have B3 := hid (B2.out.trans b3)
  have K3 : Hid (Blk w3 gg 27 [.int .i64 0, .int .i64 0]) := Blk.but K2.out b3 hne
  clear r3 b3 R2 B2 K2
  go_wp2_with fail
  refine (below R3.out 65536 (by omega) (by omega)).mono ?_
  rintro e w4 ⟨z, rfl, z0, z1, r4, b4⟩
  have R4 := hid (r4)
  have B4 := hid (B3.out.trans b4)
  have K4 : Hid (Blk w4 gg 27 [.int .i64 0, .int .i64 0]) := Blk.but K3.out b4 hne
  clear r4 b4 R3 B3 K3
  have c0 := K4.out.cell 0 rfl
  have c1 := K4.out.cell 1 rfl
  have f0 := K4.out.frozen 0
  have f1 := K4.out.frozen 1
  have v1 : IntKind.i64.wrap (x * 256) = x * 256 := by rw [IntKind.wrap_i64]; omega
  have v2 : IntKind.i64.wrap (x * 256 + y) = x * 256 + y := by rw [IntKind.wrap_i64]; omega
  go_wp2
  obtain ⟨r5, b5, k5⟩ := own2 R4.out B4.out K4.out hne hle (by omega) (.int .i64 (x * 256 + y)) (.int .i64 z)
  exact ret_addr rfl rfl k5 rfl ⟨x * 256 + y, z, rfl, (addrOk_iff _ _).2 ⟨by omega, by omega, by omega, by omega⟩, r5, b5⟩
 | false =>
  go_wp2_with fail
  refine (below R1.out 6 (by omega) (by omega)).mono ?_
  rintro e w2 ⟨x, rfl, x0, x1, r2, b2⟩
  have R2 := hid (r2)
  have B2 := hid (B1.out.trans b2)
  have K2 : Hid (Blk w2 gg 27 [.int .i64 0, .int .i64 0]) := Blk.but K1.out b2 hne
  clear r2 b2 R1 B1 K1
  go_wp2_with fail
  refine (specNear x w2).mono ?_
  rw [if_pos ⟨by omega, by omega⟩]
  rintro e w3 ⟨rfl, b3⟩
  have R3 : Hid (Ready W0 a len cap l p w3) := Ready.later R2.out b3
  have B3 := hid (B2.out.trans (but_below b3))
  have K3 := hid (K2.out.later b3)
  clear b3 R2 B2 K2
  have c0 := K3.out.cell 0 rfl
  have c1 := K3.out.cell 1 rfl
  have f0 := K3.out.frozen 0
  have f1 := K3.out.frozen 1
  unfold addrV
  go_wp2
  obtain ⟨r5, b5, k5⟩ := own2 R3.out B3.out K3.out hne hle (by omega) (.int .i64 (167772160 + x)) (.int .i64 (7000 + x))
  exact ret_addr rfl rfl k5 rfl ⟨167772160 + x, 7000 + x, rfl, (addrOk_iff _ _).2 ⟨by omega, by omega, by omega, by omega⟩, r5, b5⟩

set_option maxHeartbeats 4000000 in
theorem l6Any {W0 : World} {a : Option Addr} {len cap : Nat} {l : List Int} {p : Nat} {w : World} (h : Ready W0 a len cap l p w) :
  Calls Tryz.prog 32 #[.pointer (some ⟨p, 0, none⟩)] w fun e w' => ∃ x y : Int, e = .returned (addrV x y) ∧ Ready W0 a len cap l p w' ∧ But p w w' := by
 obtain ⟨w0, hw0⟩ : ∃ w0, w.alloc (.cells #[.int .i64 0, .int .i64 0] 27) = w0 := ⟨_, rfl⟩
 have HW0 := hid (hw0)
 have HR : Hid (Ready W0 a len cap l p w0) := by rw [← hw0]; exact h.alloc _
 have B0 : Hid (But p w w0) := by rw [← hw0]; exact (But.refl p w).alloc _
 have K0 : Hid (Blk w0 w.heap.size 27 [.int .i64 0, .int .i64 0]) := by rw [← hw0]; exact Blk.new w _ _
 have hlt := h.hc.lt
 have hne : w.heap.size ≠ p := by omega
 have hle : W0.heap.size ≤ w.heap.size := h.hB.size
 clear h hw0
 go_enter Tryz.func32, Tryz.ntmps32
 go_upto_region 1 with fail
 rw [HW0.out]
 generalize hgg : w.heap.size = gg at *
 go_wp2_with fail
 refine (l6Draw HR.out).mono ?_
 rintro e w1 ⟨x, y, rfl, _, r1, b1⟩
 have R1 := hid (r1)
 have B1 := hid (B0.out.trans b1)
 have K1 : Hid (Blk w1 gg 27 [.int .i64 0, .int .i64 0]) := Blk.but K0.out b1 hne
 clear r1 b1 HR B0 K0
 obtain ⟨w2, hw2⟩ : ∃ w2, w1.alloc (.cells #[.int .i64 x, .int .i64 y] 27) = w2 := ⟨_, rfl⟩
 have HW2 := hid (hw2)
 have R2 : Hid (Ready W0 a len cap l p w2) := by rw [← hw2]; exact R1.out.alloc _
 have B2 : Hid (But p w w2) := by rw [← hw2]; exact B1.out.alloc _
 have K2 : Hid (Blk w2 gg 27 [.int .i64 0, .int .i64 0]) := by rw [← hw2]; exact K1.out.alloc _
 have L2 : Hid (Blk w2 w1.heap.size 27 [.int .i64 x, .int .i64 y]) := by rw [← hw2]; exact Blk.new w1 _ _
 have g1 : gg < w1.heap.size := K1.out.lt
 have hp1 : p < w1.heap.size := R1.out.hc.lt
 clear hw2 R1 B1 K1
 unfold addrV
 go_upto_region 2 with fail
 rw [HW2.out]
 generalize hg2 : w1.heap.size = g2 at *
 have hne2 : g2 ≠ p := by omega
 have hgne : gg ≠ g2 := by omega
 have hle2 : W0.heap.size ≤ g2 := by omega
 clear HW2
 go_wp2_with fail
 refine (below R2.out 10 (by omega) (by omega)).mono ?_
 rintro e w3 ⟨n, rfl, n0, n1, r3, b3⟩
 have R3 := hid (r3)
 have B3 := hid (B2.out.trans b3)
 have K3 : Hid (Blk w3 gg 27 [.int .i64 0, .int .i64 0]) := Blk.but K2.out b3 hne
 have L3 : Hid (Blk w3 g2 27 [.int .i64 x, .int .i64 y]) := Blk.but L2.out b3 hne2
 clear r3 b3 R2 B2 K2 L2
 by_cases h0 : n = 0
 ·
  subst h0
  go_wp2_with fail
  refine (odd R3.out).mono ?_
  rintro e w4 ⟨z, rfl, _, _, r4, b4⟩
  have R4 := hid (r4)
  have B4 := hid (B3.out.trans b4)
  have K4 : Hid (Blk w4 gg 27 [.int .i64 0, .int .i64 0]) := Blk.but K3.out b4 hne
  have L4 : Hid (Blk w4 g2 27 [.int .i64 x, .int .i64 y]) := Blk.but L3.out b4 hne2
  clear r4 b4 R3 B3 K3 L3
  have m0 := L4.out.cell 0 rfl
  have m1 := L4.out.cell 1 rfl
  have mf := L4.out.frozen 0
  have c0 := K4.out.cell 0 rfl
  have c1 := K4.out.cell 1 rfl
  have f0 := K4.out.frozen 0
  have f1 := K4.out.frozen 1
  go_wp2
  obtain ⟨r5, b5, k5⟩ := own2 (Ready.setCell R4.out ⟨g2, 0, none⟩ (.int .i64 z) hne2 hle2) (But.setCell B4.out ⟨g2, 0, none⟩ (.int .i64 z) (by show w.heap.size ≤ g2; omega)) (K4.out.other (a := ⟨g2, 0, none⟩) hgne (.int .i64 z)) hne hle (by omega) (.int .i64 z) (.int .i64 y)
  exact ret_addr rfl rfl k5 rfl ⟨z, y, rfl, r5, b5⟩
 ·
  by_cases h1 : n = 1
  ·
   subst h1
   go_wp2_with fail
   refine (intOfList (R3.out.alloc _) w3.heap.size 4 [-1, 65535, 65536, 0] rfl (ints_new w3 _) (by have := R3.out.hc.lt; omega) (by omega) (by omega)).mono ?_
   rintro e w4 ⟨z, rfl, _, r4, b4⟩
   have R4 := hid (r4)
   have B4 : Hid (But p w w4) := (B3.out.alloc _).trans b4
   have K4 : Hid (Blk w4 gg 27 [.int .i64 0, .int .i64 0]) := Blk.but (K3.out.alloc _) b4 hne
   have L4 : Hid (Blk w4 g2 27 [.int .i64 x, .int .i64 y]) := Blk.but (L3.out.alloc _) b4 hne2
   clear r4 b4 R3 B3 K3 L3
   have m0 := L4.out.cell 0 rfl
   have m1 := L4.out.cell 1 rfl
   have mf := L4.out.frozen 1
   have c0 := K4.out.cell 0 rfl
   have c1 := K4.out.cell 1 rfl
   have f0 := K4.out.frozen 0
   have f1 := K4.out.frozen 1
   go_wp2
   obtain ⟨r5, b5, k5⟩ := own2 (Ready.setCell R4.out ⟨g2, 1, none⟩ (.int .i64 z) hne2 hle2) (But.setCell B4.out ⟨g2, 1, none⟩ (.int .i64 z) (by show w.heap.size ≤ g2; omega)) (K4.out.other (a := ⟨g2, 1, none⟩) hgne (.int .i64 z)) hne hle (by omega) (.int .i64 x) (.int .i64 z)
   exact ret_addr rfl rfl k5 rfl ⟨x, z, rfl, r5, b5⟩
  ·
   have m0 := L3.out.cell 0 rfl
   have m1 := L3.out.cell 1 rfl
   have c0 := K3.out.cell 0 rfl
   have c1 := K3.out.cell 1 rfl
   have f0 := K3.out.frozen 0
   have f1 := K3.out.frozen 1
   go_wp2
   obtain ⟨r5, b5, k5⟩ := own2 R3.out B3.out K3.out hne hle (by omega) (.int .i64 x) (.int .i64 y)
   exact ret_addr rfl rfl k5 rfl ⟨x, y, rfl, r5, b5⟩

end Go.Proofs.YtpgapjdejelajaaGreatDoor.DrawA

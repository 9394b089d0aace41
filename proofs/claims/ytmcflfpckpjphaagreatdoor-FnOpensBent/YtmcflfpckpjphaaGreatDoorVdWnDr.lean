/-
  Drawn numbers and windows. No value is told but the lists' lengths.
-/
import Derived.Test.YtmcflfpckpjphaaGreatDoorVdDra1
import Derived.Test.YtmcflfpckpjphaaGreatDoorVdBas3
import Derived.Test.YtmcflfpckpjphaaGreatDoorVdBas1
set_option maxRecDepth 100000
namespace Go.Proofs.YtmcflfpckpjphaaGreatDoor.WnDr
open Go.RowKit Mem MemI Blk Zone ZoneI WnZ Res Each Copy Ops Draw WinP WnK WnT WnU WnV WnG

theorem IRow.but {w w' : World} {p g c : Nat} {l : List Int} (h : IRow w g c l) (b : But p w w') (hg : g ≠ p) : IRow w' g c l :=
 h.keep (b.block g h.lt (by simp only [ne_eq, Option.some.injEq]; exact hg))
theorem Blk.but {w w' : World} {p g : Nat} {t : TypeId} {l : List Value} (h : Blk w g t l) (b : But p w w') (hg : g ≠ p) : Blk w' g t l :=
 h.keep (b.block g h.lt (by simp only [ne_eq, Option.some.injEq]; exact hg))
theorem ready_below {W0 : World} {a : Option Addr} {len cap : Nat} {l : List Int} {p : Nat} {w w' : World} (h : Ready W0 a len cap l p w) (b : Below w.heap.size w w') : Ready W0 a len cap l p w' :=
 ⟨h.hl, h.hr, h.hb, h.hlen, h.hB.trans (b.mono h.hB.size), h.hp, h.hc.keep (b.block p h.hc.lt)⟩
theorem but_below {p : Nat} {a b c : World} (h : But p a b) (k : Below b.heap.size b c) : But p a c :=
 ⟨k.os.trans h.os, k.tape.trans h.tape, k.output.trans h.output, Nat.le_trans h.size k.size, fun i hi hne => (k.block i (Nat.lt_of_lt_of_le hi h.size)).trans (h.block i hi hne)⟩
theorem but_kept {p : Nat} {a b c : World} (h : But p a b) {lo hi : Nat} (k : Kept lo hi b c) (hl : a.heap.size ≤ lo) : But p a c :=
 ⟨k.os.trans h.os, k.tape.trans h.tape, k.output.trans h.output, Nat.le_trans h.size k.size, fun i hi hne => (k.block i (Nat.lt_of_lt_of_le hi h.size) (.inl (by omega))).trans (h.block i hi hne)⟩
theorem ready_kept {W0 : World} {a : Option Addr} {len cap : Nat} {l : List Int} {p : Nat} {w w' : World} (h : Ready W0 a len cap l p w) {lo hi : Nat} (k : Kept lo hi w w') (hl : p < lo) : Ready W0 a len cap l p w' :=
 ⟨h.hl, h.hr, h.hb, h.hlen, h.hB.trans (k.below (by have := h.hp; omega) h.hB.size), h.hp, h.hc.keep (k.block p h.hc.lt (.inl hl))⟩

def Numbers (W0 : World) (a : Option Addr) (len cap : Nat) (l : List Int) (p : Nat) (w : World) (most : Nat) (e : Ending) (w' : World) : Prop :=
 ∃ (g m c : Nat) (L : List Int), e = .returned (.slice (some ⟨g, 0, none⟩) m c) ∧ m = L.length ∧ m ≤ most ∧ w.heap.size ≤ g ∧ IRow w' g c L ∧ Ready W0 a len cap l p w' ∧ But p w w'

set_option maxHeartbeats 4000000 in
theorem nums {W0 : World} {a : Option Addr} {len cap : Nat} {l : List Int} {p : Nat} {w : World} (h : Ready W0 a len cap l p w) (N : Nat) (hN : N ≤ 1000) :
  Calls Tryz.prog 171 #[.pointer (some ⟨p, 0, none⟩), .int .i64 N] w (Numbers W0 a len cap l p w (N + 1)) := by
 have HR := hid (h)
 have HP : Hid (p < w.heap.size) := h.hc.lt
 clear h
 have RA : Hid (Ready W0 a len cap l p ((w.alloc (.cells #[] 3)).alloc (.cells #[.int .i64 0, .int .i64 0, .int .i64 0, .int .i64 1000, .int .i64 5000, .int .i64 281474976710000] 3))) := (HR.out.alloc _).alloc _
 have BA : Hid (But p w ((w.alloc (.cells #[] 3)).alloc (.cells #[.int .i64 0, .int .i64 0, .int .i64 0, .int .i64 1000, .int .i64 5000, .int .i64 281474976710000] 3))) := ((But.refl p w).alloc _).alloc _
 have WA : Hid (IRow ((w.alloc (.cells #[] 3)).alloc (.cells #[.int .i64 0, .int .i64 0, .int .i64 0, .int .i64 1000, .int .i64 5000, .int .i64 281474976710000] 3)) w.heap.size 0 []) := irow_alloc (irow_new w [] (by simp)) _
 have HPA : Hid (p ≠ w.heap.size + 1) := by show _ ≠ _; have := HP.out; omega
 go_enter Tryz.func171, Tryz.ntmps171
 go_wp2_with fail
 refine (intOfList RA.out (w.heap.size + 1) 6 [0, 0, 0, 1000, 5000, 281474976710000] rfl (by have := ints_new (w.alloc (.cells #[] 3)) [0, 0, 0, 1000, 5000, 281474976710000]; rw [World.size_alloc] at this; exact this) (Ne.symm HPA.out) (by omega) (by omega)).mono ?_
 rintro e w1 ⟨b0, rfl, _, r1, b1⟩
 have R1 := hid (r1)
 have B1 := hid (BA.out.trans b1)
 have W1 : Hid (IRow w1 w.heap.size 0 []) := IRow.but WA.out b1 (by have := HP.out; omega)
 clear r1 b1 RA BA WA
 go_wp2_with fail
 refine (below R1.out (N + 1) (by omega) (by omega)).mono ?_
 rintro e w2 ⟨x, rfl, x0, x1, r2, b2⟩
 have R2 := hid (r2)
 have B2 := hid (B1.out.trans b2)
 have W2 : Hid (IRow w2 w.heap.size 0 []) := IRow.but W1.out b2 (by have := HP.out; omega)
 obtain ⟨X, rfl⟩ := Int.eq_ofNat_of_zero_le x0
 have hX : X ≤ N := by omega
 clear r2 b2 R1 B1 W1 x0 x1
 go_wp2
 go_loopw [5, 6, 7] (fun v5 v6 v7 wr => ∃ (k g c : Nat) (y : Int) (L : List Int), k ≤ X ∧ v7 = .int .i64 ((X : Int) - k) ∧ v6 = .int .i64 y ∧ v5 = .slice (some ⟨g, 0, none⟩) k c ∧ k = L.length ∧ w.heap.size ≤ g ∧ IRow wr g c L ∧ Ready W0 a len cap l p wr ∧ But p w wr)
  (fun _ _ v7 _ => (intOf v7).toNat)
 case atStart => exact ⟨0, w.heap.size, 0, b0, [], Nat.zero_le _, by simp, rfl, rfl, rfl, Nat.le_refl _, W2.out, R2.out, B2.out⟩
 case round =>
  obtain ⟨k, g, c, y, L, hk, rfl, rfl, rfl, hkl, hg, hrow, hrd, hbu⟩ := hrel
  have HRow := hid (hrow)
  have HRd := hid (hrd)
  have HBu := hid (hbu)
  have HKL : Hid (k = L.length) := hkl
  clear hrow hrd hbu hkl R2 B2 W2 HR
  by_cases hkX : (X : Int) - k > 0
  ·
   go_wp2_with fail
   refine (once HRd.out 6 (by omega) (by omega)).mono ?_
   rintro e w3 ⟨o, rfl, r3, b3⟩
   have R3 := hid (r3)
   have B3 := hid (HBu.out.trans b3)
   have W3 : Hid (IRow w3 g c L) := IRow.but HRow.out b3 (by have := HP.out; omega)
   clear r3 b3 HRd HBu HRow
   cases o with
   | true =>
    have RB : Hid (Ready W0 a len cap l p (w3.alloc (.cells #[.int .i64 1, .int .i64 32, .int .i64 900, .int .i64 1023, .int .i64 1024, .int .i64 1025, .int .i64 3000] 3))) := R3.out.alloc _
    have BB : Hid (But p w (w3.alloc (.cells #[.int .i64 1, .int .i64 32, .int .i64 900, .int .i64 1023, .int .i64 1024, .int .i64 1025, .int .i64 3000] 3))) := B3.out.alloc _
    have WB : Hid (IRow (w3.alloc (.cells #[.int .i64 1, .int .i64 32, .int .i64 900, .int .i64 1023, .int .i64 1024, .int .i64 1025, .int .i64 3000] 3)) g c L) := irow_alloc W3.out _
    have HP3 : Hid (w3.heap.size ≠ p) := by show _ ≠ _; have := R3.out.hc.lt; omega
    go_wp2_with fail
    refine (intOfList RB.out w3.heap.size 7 [1, 32, 900, 1023, 1024, 1025, 3000] rfl (ints_new w3 _) HP3.out (by omega) (by omega)).mono ?_
    rintro e w4 ⟨u, rfl, _, r4, b4⟩
    have R4 := hid (r4)
    have B4 := hid (BB.out.trans b4)
    have W4 : Hid (IRow w4 g c L) := IRow.but WB.out b4 (by have := HP.out; omega)
    clear r4 b4 R3 B3 W3 RB BB WB
    go_upto_region 8 with fail
    generalize wrap64 (y + u) = y2
    go_wp2_with fail
    refine (below R4.out 40 (by omega) (by omega)).mono ?_
    rintro e w5 ⟨s, rfl, s0, s1, r5, b5⟩
    have R5 := hid (r5)
    have B5 := hid (B4.out.trans b5)
    have W5 : Hid (IRow w5 g c L) := IRow.but W4.out b5 (by have := HP.out; omega)
    have RC : Hid (Ready W0 a len cap l p (w5.alloc (.cells #[.int .i64 0, .int .i64 0, .int .i64 20, .int .i64 1000] 3))) := R5.out.alloc _
    have BC : Hid (But p w (w5.alloc (.cells #[.int .i64 0, .int .i64 0, .int .i64 20, .int .i64 1000] 3))) := B5.out.alloc _
    have WC : Hid (IRow (w5.alloc (.cells #[.int .i64 0, .int .i64 0, .int .i64 20, .int .i64 1000] 3)) g c L) := irow_alloc W5.out _
    have HP5 : Hid (w5.heap.size ≠ p) := by show _ ≠ _; have := R5.out.hc.lt; omega
    clear r5 b5 R4 B4 W4 s0 s1
    go_wp2_with fail
    refine (intOfList RC.out w5.heap.size 4 [0, 0, 20, 1000] rfl (ints_new w5 _) HP5.out (by omega) (by omega)).mono ?_
    rintro e w6 ⟨q, rfl, _, r6, b6⟩
    have R6 := hid (r6)
    have B6 := hid (BC.out.trans b6)
    have W6 : Hid (IRow w6 g c L) := IRow.but WC.out b6 (by have := HP.out; omega)
    clear r6 b6 R5 B5 W5 RC BC WC
    obtain ⟨z, hz⟩ : ∃ z, wrap64 (wrap64 (y2 + s) - q) = z := ⟨_, rfl⟩
    go_wp2_with (at_builtin; refine iwpList_app _ rfl (.tmp 27) (.tmp 36) rfl w.heap.size g k c L [z] rfl HKL.out (irow_alloc W6.out _) hg (some ⟨w6.heap.size, 0, none⟩) 1 1 rfl rfl (Blk.ird_one w6 _) (by intro e; cases e) (by rw [← HKL.out, List.length_singleton]; omega) ?_; intro g3 c3 w7 r7 k7 l7 gr7; have W7 := hid (r7); have G7 : Hid (w.heap.size ≤ g3) := k7; have B7 : Hid (But p w w7) := but_grown (B6.out.alloc _) gr7 hg; have R7 : Hid (Ready W0 a len cap l p w7) := ready_kept (R6.out.alloc (.cells #[.int .i64 z] 3)) (Kept.of_grown gr7) (by have := HP.out; omega); clear r7 k7 l7 gr7)
    have hwk : wrap64 ((X : Int) - k - 1) = (X : Int) - (k + 1 : Nat) := by unfold wrap64; omega
    clear hz
    go_wp2
    go_roundw
    case rel => exact ⟨k + 1, g3, c3, y2, L ++ [z], by omega, by first | rfl | (rw [hwk]) | (congr 1; omega), rfl, rfl, by rw [List.length_append, ← HKL.out]; rfl, G7.out, W7.out, R7.out, B7.out⟩
    case measure => simp [intOf]; omega
   | false =>
    obtain ⟨w4, hw4⟩ : ∃ w4, w3 = w4 := ⟨_, rfl⟩
    have R4 : Hid (Ready W0 a len cap l p w4) := by rw [← hw4]; exact R3.out
    have B4 : Hid (But p w w4) := by rw [← hw4]; exact B3.out
    have W4 : Hid (IRow w4 g c L) := by rw [← hw4]; exact W3.out
    go_upto_region 8 with fail
    try rw [hw4]
    clear hw4 R3 B3 W3
    obtain ⟨y2, hy2⟩ : ∃ y2, y = y2 := ⟨_, rfl⟩
    rw [hy2]
    clear hy2
    go_wp2_with fail
    refine (below R4.out 40 (by omega) (by omega)).mono ?_
    rintro e w5 ⟨s, rfl, s0, s1, r5, b5⟩
    have R5 := hid (r5)
    have B5 := hid (B4.out.trans b5)
    have W5 : Hid (IRow w5 g c L) := IRow.but W4.out b5 (by have := HP.out; omega)
    have RC : Hid (Ready W0 a len cap l p (w5.alloc (.cells #[.int .i64 0, .int .i64 0, .int .i64 20, .int .i64 1000] 3))) := R5.out.alloc _
    have BC : Hid (But p w (w5.alloc (.cells #[.int .i64 0, .int .i64 0, .int .i64 20, .int .i64 1000] 3))) := B5.out.alloc _
    have WC : Hid (IRow (w5.alloc (.cells #[.int .i64 0, .int .i64 0, .int .i64 20, .int .i64 1000] 3)) g c L) := irow_alloc W5.out _
    have HP5 : Hid (w5.heap.size ≠ p) := by show _ ≠ _; have := R5.out.hc.lt; omega
    clear r5 b5 R4 B4 W4 s0 s1
    go_wp2_with fail
    refine (intOfList RC.out w5.heap.size 4 [0, 0, 20, 1000] rfl (ints_new w5 _) HP5.out (by omega) (by omega)).mono ?_
    rintro e w6 ⟨q, rfl, _, r6, b6⟩
    have R6 := hid (r6)
    have B6 := hid (BC.out.trans b6)
    have W6 : Hid (IRow w6 g c L) := IRow.but WC.out b6 (by have := HP.out; omega)
    clear r6 b6 R5 B5 W5 RC BC WC
    obtain ⟨z, hz⟩ : ∃ z, wrap64 (wrap64 (y2 + s) - q) = z := ⟨_, rfl⟩
    go_wp2_with (at_builtin; refine iwpList_app _ rfl (.tmp 27) (.tmp 36) rfl w.heap.size g k c L [z] rfl HKL.out (irow_alloc W6.out _) hg (some ⟨w6.heap.size, 0, none⟩) 1 1 rfl rfl (Blk.ird_one w6 _) (by intro e; cases e) (by rw [← HKL.out, List.length_singleton]; omega) ?_; intro g3 c3 w7 r7 k7 l7 gr7; have W7 := hid (r7); have G7 : Hid (w.heap.size ≤ g3) := k7; have B7 : Hid (But p w w7) := but_grown (B6.out.alloc _) gr7 hg; have R7 : Hid (Ready W0 a len cap l p w7) := ready_kept (R6.out.alloc (.cells #[.int .i64 z] 3)) (Kept.of_grown gr7) (by have := HP.out; omega); clear r7 k7 l7 gr7)
    have hwk : wrap64 ((X : Int) - k - 1) = (X : Int) - (k + 1 : Nat) := by unfold wrap64; omega
    clear hz
    go_wp2
    go_roundw
    case rel => exact ⟨k + 1, g3, c3, y2, L ++ [z], by omega, by first | rfl | (rw [hwk]) | (congr 1; omega), rfl, rfl, by rw [List.length_append, ← HKL.out]; rfl, G7.out, W7.out, R7.out, B7.out⟩
    case measure => simp [intOf]; omega
  ·
   obtain rfl : k = X := by omega
   have hmk : k ≤ N := by omega
   go_wp2_with fail
   refine (once HRd.out 5 (by omega) (by omega)).mono ?_
   rintro e w3 ⟨o, rfl, r3, b3⟩
   have R3 := hid (r3)
   have B3 := hid (HBu.out.trans b3)
   have W3 : Hid (IRow w3 g c L) := IRow.but HRow.out b3 (by have := HP.out; omega)
   clear r3 b3 HRd HBu HRow
   cases o with
   | true =>
    have RB : Hid (Ready W0 a len cap l p (w3.alloc (.cells #[.int .i64 (-1), .int .i64 281474976710655, .int .i64 281474976710656] 3))) := R3.out.alloc _
    have BB : Hid (But p w (w3.alloc (.cells #[.int .i64 (-1), .int .i64 281474976710655, .int .i64 281474976710656] 3))) := B3.out.alloc _
    have WB : Hid (IRow (w3.alloc (.cells #[.int .i64 (-1), .int .i64 281474976710655, .int .i64 281474976710656] 3)) g c L) := irow_alloc W3.out _
    have HP3 : Hid (w3.heap.size ≠ p) := by show _ ≠ _; have := R3.out.hc.lt; omega
    go_wp2_with fail
    refine (intOfList RB.out w3.heap.size 3 [-1, 281474976710655, 281474976710656] rfl (ints_new w3 _) HP3.out (by omega) (by omega)).mono ?_
    rintro e w4 ⟨u, rfl, _, r4, b4⟩
    have R4 := hid (r4)
    have B4 := hid (BB.out.trans b4)
    have W4 : Hid (IRow w4 g c L) := IRow.but WB.out b4 (by have := HP.out; omega)
    clear r4 b4 R3 B3 W3 RB BB WB
    go_wp2_with (at_builtin; refine iwpList_app _ rfl (.tmp 40) (.tmp 44) rfl w.heap.size g k c L [u] rfl HKL.out (irow_alloc W4.out _) hg (some ⟨w4.heap.size, 0, none⟩) 1 1 rfl rfl (Blk.ird_one w4 _) (by intro e; cases e) (by rw [← HKL.out, List.length_singleton]; omega) ?_; intro g3 c3 w5 r5 k5 l5 gr5; have W5 := hid (r5); have G5 : Hid (w.heap.size ≤ g3) := k5; have B5 : Hid (But p w w5) := but_grown (B4.out.alloc _) gr5 hg; have R5 : Hid (Ready W0 a len cap l p w5) := ready_kept (R4.out.alloc (.cells #[.int .i64 u] 3)) (Kept.of_grown gr5) (by have := HP.out; omega); clear r5 k5 l5 gr5)
    go_wp2
    go_ret
    exact ⟨g3, k + 1, c3, L ++ [u], rfl, by rw [List.length_append, ← HKL.out]; rfl, by omega, G5.out, W5.out, R5.out, B5.out⟩
   | false =>
    go_wp2
    go_ret
    exact ⟨g, k, c, L, rfl, HKL.out, by omega, hg, W3.out, R3.out, B3.out⟩

end Go.Proofs.YtmcflfpckpjphaaGreatDoor.WnDr

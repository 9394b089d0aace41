/-
  What spec's Schedule answers at every slice of bytes of at most 4,194,304: the words of impl's, in new memory.
  What impl's compress does to eight words behind a pointer, for every block of 64 bytes, where the table of round words holds what the program's text lays into it.
  What spec's Compress answers at every slice of ints and every slice of bytes of at most 4,194,304 each: the eight words behind the block, or the ints as they came, in new memory.
  What impl's Compress answers at every slice of ints and every slice of bytes of at most 4,194,304 each, where the table of round words holds what the program's text lays into it: what spec's answers, in new memory.
  What impl's newSum and impl's and spec's Start answer: the eight words that a sum begins with, in new memory.
-/
import Derived.Test.YtpenhliaelhnoaaGreatDoorVaGz3
import Derived.Deep.RegionLaw
set_option linter.unusedVariables false
set_option maxRecDepth 100000
namespace Go.Proofs.YtpenhliaelhnoaaGreatDoor.SchedS
open Go.RowKit Mem MemI Blk App Get ShaP Word Bits Sched Sched2

theorem istep_app {ops : Array Oper} {o : Oper} {a : Act} {w : World} {K : Act → World → Prop} {Q : Exit → Act → World → Prop} {E : Prop}
  (hgd : o.guard = none) (s x : Operand) (hop : o.op = .call { callee := .builtin .append, args := #[s, x], argTypes := #[51, 51] })
  (base g n cap : Nat) (l y : List Int) (hs : a.eval s = .slice (some ⟨g, 0, none⟩) n cap) (hn : n = l.length) (hrow : IRow w g cap l) (hbg : base ≤ g)
  (ad : Addr) (m c : Nat) (hx : a.eval x = .slice (some ad) m c) (hm : m = y.length) (hrd : IRd w (some ad) y) (hsum : l.length + y.length ≤ 100000000)
  (hK : ∀ g' cap' w', IRow w' g' cap' (l ++ y) → base ≤ g' → g' < w'.heap.size → w.grownBy w' (some g) → K (a.put o.dst (.slice (some ⟨g', 0, none⟩) (n + m) cap')) w') :
  if Region.wanted o (yielded ops a.tmps) = true then Oper.wp Tryz.prog o a w K Q else E := by
 have hw : Region.wanted o (yielded ops a.tmps) = true := by simp [Region.wanted, hgd]
 rw [if_pos hw]
 obtain ⟨i0, hi, hz0, hz1, hz2⟩ := info_parts info64
 subst hn hm
 have hlt := hrow.lt
 refine wp_append_own w s x 51 hop base 3 i0 (.int .i64 0) 1 8 Tryz.underlying51 hi hz0 hz1 hz2 rfl (by decide) _ _ _ hs (hrow.owns hbg) ad y.length c (y.map (Value.int .i64)) hx (by simp) (IRd.cells hrd) (ints_oneCell _ _) (by unfold maxLen; omega) (by omega) (by omega) ?_
 intro v' w' hown hgr hiff
 rcases hown.2 with ⟨hv, _⟩ | ⟨g', cap', cur, rfl, hb, hg', _⟩
 ·
  exact absurd (hiff.1 hv).1 (by simp)
 ·
  rw [← List.map_append] at hown
  obtain ⟨r1, r2, _, r4⟩ := IRow.of hown
  exact hK g' cap' w' r1 r2 r4 hgr

theorem ird_heap {w w' : World} {a : Option Addr} {l : List Int} (h : IRd w a l) (e : w'.heap = w.heap) : IRd w' a l := by
 intro i hi
 obtain ⟨b, off, rfl, h1, h2⟩ := h i hi
 exact ⟨b, off, rfl, by rw [e]; exact h1, by rw [World.cell?_of_block (w := w) (by rw [e])]; exact h2⟩

set_option maxHeartbeats 1600000 in
theorem specSchedule (a : Option Addr) (n cap : Nat) (b : List Int) (w : World) (hl : n = b.length) (hr : Rd w a b) (hb : Bytes b) (hn : n ≤ 4194304) :
  Calls Tryz.prog 109 #[.slice a n cap] w fun e w' =>
   ∃ g m c, e = .returned (.slice (some ⟨g, 0, none⟩) m c) ∧ m = (schedI b).length ∧ w.heap.size ≤ g ∧ IRow w' g c (schedI b) ∧ Below w.heap.size w w' := by
 have HA1 : Hid (Below w.heap.size w (w.alloc (.cells #[] 3))) := (Below.refl _ _).alloc (Nat.le_refl _) _
 have HN1 : Hid (IRow (w.alloc (.cells #[] 3)) w.heap.size 0 []) := irow_new w [] (by simp)
 by_cases h64 : n = 64
 ·
  subst h64
  have HS : Hid (schedI b = more (first b 16) 48) := by show _ = _; unfold schedI; rw [if_pos hl.symm]; rfl
  have HR := hid (hr)
  have HB := hid (hb)
  have HL : Hid (b.length = 64) := hl.symm
  clear hr hb hl
  go_enter Tryz.func109, Tryz.ntmps109
  go_wp2
  go_loopw [3, 4] (fun v i wr => ∃ k g c : Nat, k ≤ 16 ∧ i = .int .i64 k ∧ v = .slice (some ⟨g, 0, none⟩) k c ∧ w.heap.size ≤ g ∧ IRow wr g c (first b k) ∧ Below w.heap.size w wr)
   (fun _ i _ => 16 - (intOf i).toNat)
  case atStart => exact ⟨0, w.heap.size, 0, Nat.zero_le _, rfl, rfl, Nat.le_refl _, HN1.out, HA1.out⟩
  case round =>
   obtain ⟨k, g, c, hk, rfl, rfl, hg, hrow, hbe⟩ := hrel
   clear HN1 HA1
   have HRow := hid (hrow)
   have HBe := hid (hbe)
   clear hrow hbe
   by_cases hlt : k < 16
   ·
    have hG : gotN b (4 * (k : Int)) 4 = .tuple #[.int .i64 (val (piece b (4 * k) 4)), .int .i64 (4 * (k : Int) + 4), .bool true] := by
     unfold gotN
     rw [if_pos ⟨(isSize_iff 4).2 (by omega), there_yes (by rw [HL.out]; omega)⟩]
     rw [show (4 * (k : Int)).toNat = 4 * k by omega]; rfl
    have HF : Hid (first b (k + 1) = first b k ++ [val (piece b (4 * k) 4)]) := first_succ b k
    have HK : Hid (k = (first b k).length) := (first_length b k).symm
    generalize val (piece b (4 * k) 4) = v1 at *
    go_wp2_with fail
    refine (specGetN a 64 cap b (4 * (k : Int)) 4 wr HL.out.symm (HR.out.later HBe.out (Nat.le_refl _)) HB.out (by omega)).mono ?_
    rintro e w1 ⟨rfl, rfl⟩
    go_wp2_with (at_builtin; refine iwpList_app _ rfl (.tmp 30) (.tmp 32) rfl w.heap.size g k c (first b k) [v1] rfl HK.out (irow_alloc HRow.out _) hg (some ⟨wr.heap.size, 0, none⟩) 1 1 rfl rfl (ird_one _ _) (by intro h; cases h) (by rw [← HK.out]; simp; omega) ?_; intro g2 c2 w2 r2 b2 l2 gr2; have R2 := hid (r2); have B2 : Hid (Below w.heap.size w w2) := (HBe.out.alloc HBe.out.size _).grown gr2 (Nat.le_trans HBe.out.size (by simp)) (fun k h => by cases h; exact hg); clear r2 gr2 l2)
    go_roundw
    case rel => exact ⟨k + 1, g2, c2, by omega, by go_num, rfl, b2, by rw [HF.out]; exact R2.out, B2.out⟩
    case measure => simp [intOf]; omega
   ·
    obtain rfl : k = 16 := by omega
    go_wp2
    go_loopw [3, 8] (fun v i wr => ∃ n g c : Nat, n ≤ 48 ∧ i = .int .i64 ((n : Int) + 16) ∧ v = .slice (some ⟨g, 0, none⟩) (n + 16) c ∧ w.heap.size ≤ g ∧ IRow wr g c (more (first b 16) n) ∧ Below w.heap.size w wr)
     (fun _ i _ => 64 - (intOf i).toNat)
    case atStart => exact ⟨0, g, c, Nat.zero_le _, rfl, rfl, hg, HRow.out, HBe.out⟩
    case round =>
     obtain ⟨n, g, c, hn, rfl, rfl, hg, hrow, hbe⟩ := hrel
     clear HRow HBe
     have HRow := hid (hrow)
     have HBe := hid (hbe)
     have HK : Hid (n + 16 = (more (first b 16) n).length) := by show _ = _; rw [more_length, first_length]; omega
     clear hrow hbe
     by_cases hlt : n < 48
     ·
      have c1 := HRow.out.cell (n + 1) (by rw [← HK.out]; omega)
      have c2 := HRow.out.cell (n + 14) (by rw [← HK.out]; omega)
      have c3 := HRow.out.cell (n + 9) (by rw [← HK.out]; omega)
      have c4 := HRow.out.cell n (by rw [← HK.out]; omega)
      have hws : Wds (more (first b 16) n) := more_wds _ _ (first_wds b 16 HB.out)
      have w1 := hws.at (n + 1)
      have w2 := hws.at (n + 14)
      have w3 := hws.at (n + 9)
      have w4 := hws.at n
      obtain ⟨z, hz⟩ : ∃ z, nextW (more (first b 16) n) (16 + n) = z := ⟨_, rfl⟩
      have HN : Hid (((more (first b 16) n).getD (n + 9) 0 + (more (first b 16) n).getD n 0 + s0 ((more (first b 16) n).getD (n + 1) 0) + s1 ((more (first b 16) n).getD (n + 14) 0)) % 4294967296 = z) := by
       show _ = _
       rw [← hz]; unfold nextW
       rw [show 16 + n - 7 = n + 9 by omega, show 16 + n - 16 = n by omega, show 16 + n - 15 = n + 1 by omega, show 16 + n - 2 = n + 14 by omega]
      have HF : Hid (more (first b 16) (n + 1) = more (first b 16) n ++ [z]) := by rw [← hz]; exact (rfl : more (first b 16) (n + 1) = _)
      clear hz hws
      obtain ⟨L, hL⟩ : ∃ L, more (first b 16) n = L := ⟨_, rfl⟩
      rw [hL] at HRow HK HF HN c1 c2 c3 c4 w1 w2 w3 w4
      clear hL
      generalize L.getD (n + 1) 0 = x1 at *
      generalize L.getD (n + 14) 0 = x2 at *
      generalize L.getD (n + 9) 0 = x3 at *
      generalize L.getD n 0 = x4 at *
      obtain ⟨w1a, w1b⟩ := w1
      obtain ⟨w2a, w2b⟩ := w2
      obtain ⟨w3a, w3b⟩ := w3
      obtain ⟨w4a, w4b⟩ := w4
      have hs0 : Wd (bits .xor .i64 (bits .xor .i64 (rot x1 7) (rot x1 18)) (x1 / 8)) := wd_s0 (x := x1) ⟨w1a, w1b⟩
      have hs1 : Wd (bits .xor .i64 (bits .xor .i64 (rot x2 17) (rot x2 19)) (x2 / 1024)) := wd_s1 (x := x2) ⟨w2a, w2b⟩
      have HN : Hid ((x3 + x4 + bits .xor .i64 (bits .xor .i64 (rot x1 7) (rot x1 18)) (x1 / 8) + bits .xor .i64 (bits .xor .i64 (rot x2 17) (rot x2 19)) (x2 / 1024)) % 4294967296 = z) := HN.out
      have i1 : (0 : Int) ≤ (n : Int) + 16 - 15 := by omega
      have i2 : (n : Int) + 16 - 15 < ((n + 16 : Nat) : Int) := by omega
      have i3 : (0 : Int) ≤ (n : Int) + 16 - 2 := by omega
      have i4 : (n : Int) + 16 - 2 < ((n + 16 : Nat) : Int) := by omega
      go_wp2_with fail
      refine (specRot _ _ _).mono ?_
      rintro e _ ⟨rfl, q1, rfl⟩
      go_wp2_with fail
      refine (specRotD _ _ _ _).mono ?_
      rintro e _ ⟨rfl, q2, rfl⟩
      go_wp2_with fail
      refine (specRotD _ _ _ _).mono ?_
      rintro e _ ⟨rfl, q3, rfl⟩
      go_wp2_with fail
      refine (specRotD _ _ _ _).mono ?_
      rintro e _ ⟨rfl, q4, rfl⟩
      go_wp2_with fail
      generalize bits .xor .i64 (bits .xor .i64 (rot x1 7) (rot x1 18)) (x1 / 8) = f0 at *
      generalize bits .xor .i64 (bits .xor .i64 (rot x2 17) (rot x2 19)) (x2 / 1024) = f1 at *
      obtain ⟨f0a, f0b⟩ := hs0
      obtain ⟨f1a, f1b⟩ := hs1
      obtain ⟨p, hp⟩ : ∃ p : Nat, n + 9 = p := ⟨_, rfl⟩
      rw [hp] at c3
      have hp64 : (p : Int) < (n : Int) + 16 := by omega
      have hn64 : (n : Int) < (n : Int) + 16 := by omega
      have j1 : IntKind.i64.wrap ((n : Int) + 16 - 7) = (p : Int) := by rw [IntKind.wrap_i64]; omega
      have j2 : IntKind.i64.wrap (n : Int) = (n : Int) := by rw [IntKind.wrap_i64]; omega
      have j3 : IntKind.i64.wrap (x3 + x4) = x3 + x4 := by rw [IntKind.wrap_i64]; omega
      have j4 : IntKind.i64.wrap (x3 + x4 + f0) = x3 + x4 + f0 := by rw [IntKind.wrap_i64]; omega
      have j5 : IntKind.i64.wrap (x3 + x4 + f0 + f1) = x3 + x4 + f0 + f1 := by rw [IntKind.wrap_i64]; omega
      have j6 : bits .and .i64 (x3 + x4 + f0 + f1) 4294967295 = z := by rw [mask32]; exact HN.out
      clear hp
      go_region_law (refine istep_app rfl (.tmp 64) (.tmp 81) rfl w.heap.size g (n + 16) c L [z] (by simp [Act.eval]) HK.out (by exact (irow_alloc HRow.out (.cells #[.int .i64 z] 3)).keep rfl) hg ⟨wr.heap.size, 0, none⟩ 1 1 (by simp [Act.eval]) rfl (by exact ird_heap (ird_one wr _) rfl) (by rw [← HK.out]; simp; omega) ?_; intro g2 c2 w2 r2 b2 l2 gr2; have R2 := hid (r2); have B2 : Hid (Below w.heap.size w w2) := Below.grown (below_drewN ((HBe.out.alloc HBe.out.size (.cells #[.int .i64 z] 3))) (q4 + 1)) gr2 (Nat.le_trans HBe.out.size (by simp)) (fun k h => by cases h; exact hg); clear r2 gr2 l2)
      all_goals
       go_wp2
       refine ⟨?_, ?measure⟩
       (repeat apply Exists.intro)
       refine ⟨?rel, rfl⟩
       case rel => exact ⟨n + 1, g2, c2, by omega, by go_num, by rw [show n + 1 + 16 = n + 16 + 1 by omega], b2, by rw [HF.out]; exact R2.out, B2.out⟩
       case measure => simp [intOf]; omega
     ·
      obtain rfl : n = 48 := by omega
      have HM : Hid ((more (first b 16) 48).length = 64) := by show _ = _; rw [more_length, first_length]
      go_wp2
      go_ret
      exact ⟨g, 64, c, rfl, by rw [HS.out, HM.out], hg, by rw [HS.out]; exact HRow.out, HBe.out⟩
 ·
  have HS : Hid (schedI b = []) := by show _ = _; unfold schedI; rw [if_neg (by omega)]
  have hne : ((n : Int) != 64) = true := by simp; omega
  clear h64 hl hr hb
  go_enter Tryz.func109, Tryz.ntmps109
  go_wp2
  go_ret
  exact ⟨w.heap.size, 0, 0, by simp, by rw [HS.out]; rfl, Nat.le_refl _, by rw [HS.out]; exact HN1.out, HA1.out⟩
end Go.Proofs.YtpenhliaelhnoaaGreatDoor.SchedS

namespace Go.Proofs.YtpenhliaelhnoaaGreatDoor.Comp
open Go.RowKit Mem MemI Blk App Get ShaP Word Bits Sched

def Tab (w : World) : Prop := 0 < w.heap.size ∧ ∀ i, i < 64 → w.cell? ⟨0, i, none⟩ = some (.int .i64 (kk.getD i 0))
theorem Tab.below {w w' : World} (h : Tab w) {B : Nat} (hB : 0 < B) (b : Below B w w') : Tab w' :=
 ⟨Nat.lt_of_lt_of_le h.1 b.size, fun i hi => by rw [b.cell hB]; exact h.2 i hi⟩
theorem Tab.later {w w' : World} (h : Tab w) (b : Below w.heap.size w w') : Tab w' := h.below (show 0 < w.heap.size from h.1) b
theorem Tab.grown {w w' : World} (h : Tab w) {g : Nat} (hg : 0 < g) (b : w.grownBy w' (some g)) : Tab w' :=
 ⟨Nat.lt_of_lt_of_le h.1 b.size, fun i hi => by rw [World.cell?_of_block (w := w) (b.block 0 h.1 (by simp only [ne_eq, Option.some.injEq]; omega))]; exact h.2 i hi⟩

theorem t_impl (k w : Int) (s : St) (h : s.ok) :
  s.h + bits .xor .i64 (bits .xor .i64 (rot s.e 6) (rot s.e 11)) (rot s.e 25) + bits .xor .i64 (bits .and .i64 s.e s.f) (bits .andNot .i64 s.g s.e) + k + w = tOf k w s := by
 rw [andNot_word s.g s.e h.2.2.2.2.2.2.1 h.2.2.2.2.1]; rfl

theorem add8 (h l : List Int) (k : Nat) (hk : k < 8) (hh : h.length = 8) :
  (((List.range k).map (plus h l) ++ h.drop k).set k ((h.getD k 0 + l.getD k 0) % 4294967296)) = (List.range (k + 1)).map (plus h l) ++ h.drop (k + 1) := by
 rw [List.set_append, if_neg (by simp), List.length_map, List.length_range, Nat.sub_self, List.drop_eq_getElem_cons (by omega), List.set_cons_zero, List.range_succ, List.map_append]
 simp [plus]
theorem part8 (h l : List Int) (k : Nat) : ((List.range k).map (plus h l) ++ h.drop k).getD k 0 = h.getD k 0 := by
 simp [List.getD, List.getElem?_append]

theorem index8 (k : Nat) (hk : k < 8) (A B C D E F G H : Int) (w : World) :
  (Instr.index 110 (.agg #[.int .i64 A, .int .i64 B, .int .i64 C, .int .i64 D, .int .i64 E, .int .i64 F, .int .i64 G, .int .i64 H]) (.int .i64 (k : Int))).run Tryz.prog w = .ok (.int .i64 ((St.mk A B C D E F G H).list.getD k 0)) w := by
 rcases (show k = 0 ∨ k = 1 ∨ k = 2 ∨ k = 3 ∨ k = 4 ∨ k = 5 ∨ k = 6 ∨ k = 7 by omega) with rfl | rfl | rfl | rfl | rfl | rfl | rfl | rfl <;> kernel_rfl

set_option maxHeartbeats 2000000 in
theorem compress (g : Nat) (t : TypeId) (h : List Int) (r : List Value) (a : Option Addr) (cap : Nat) (b : List Int) (w : World)
  (hB : Blk w g t (h.map (Value.int .i64) ++ r)) (hrl : r.length ≤ 10) (hh : h.length = 8) (hw : Wds h) (hT : Tab w) (hl : b.length = 64) (hr : Rd w a b) (hb : Bytes b) (hc : 64 ≤ cap) :
  Calls Tryz.prog 105 #[.pointer (some ⟨g, 0, none⟩), .slice a 64 cap] w fun e w' =>
   e = .returned (.tuple #[]) ∧ Blk w' g t ((comp h b).map (Value.int .i64) ++ r) ∧ w.grownBy w' (some g) := by
 have HB := hid (hB)
 have HR := hid (hr)
 have HBb := hid (hb)
 have HL : Hid (b.length = 64) := hl
 have HT := hid (hT)
 have HH : Hid (h.length = 8) := hh
 have HW : Hid (Wds h) := hw
 obtain ⟨zv, zs⟩ := zero_of_info info65
 obtain ⟨cs, hcs⟩ : ∃ cs, cs = ((sched b).map (Value.int .i64)).toArray := ⟨_, rfl⟩
 have HCS : Hid (((sched b).map (Value.int .i64)).toArray = cs) := hcs.symm
 have hsz : cs.size = 64 := by rw [hcs]; simp [sched_length]
 have HZS : Hid ((Tryz.prog.info? 118).map (·.size) = some cs.size) := by rw [hsz]; exact zs
 have HON : Hid (cs.all (·.oneCell') = true) := by show _ = _; rw [hcs]; simp [Value.oneCell']
 have HZE : Hid ((z64.map (Value.int .i64)).toArray.size = cs.size) := by show _ = _; rw [hsz]; simp
 obtain ⟨W, hWs⟩ : ∃ W, W = sched b := ⟨_, rfl⟩
 have HWs : Hid (W = sched b) := hWs
 have HWw : Hid (Wds W) := by rw [hWs]; exact sched_wds b hb
 have HWl : Hid (W.length = 64) := by rw [hWs]; exact sched_length b
 have HCW : Hid (cs = (W.map (Value.int .i64)).toArray) := by rw [hWs]; exact hcs
 clear hB hr hb hl hT hh hw hcs hsz zs hWs
 go_enter Tryz.func105, Tryz.ntmps105
 go_wp2_with fail
 refine (implSchedule64 a cap b w HL.out HR.out HBb.out hc).mono ?_
 rintro e w1 ⟨rfl, b1⟩
 rw [HCS.out]
 have HA : Hid (Blk (w1.alloc (.cells (z64.map (Value.int .i64)).toArray 118)) w1.heap.size 118 (z64.map (Value.int .i64))) := Blk.new _ _ _
 obtain ⟨w2, hw2⟩ : ∃ w2, w2 = w1.alloc (.cells cs 118) := ⟨_, rfl⟩
 obtain ⟨p, hp⟩ : ∃ p, p = w1.heap.size := ⟨_, rfl⟩
 have HB2 : Hid (Below w.heap.size w w2) := by rw [hw2]; exact b1.alloc b1.size _
 have HC2 : Hid (Blk w2 p 118 (W.map (Value.int .i64) ++ [])) := by
  show Blk _ _ _ _
  rw [hw2, HCW.out, hp, List.append_nil]; exact Blk.new _ _ _
 have HX2 := hid (HB.out.later HB2.out)
 have HT2 := hid (HT.out.later HB2.out)
 have HP : Hid (w1.heap.size = p) := hp.symm
 have HW2 := hid (hw2.symm)
 clear b1 hp hw2
 go_wp2_with (first | (refine wpList_store_row rfl 118 _ _ rfl w1.heap.size cs rfl rfl 118 (z64.map (Value.int .i64)).toArray HA.out HZS.out HZE.out HON.out ?_; rw [World.setRow_alloc_new, HP.out, HW2.out]))
 clear HA zv
 have HCI : Hid (∀ k, k < 8 → w2.cell? ⟨g, k, none⟩ = some (.int .i64 (h.getD k 0))) := fun k hk => HX2.out.int k (by rw [HH.out]; exact hk)
 have c0 := HCI.out 0 (by omega)
 have c1 := HCI.out 1 (by omega)
 have c2 := HCI.out 2 (by omega)
 have c3 := HCI.out 3 (by omega)
 have c4 := HCI.out 4 (by omega)
 have c5 := HCI.out 5 (by omega)
 have c6 := HCI.out 6 (by omega)
 have c7 := HCI.out 7 (by omega)
 obtain ⟨s, hs⟩ : ∃ s, s = stOf h := ⟨_, rfl⟩
 have HS : Hid (s = stOf h) := hs
 have HSok : Hid s.ok := by rw [hs]; exact stOf_ok HW.out
 have e0 : h.getD 0 0 = s.a := by rw [hs]; rfl
 have e1 : h.getD 1 0 = s.b := by rw [hs]; rfl
 have e2 : h.getD 2 0 = s.c := by rw [hs]; rfl
 have e3 : h.getD 3 0 = s.d := by rw [hs]; rfl
 have e4 : h.getD 4 0 = s.e := by rw [hs]; rfl
 have e5 : h.getD 5 0 = s.f := by rw [hs]; rfl
 have e6 : h.getD 6 0 = s.g := by rw [hs]; rfl
 have e7 : h.getD 7 0 = s.h := by rw [hs]; rfl
 rw [e0] at c0
 rw [e1] at c1
 rw [e2] at c2
 rw [e3] at c3
 rw [e4] at c4
 rw [e5] at c5
 rw [e6] at c6
 rw [e7] at c7
 clear e0 e1 e2 e3 e4 e5 e6 e7 hs
 go_quiet (fail)
 clear c0 c1 c2 c3 c4 c5 c6 c7
 go_wp2
 go_loopw [5, 6, 7, 8, 9, 10, 11, 12, 52] (fun va vb vc vd ve vf vg vh i wr => ∃ k m : Nat, k ≤ 64 ∧ i = .int .i64 k ∧ va = .int .i64 (rounds W s k).a ∧ vb = .int .i64 (rounds W s k).b ∧ vc = .int .i64 (rounds W s k).c ∧ vd = .int .i64 (rounds W s k).d ∧ ve = .int .i64 (rounds W s k).e ∧ vf = .int .i64 (rounds W s k).f ∧ vg = .int .i64 (rounds W s k).g ∧ vh = .int .i64 (rounds W s k).h ∧ wr = w2.drewN m)
  (fun _ _ _ _ _ _ _ _ i _ => 64 - (intOf i).toNat)
 case atStart => exact ⟨0, _, Nat.zero_le _, rfl, rfl, rfl, rfl, rfl, rfl, rfl, rfl, rfl, rfl⟩
 case round =>
  obtain ⟨k, m, hk, rfl, rfl, rfl, rfl, rfl, rfl, rfl, rfl, rfl, rfl⟩ := hrel
  by_cases hlt : k < 64
  ·
   have ck := HT2.out.2 k hlt
   have cw := HC2.out.int k (by rw [HWl.out]; exact hlt)
   have hkw := kk_wds.at k
   have hww := HWw.out.at k
   have hok := rounds_ok W s k HSok.out
   have HN : Hid (rounds W s (k + 1) = rnd (kk.getD k 0) (W.getD k 0) (rounds W s k)) := (rfl : rounds W s (k + 1) = _)
   generalize kk.getD k 0 = x1 at *
   generalize W.getD k 0 = x2 at *
   generalize rounds W s k = S at *
   obtain ⟨A, B, C, D, E, F, G, H⟩ := S
   have ht := t_impl x1 x2 ⟨A, B, C, D, E, F, G, H⟩ hok
   obtain ⟨⟨a1, a2⟩, ⟨b1, b2⟩, ⟨c1, c2⟩, ⟨d1, d2⟩, ⟨e1, e2⟩, ⟨f1, f2⟩, ⟨g1, g2⟩, ⟨h1, h2⟩⟩ := hok
   obtain ⟨x1a, x1b⟩ := hkw
   obtain ⟨x2a, x2b⟩ := hww
   dsimp only at ht a1 a2 b1 b2 c1 c2 d1 d2 e1 e2 f1 f2 g1 g2 h1 h2 ⊢
   have q1 : Wd (bits .xor .i64 (bits .xor .i64 (rot E 6) (rot E 11)) (rot E 25)) := wd_big1 E
   have q2 : Wd (bits .xor .i64 (bits .and .i64 E F) (bits .andNot .i64 G E)) := by
    rw [andNot_word G E ⟨g1, g2⟩ ⟨e1, e2⟩]; exact wd_cho ⟨e1, e2⟩ ⟨f1, f2⟩ ⟨g1, g2⟩
   have q3 : Wd (bits .xor .i64 (bits .xor .i64 (rot A 2) (rot A 13)) (rot A 22)) := wd_big0 A
   have q4 : Wd (bits .xor .i64 (bits .xor .i64 (bits .and .i64 A B) (bits .and .i64 A C)) (bits .and .i64 B C)) := wd_maj ⟨a1, a2⟩ ⟨b1, b2⟩ ⟨c1, c2⟩
   have HU : Hid (uOf ⟨A, B, C, D, E, F, G, H⟩ = bits .xor .i64 (bits .xor .i64 (rot A 2) (rot A 13)) (rot A 22) + bits .xor .i64 (bits .xor .i64 (bits .and .i64 A B) (bits .and .i64 A C)) (bits .and .i64 B C)) := (rfl : uOf ⟨A, B, C, D, E, F, G, H⟩ = _)
   obtain ⟨⟨q1a, q1b⟩, ⟨q2a, q2b⟩, ⟨q3a, q3b⟩, ⟨q4a, q4b⟩⟩ := And.intro q1 (And.intro q2 (And.intro q3 q4))
   have HTt : Hid (tOf x1 x2 ⟨A, B, C, D, E, F, G, H⟩ = H + bits .xor .i64 (bits .xor .i64 (rot E 6) (rot E 11)) (rot E 25) + bits .xor .i64 (bits .and .i64 E F) (bits .andNot .i64 G E) + x1 + x2) := ht.symm
   clear ht q1 q2 q3 q4
   obtain ⟨wq, hwq⟩ : ∃ wq, w2.drewN m = wq := ⟨_, rfl⟩
   have ck : wq.cell? ⟨0, k, none⟩ = some (.int .i64 x1) := by rw [← hwq]; exact ck
   have cw : wq.cell? ⟨p, k, none⟩ = some (.int .i64 x2) := by rw [← hwq]; exact cw
   rw [hwq]
   have HWQ : Hid (w2.drewN m = wq) := hwq
   clear hwq
   go_wp2_with fail
   go_quiet (first | (go_at_call 112; refine Calls.quiet_of (implRot _ _ _)))
   go_wp2_with fail
   refine (implRotD _ _ wq _).mono ?_
   rintro e _ ⟨rfl, m1, rfl⟩
   go_wp2_with fail
   refine (implRotD _ _ _ _).mono ?_
   rintro e _ ⟨rfl, m2, rfl⟩
   go_wp2_with fail
   refine (implRotD _ _ _ _).mono ?_
   rintro e _ ⟨rfl, m3, rfl⟩
   go_wp2_with fail
   refine (implAdd _ _ _).mono ?_
   rintro e _ ⟨rfl, rfl⟩
   go_wp2_with fail
   refine (implAdd _ _ _).mono ?_
   rintro e _ ⟨rfl, rfl⟩
   go_wp2
   go_roundw
   case rel =>
    refine ⟨k + 1, _, by omega, by go_num, ?_, ?_, ?_, ?_, ?_, ?_, ?_, ?_, by rw [← HWQ.out]; exact World.drewN_drewN _ _ _⟩
    all_goals rw [HN.out]
    ·
     show _ = Value.int .i64 ((tOf _ _ _ + uOf _) % 4294967296)
     rw [HTt.out, HU.out]
    ·
     rfl
    ·
     rfl
    ·
     rfl
    ·
     show _ = Value.int .i64 ((D + tOf _ _ _) % 4294967296)
     rw [HTt.out]
    ·
     rfl
    ·
     rfl
    ·
     rfl
   case measure => simp [intOf]; omega
  ·
   obtain rfl : k = 64 := by omega
   obtain ⟨S, hS⟩ : ∃ S, rounds W s 64 = S := ⟨_, rfl⟩
   have HSS : Hid (rounds W s 64 = S) := hS
   have HSK : Hid S.ok := by rw [← hS]; exact rounds_ok W s 64 HSok.out
   rw [hS]
   clear hS
   obtain ⟨A, B, C, D, E, F, G, H⟩ := S
   obtain ⟨l, hl⟩ : ∃ l, l = (St.mk A B C D E F G H).list := ⟨_, rfl⟩
   have HLL : Hid (l = (St.mk A B C D E F G H).list) := hl
   have HG0 : Hid (w.grownBy (w2.drewN m) (some g)) := ⟨HB2.out.os, HB2.out.tape, HB2.out.output, HB2.out.size, fun i hi _ => HB2.out.block i hi⟩
   have HX0 := hid (HX2.out)
   dsimp only
   clear hl
   go_wp2
   go_loopw [123] (fun i wr => ∃ k : Nat, k ≤ 8 ∧ i = .int .i64 k ∧ Blk wr g t (((List.range k).map (plus h l) ++ h.drop k).map (Value.int .i64) ++ r) ∧ w.grownBy wr (some g))
    (fun i _ => 8 - (intOf i).toNat)
   case atStart => exact ⟨0, Nat.zero_le _, rfl, HX0.out, HG0.out⟩
   case round =>
    obtain ⟨k, hk, rfl, hX, hG⟩ := hrel
    clear HX0 HG0
    by_cases hlt : k < 8
    ·
     have hll : ((List.range k).map (plus h l) ++ h.drop k).length = 8 := by rw [List.length_append, List.length_map, List.length_range, List.length_drop, HH.out]; omega
     have hc0 := hX.int k (by rw [hll]; exact hlt)
     rw [part8 h l k] at hc0
     have hfr := hX.frozen k
     have hag := index8 k hlt A B C D E F G H
     rw [← HLL.out] at hag
     have N1 : Hid (∀ q, Blk ((wr.drewN q).setCell ⟨g, k, none⟩ (.int .i64 ((h.getD k 0 + l.getD k 0) % 4294967296))) g t (((List.range (k + 1)).map (plus h l) ++ h.drop (k + 1)).map (Value.int .i64) ++ r)) := by
      intro q
      have := (hX.drewN q).set k (.int .i64 ((h.getD k 0 + l.getD k 0) % 4294967296)) (by rw [List.length_append, List.length_map, hll]; unfold maxLen; omega)
      rw [set_ints _ _ _ _ (by rw [hll]; exact hlt), add8 h l k hlt HH.out] at this
      exact this
     have N2 : Hid (∀ q, w.grownBy ((wr.drewN q).setCell ⟨g, k, none⟩ (.int .i64 ((h.getD k 0 + l.getD k 0) % 4294967296))) (some g)) := by
      intro q
      have := ((hX.drewN q).owns (by rw [List.length_append, List.length_map, hll]; unfold maxLen; omega)).stored k (.int .i64 ((h.getD k 0 + l.getD k 0) % 4294967296))
      exact grown_trans (b := wr.drewN q) ⟨hG.os, hG.tape, hG.output, hG.size, hG.block⟩ this.2
     have hkI : (k : Int) < 8 := by omega
     clear hX hG hll
     generalize h.getD k 0 = z1 at *
     generalize l.getD k 0 = z2 at *
     go_wp2
     go_region_with (go_at_call 113; refine (implAdd _ _ _).mono ?_; rintro e w' ⟨rfl, rfl⟩)
     all_goals
      go_wp2
      refine ⟨?_, ?measure⟩
      (repeat apply Exists.intro)
      refine ⟨?rel, rfl⟩
      case rel => exact ⟨k + 1, by omega, by go_num, N1.out 1, N2.out 1⟩
      case measure => simp [intOf]; omega
    ·
     obtain rfl : k = 8 := by omega
     have HE : Hid (comp h b = (List.range 8).map (plus h l) ++ h.drop 8) := by
      show _ = _
      rw [List.drop_of_length_le (by rw [HH.out]; exact Nat.le_refl _), List.append_nil, HLL.out, ← HSS.out, HWs.out, HS.out]; rfl
     have HX := hid (hX)
     have HG : Hid (w.grownBy wr (some g)) := hG
     clear hX hG
     go_wp2
     go_end0
     exact ⟨rfl, by rw [HE.out]; exact HX.out, HG.out⟩
end Go.Proofs.YtpenhliaelhnoaaGreatDoor.Comp

namespace Go.Proofs.YtpenhliaelhnoaaGreatDoor.CompS
open Go.RowKit Mem MemI Blk App Get ShaP Word Bits Sched Sched2 SchedS Words Comp

def compI (h b : List Int) : List Int := if okw h = true ∧ b.length = 64 then comp h b else h
theorem compI_length (h b : List Int) : (compI h b).length = h.length := by
 unfold compI; split
 ·
  rename_i e; rw [comp_length, ((okw_iff h).1 e.1).1]
 ·
  rfl

theorem two_masks (t u : Int) : bits .and .i64 (wrap64 (bits .and .i64 t 4294967295 + bits .and .i64 u 4294967295)) 4294967295 = (t + u) % 4294967296 := by
 rw [mask32 t, mask32 u, IntWalk.wrap64_in _ (by omega), mask32]; omega
theorem one_mask (d t : Int) (h : Wd d) : bits .and .i64 (wrap64 (d + bits .and .i64 t 4294967295)) 4294967295 = (d + t) % 4294967296 := by
 have h1 := h.1
 have h2 := h.2
 rw [mask32 t, IntWalk.wrap64_in _ (by omega), mask32]; omega

set_option maxHeartbeats 4000000 in
theorem specCompress (a0 : Option Addr) (n0 c0 : Nat) (h : List Int) (a : Option Addr) (n cap : Nat) (b : List Int) (w : World)
  (hn0 : n0 = h.length) (hh : IRd w a0 h) (na : a0 = none → c0 = 0) (hl0 : n0 ≤ 4194304) (hn : n = b.length) (hr : Rd w a b) (hb : Bytes b) (hl : n ≤ 4194304) :
  Calls Tryz.prog 102 #[.slice a0 n0 c0, .slice a n cap] w fun e w' =>
   ∃ g m c, e = .returned (.slice (some ⟨g, 0, none⟩) m c) ∧ m = (compI h b).length ∧ w.heap.size ≤ g ∧ IRow w' g c (compI h b) ∧ Below w.heap.size w w' := by
 have HH := hid (hh)
 have HN0 : Hid (n0 = h.length) := hn0
 have HN : Hid (n = b.length) := hn
 have HR := hid (hr)
 have HB := hid (hb)
 have HCL : Hid ((compI h b).length = h.length) := compI_length h b
 have HA0 : Hid (Below w.heap.size w (w.alloc (.cells #[] 3))) := (Below.refl _ _).alloc (Nat.le_refl _) _
 have HR0 : Hid (IRow (w.alloc (.cells #[] 3)) w.heap.size 0 []) := irow_new w [] (by simp)
 clear hh hn0 hn hr hb
 by_cases hk : okw h = true
 ·
  by_cases h64 : n = 64
  ·
   subst h64
   have h8 : h.length = 8 := ((okw_iff h).1 hk).1
   have HW : Hid (Wds h) := ((okw_iff h).1 hk).2
   have HC : Hid (compI h b = comp h b) := by show _ = _; unfold compI; rw [if_pos ⟨hk, HN.out.symm⟩]
   obtain rfl : n0 = 8 := by rw [HN0.out, h8]
   obtain ⟨B, O, rfl, hBl, _⟩ := HH.out 0 (by omega)
   have HBl : Hid (B < w.heap.size) := hBl
   have HCI : Hid (∀ k, k < 8 → w.cell? ⟨B, O + k, none⟩ = some (.int .i64 (h.getD k 0))) := by
    intro k hk
    obtain ⟨B', O', e, _, hc⟩ := HH.out k (by omega)
    simp only [Option.some.injEq, Addr.mk.injEq, and_true] at e
    obtain ⟨rfl, rfl⟩ := e
    exact hc
   have HSI : Hid (schedI b = sched b) := by show _ = _; unfold schedI; rw [if_pos HN.out.symm]
   have H8 : Hid (h.length = 8) := h8
   clear h8 hBl
   go_enter Tryz.func102, Tryz.ntmps102
   go_wp2_with (at_builtin; refine iwpList_app _ rfl (.tmp 21) (.tmp 22) rfl w.heap.size w.heap.size 0 0 [] h rfl rfl HR0.out (Nat.le_refl _) (some ⟨B, O, none⟩) 8 c0 rfl H8.out.symm (HH.out.later HA0.out (Nat.le_refl _)) na (by rw [H8.out]; simp) ?_; intro g1 c1 w1 r1 b1 l1 gr1; have R1 : Hid (IRow w1 g1 c1 h) := (List.nil_append h) ▸ r1; have B1 : Hid (Below w.heap.size w w1) := HA0.out.grown gr1 HA0.out.size (fun k h => by cases h; exact Nat.le_refl _); clear r1 gr1 l1)
   refine (l2Words _ 8 c0 h w1 H8.out.symm (HH.out.later B1.out (Nat.le_refl _)) (by omega)).mono ?_
   rintro e _ ⟨rfl, rfl⟩
   go_wp2_with fail
   refine (l2K w1).mono ?_
   rintro e w2 ⟨rfl, r2, b2⟩
   have R2 := hid (r2)
   have B2 := hid (b2)
   clear r2 b2
   go_wp2_with fail
   have HB2 := hid (B1.out.trans (B2.out.mono B1.out.size))
   refine (specSchedule a 64 cap b w2 HN.out (HR.out.later HB2.out (Nat.le_refl _)) HB.out (by omega)).mono ?_
   rintro e w3 ⟨g3, m3, c3, rfl, e3, k3, r3, b3⟩
   obtain rfl : m3 = 64 := by rw [e3, HSI.out, sched_length]
   obtain ⟨W, hWs⟩ : ∃ W, W = sched b := ⟨_, rfl⟩
   have HWs : Hid (W = sched b) := hWs
   have HWw : Hid (Wds W) := by rw [hWs]; exact sched_wds b HB.out
   have HWl : Hid (W.length = 64) := by rw [hWs]; exact sched_length b
   have R3 : Hid (IRow w3 g3 c3 W) := by rw [hWs, ← HSI.out]; exact r3
   have B3 := hid (b3)
   have HB3 := hid (HB2.out.trans (B3.out.mono HB2.out.size))
   have RO := hid ((R1.out.later B2.out).later B3.out)
   have RK := hid (R2.out.later B3.out)
   clear r3 b3 hWs e3 k3 R1 R2
   obtain ⟨gk, hgk⟩ : ∃ gk, w1.heap.size = gk := ⟨_, rfl⟩
   rw [hgk] at RK ⊢
   clear hgk B2 B3 HB2 B1
   obtain ⟨s, hs⟩ : ∃ s, s = stOf h := ⟨_, rfl⟩
   have HS : Hid (s = stOf h) := hs
   have HSok : Hid s.ok := by rw [hs]; exact stOf_ok HW.out
   have HC3 : Hid (∀ k, k < 8 → w3.cell? ⟨B, O + k, none⟩ = some (.int .i64 (h.getD k 0))) := fun k hk => by rw [HB3.out.cell HBl.out]; exact HCI.out k hk
   have c0' := HC3.out 0 (by omega)
   have c1' := HC3.out 1 (by omega)
   have c2' := HC3.out 2 (by omega)
   have c3' := HC3.out 3 (by omega)
   have c4' := HC3.out 4 (by omega)
   have c5' := HC3.out 5 (by omega)
   have c6' := HC3.out 6 (by omega)
   have c7' := HC3.out 7 (by omega)
   rw [show h.getD 0 0 = s.a by rw [hs]; rfl] at c0'
   rw [show h.getD 1 0 = s.b by rw [hs]; rfl] at c1'
   rw [show h.getD 2 0 = s.c by rw [hs]; rfl] at c2'
   rw [show h.getD 3 0 = s.d by rw [hs]; rfl] at c3'
   rw [show h.getD 4 0 = s.e by rw [hs]; rfl] at c4'
   rw [show h.getD 5 0 = s.f by rw [hs]; rfl] at c5'
   rw [show h.getD 6 0 = s.g by rw [hs]; rfl] at c6'
   rw [show h.getD 7 0 = s.h by rw [hs]; rfl] at c7'
   rw [Nat.add_zero] at c0'
   clear hs
   go_wp2_with fail
   go_quiet (fail)
   clear c0' c1' c2' c3' c4' c5' c6' c7'
   go_wp2
   go_loopw [8, 9, 10, 11, 12, 13, 14, 15, 16] (fun va vb vc vd ve vf vg vh i wr => ∃ k m : Nat, k ≤ 64 ∧ i = .int .i64 k ∧ va = .int .i64 (rounds W s k).a ∧ vb = .int .i64 (rounds W s k).b ∧ vc = .int .i64 (rounds W s k).c ∧ vd = .int .i64 (rounds W s k).d ∧ ve = .int .i64 (rounds W s k).e ∧ vf = .int .i64 (rounds W s k).f ∧ vg = .int .i64 (rounds W s k).g ∧ vh = .int .i64 (rounds W s k).h ∧ wr = w3.drewN m)
    (fun _ _ _ _ _ _ _ _ i _ => 64 - (intOf i).toNat)
   case atStart => exact ⟨0, _, Nat.zero_le _, rfl, rfl, rfl, rfl, rfl, rfl, rfl, rfl, rfl, rfl⟩
   case round =>
    obtain ⟨k, m, hk2, rfl, rfl, rfl, rfl, rfl, rfl, rfl, rfl, rfl, rfl⟩ := hrel
    by_cases hlt : k < 64
    ·
     have ck := RK.out.cell k (by rw [kk_length]; exact hlt)
     have cw := R3.out.cell k (by rw [HWl.out]; exact hlt)
     have hkw := kk_wds.at k
     have hww := HWw.out.at k
     have hok := rounds_ok W s k HSok.out
     have HNx : Hid (rounds W s (k + 1) = rnd (kk.getD k 0) (W.getD k 0) (rounds W s k)) := (rfl : rounds W s (k + 1) = _)
     generalize kk.getD k 0 = x1 at *
     generalize W.getD k 0 = x2 at *
     generalize rounds W s k = S at *
     obtain ⟨A, B', C, D, E, F, G, H⟩ := S
     obtain ⟨⟨a1, a2⟩, ⟨b1', b2'⟩, ⟨c1'', c2''⟩, ⟨d1, d2⟩, ⟨e1, e2⟩, ⟨f1, f2⟩, ⟨g1', g2'⟩, ⟨h1, h2⟩⟩ := hok
     obtain ⟨x1a, x1b⟩ := hkw
     obtain ⟨x2a, x2b⟩ := hww
     dsimp only at a1 a2 b1' b2' c1'' c2'' d1 d2 e1 e2 f1 f2 g1' g2' h1 h2 ⊢
     have q1 : Wd (bits .xor .i64 (bits .xor .i64 (rot E 6) (rot E 11)) (rot E 25)) := wd_big1 E
     have q2 : Wd (bits .xor .i64 (bits .and .i64 E F) (bits .and .i64 (bits .xor .i64 E 4294967295) G)) := wd_cho ⟨e1, e2⟩ ⟨f1, f2⟩ ⟨g1', g2'⟩
     have q3 : Wd (bits .xor .i64 (bits .xor .i64 (rot A 2) (rot A 13)) (rot A 22)) := wd_big0 A
     have q4 : Wd (bits .xor .i64 (bits .xor .i64 (bits .and .i64 A B') (bits .and .i64 A C)) (bits .and .i64 B' C)) := wd_maj ⟨a1, a2⟩ ⟨b1', b2'⟩ ⟨c1'', c2''⟩
     have HU : Hid (uOf ⟨A, B', C, D, E, F, G, H⟩ = bits .xor .i64 (bits .xor .i64 (rot A 2) (rot A 13)) (rot A 22) + bits .xor .i64 (bits .xor .i64 (bits .and .i64 A B') (bits .and .i64 A C)) (bits .and .i64 B' C)) := (rfl : uOf ⟨A, B', C, D, E, F, G, H⟩ = _)
     have HTt : Hid (tOf x1 x2 ⟨A, B', C, D, E, F, G, H⟩ = H + bits .xor .i64 (bits .xor .i64 (rot E 6) (rot E 11)) (rot E 25) + bits .xor .i64 (bits .and .i64 E F) (bits .and .i64 (bits .xor .i64 E 4294967295) G) + x1 + x2) := (rfl : tOf x1 x2 ⟨A, B', C, D, E, F, G, H⟩ = _)
     obtain ⟨⟨q1a, q1b⟩, ⟨q2a, q2b⟩, ⟨q3a, q3b⟩, ⟨q4a, q4b⟩⟩ := And.intro q1 (And.intro q2 (And.intro q3 q4))
     clear q1 q2 q3 q4
     obtain ⟨wq, hwq⟩ : ∃ wq, w3.drewN m = wq := ⟨_, rfl⟩
     have ck : wq.cell? ⟨gk, k, none⟩ = some (.int .i64 x1) := by rw [← hwq]; exact ck
     have cw : wq.cell? ⟨g3, k, none⟩ = some (.int .i64 x2) := by rw [← hwq]; exact cw
     rw [hwq]
     have HWQ : Hid (w3.drewN m = wq) := hwq
     clear hwq
     go_wp2_with fail
     go_quiet (first | (go_at_call 110; refine Calls.quiet_of (specRot _ _ _)))
     go_wp2_with fail
     refine (specRotD _ _ wq _).mono ?_
     rintro e _ ⟨rfl, m1, rfl⟩
     go_wp2_with fail
     refine (specRotD _ _ _ _).mono ?_
     rintro e _ ⟨rfl, m2, rfl⟩
     go_wp2_with fail
     refine (specRotD _ _ _ _).mono ?_
     rintro e _ ⟨rfl, m3, rfl⟩
     go_wp2
     go_roundw
     case rel =>
      refine ⟨k + 1, _, by omega, by go_num, ?_, ?_, ?_, ?_, ?_, ?_, ?_, ?_, by rw [← HWQ.out]; exact World.drewN_drewN _ _ _⟩
      all_goals rw [HNx.out]
      ·
       show _ = Value.int .i64 ((tOf _ _ _ + uOf _) % 4294967296)
       rw [HTt.out, HU.out, ← two_masks]
      ·
       rfl
      ·
       rfl
      ·
       rfl
      ·
       show _ = Value.int .i64 ((D + tOf _ _ _) % 4294967296)
       rw [HTt.out, ← one_mask D _ ⟨d1, d2⟩]
      ·
       rfl
      ·
       rfl
      ·
       rfl
     case measure => simp [intOf]; omega
    ·
     obtain rfl : k = 64 := by omega
     obtain ⟨S, hS⟩ : ∃ S, rounds W s 64 = S := ⟨_, rfl⟩
     have HSS : Hid (rounds W s 64 = S) := hS
     have HSK : Hid S.ok := by rw [← hS]; exact rounds_ok W s 64 HSok.out
     rw [hS]
     clear hS
     obtain ⟨A, B', C, D, E, F, G, H⟩ := S
     obtain ⟨l, hl'⟩ : ∃ l, l = (St.mk A B' C D E F G H).list := ⟨_, rfl⟩
     have HLL : Hid (l = (St.mk A B' C D E F G H).list) := hl'
     have HLW : Hid (Wds l) := by
      rw [hl']
      obtain ⟨p1, p2, p3, p4, p5, p6, p7, p8⟩ := HSK.out
      intro z hz
      simp only [St.list, List.mem_cons, List.not_mem_nil, or_false] at hz
      rcases hz with rfl | rfl | rfl | rfl | rfl | rfl | rfl | rfl <;> assumption
     have HL8 : Hid (l.length = 8) := by rw [hl']; rfl
     obtain ⟨w4, hw4⟩ : ∃ w4, (w3.drewN m).alloc (.cells #[.int .i64 A, .int .i64 B', .int .i64 C, .int .i64 D, .int .i64 E, .int .i64 F, .int .i64 G, .int .i64 H] 3) = w4 := ⟨_, rfl⟩
     have HW4 := hid (hw4)
     obtain ⟨gl, hgl⟩ : ∃ gl, w3.heap.size = gl := ⟨_, rfl⟩
     have HGL : Hid (w3.heap.size = gl) := hgl
     have RL : Hid (IRow w4 gl 8 l) := by
      rw [← hw4, hl', ← hgl]; exact irow_new (w3.drewN m) [A, B', C, D, E, F, G, H] (by simp [maxLen])
     have HB4 : Hid (Below w.heap.size w w4) := by rw [← hw4]; exact (below_drewN HB3.out m).alloc HB3.out.size _
     have RO4 : Hid (IRow w4 g1 c1 h) := by rw [← hw4]; exact irow_alloc (w := w3.drewN m) (RO.out.keep rfl) _
     have HNE : Hid (g1 ≠ gl) := by rw [← hgl]; exact Nat.ne_of_lt RO.out.lt
     clear hl' hw4 hgl
     dsimp only
     go_wp2
     rw [HGL.out, HW4.out]
     have HO0 : Hid (w4.ownsRow w.heap.size 3 1 (.slice (some ⟨g1, 0, none⟩) 8 c1) 8 (((List.range 0).map (plus h l) ++ h.drop 0).map (Value.int .i64))) := by
      have := RO4.out.owns b1
      rw [H8.out] at this
      exact this
     go_loopw [20] (fun i wr => ∃ k : Nat, k ≤ 8 ∧ i = .int .i64 k ∧ wr.ownsRow w.heap.size 3 1 (.slice (some ⟨g1, 0, none⟩) 8 c1) 8 (((List.range k).map (plus h l) ++ h.drop k).map (Value.int .i64)) ∧ IRow wr gl 8 l ∧ Below w.heap.size w wr)
      (fun i _ => 8 - (intOf i).toNat)
     case atStart => exact ⟨0, Nat.zero_le _, rfl, HO0.out, RL.out, HB4.out⟩
     case round =>
      obtain ⟨k, hk8, rfl, hO, hL, hbe⟩ := hrel
      clear HO0 RL HB4
      by_cases hlt8 : k < 8
      ·
       have hc1 : wr.cell? ⟨B, O + k, none⟩ = some (.int .i64 (h.getD k 0)) := by rw [hbe.cell HBl.out]; exact HCI.out k hlt8
       have hc2 := hL.cell k (by rw [HL8.out]; exact hlt8)
       have hw1 := HW.out.at k
       have hw2 := HLW.out.at k
       have hfr := hO.frozenAt k
       have hca : ∃ v, wr.cell? ⟨g1, k, none⟩ = some v := by
        rw [hO.cellAt k (by omega)]
        exact ⟨_, List.getElem?_eq_getElem (by simp [H8.out]; omega)⟩
       obtain ⟨v0, hca⟩ := hca
       have N1 : Hid (∀ q, ((wr.drewN q).setCell ⟨g1, k, none⟩ (.int .i64 ((h.getD k 0 + l.getD k 0) % 4294967296))).ownsRow w.heap.size 3 1 (.slice (some ⟨g1, 0, none⟩) 8 c1) 8 (((List.range (k + 1)).map (plus h l) ++ h.drop (k + 1)).map (Value.int .i64))) := by
        intro q
        have hOq : (wr.drewN q).ownsRow w.heap.size 3 1 (.slice (some ⟨g1, 0, none⟩) 8 c1) 8 (((List.range k).map (plus h l) ++ h.drop k).map (Value.int .i64)) := hO
        have := (hOq.stored k (.int .i64 ((h.getD k 0 + l.getD k 0) % 4294967296))).1
        rw [← List.map_set, add8 h l k hlt8 H8.out] at this
        exact this
       have N2 : Hid (∀ q, IRow ((wr.drewN q).setCell ⟨g1, k, none⟩ (.int .i64 ((h.getD k 0 + l.getD k 0) % 4294967296))) gl 8 l) := fun q =>
        (hL.keep (w' := wr.drewN q) rfl).keep (Below.heap_setCell _ _ _ _ (Ne.symm HNE.out))
       have N3 : Hid (∀ q, Below w.heap.size w ((wr.drewN q).setCell ⟨g1, k, none⟩ (.int .i64 ((h.getD k 0 + l.getD k 0) % 4294967296)))) := fun q => (below_drewN hbe q).setCell b1 _
       clear hO hL hbe
       generalize h.getD k 0 = z1 at *
       generalize l.getD k 0 = z2 at *
       obtain ⟨z1a, z1b⟩ := hw1
       obtain ⟨z2a, z2b⟩ := hw2
       have hkI : (k : Int) < 8 := by omega
       have j1 : IntKind.i64.wrap (z1 + z2) = z1 + z2 := by rw [IntKind.wrap_i64]; omega
       have j2 := mask32 (z1 + z2)
       go_wp2
       go_region
       all_goals
        go_wp2
        go_roundw
        case rel => exact ⟨k + 1, by omega, by go_num, N1.out 1, N2.out 1, N3.out 1⟩
        case measure => simp [intOf]; omega
      ·
       obtain rfl : k = 8 := by omega
       have HE : Hid (compI h b = (List.range 8).map (plus h l) ++ h.drop 8) := by
        show _ = _
        rw [HC.out, List.drop_of_length_le (by rw [H8.out]; exact Nat.le_refl _), List.append_nil, HLL.out, ← HSS.out, HWs.out, HS.out]; rfl
       have HX := (IRow.of (l := (List.range 8).map (plus h l) ++ h.drop 8) hO).1
       have HX := hid (HX)
       have HBE := hid (hbe)
       clear hO hL hbe
       go_wp2
       go_ret
       exact ⟨g1, 8, c1, rfl, by rw [HCL.out, H8.out], b1, by rw [HE.out]; exact HX.out, HBE.out⟩
  ·
   have HC : Hid (compI h b = h) := by show _ = _; unfold compI; rw [if_neg (fun e => h64 (HN.out.trans e.2))]
   have hne : ((n : Int) != 64) = true := by simp; omega
   clear h64
   go_enter Tryz.func102, Tryz.ntmps102
   go_wp2_with (at_builtin; refine iwpList_app _ rfl (.tmp 21) (.tmp 22) rfl w.heap.size w.heap.size 0 0 [] h rfl rfl HR0.out (Nat.le_refl _) a0 n0 c0 rfl HN0.out (HH.out.later HA0.out (Nat.le_refl _)) na (by rw [← HN0.out]; simp; omega) ?_; intro g1 c1 w1 r1 b1 l1 gr1; have R1 : Hid (IRow w1 g1 c1 h) := (List.nil_append h) ▸ r1; have B1 : Hid (Below w.heap.size w w1) := HA0.out.grown gr1 HA0.out.size (fun k h => by cases h; exact Nat.le_refl _); clear r1 gr1 l1)
   refine (l2Words _ n0 c0 h w1 HN0.out (HH.out.later B1.out (Nat.le_refl _)) (by omega)).mono ?_
   rintro e _ ⟨rfl, rfl⟩
   go_wp2
   go_ret
   exact ⟨g1, _, c1, rfl, by rw [HCL.out, ← HN0.out], b1, by rw [HC.out]; exact R1.out, B1.out⟩
 ·
  have hkf : okw h = false := by simpa using hk
  have HC : Hid (compI h b = h) := by show _ = _; unfold compI; rw [if_neg (fun e => hk e.1)]
  clear hk
  go_enter Tryz.func102, Tryz.ntmps102
  go_wp2_with (at_builtin; refine iwpList_app _ rfl (.tmp 21) (.tmp 22) rfl w.heap.size w.heap.size 0 0 [] h rfl rfl HR0.out (Nat.le_refl _) a0 n0 c0 rfl HN0.out (HH.out.later HA0.out (Nat.le_refl _)) na (by rw [← HN0.out]; simp; omega) ?_; intro g1 c1 w1 r1 b1 l1 gr1; have R1 : Hid (IRow w1 g1 c1 h) := (List.nil_append h) ▸ r1; have B1 : Hid (Below w.heap.size w w1) := HA0.out.grown gr1 HA0.out.size (fun k h => by cases h; exact Nat.le_refl _); clear r1 gr1 l1)
  refine (l2Words _ n0 c0 h w1 HN0.out (HH.out.later B1.out (Nat.le_refl _)) (by omega)).mono ?_
  rintro e _ ⟨rfl, rfl⟩
  go_wp2
  go_ret
  exact ⟨g1, _, c1, rfl, by rw [HCL.out, ← HN0.out], b1, by rw [HC.out]; exact R1.out, B1.out⟩
end Go.Proofs.YtpenhliaelhnoaaGreatDoor.CompS

namespace Go.Proofs.YtpenhliaelhnoaaGreatDoor.Start
open Go.RowKit Mem MemI Blk App Get ShaP Word Bits Sched Words WordsOf

def sumCells (h : List Int) (a : Option Addr) (m c : Nat) (n : Int) : List Value := h.map (Value.int .i64) ++ [.slice a m c, .int .i64 n]

theorem newSum (w : World) :
  Calls Tryz.prog 96 #[] w fun e w' => e = .returned (.pointer (some ⟨w.heap.size, 0, none⟩)) ∧ Blk w' w.heap.size 113 (sumCells start8 none 0 0 0) ∧ Below w.heap.size w w' := by
 go_enter Tryz.func96, Tryz.ntmps96
 go_wp2
 go_ret
 exact ⟨rfl, Blk.new w 113 (sumCells start8 none 0 0 0), (Below.refl _ _).alloc (Nat.le_refl _) _⟩

theorem specStart (w : World) :
  Calls Tryz.prog 101 #[] w fun e w' => e = .returned (.slice (some ⟨w.heap.size, 0, none⟩) 8 8) ∧ IRow w' w.heap.size 8 start8 ∧ Below w.heap.size w w' := by
 go_enter Tryz.func101, Tryz.ntmps101
 go_wp2
 go_ret
 exact ⟨rfl, irow_new w start8 (by simp [maxLen, start8]), (Below.refl _ _).alloc (Nat.le_refl _) _⟩

end Go.Proofs.YtpenhliaelhnoaaGreatDoor.Start

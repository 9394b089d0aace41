/-
  What spec's Schedule answers at every slice of bytes of at most 4,194,304: the words of impl's, in new memory.
-/
import Derived.Test.YtpenhliaelhnoaaDoorSched2
import Derived.Deep.RegionLaw
namespace Go.Proofs.YtpenhliaelhnoaaDoor.SchedS
open Go.RowKit Go.Proofs.YtpenhliaelhnoaaDoor.Mem Go.Proofs.YtpenhliaelhnoaaDoor.MemI Go.Proofs.YtpenhliaelhnoaaDoor.Blk Go.Proofs.YtpenhliaelhnoaaDoor.App Go.Proofs.YtpenhliaelhnoaaDoor.Get Go.Proofs.YtpenhliaelhnoaaDoor.ShaP Go.Proofs.YtpenhliaelhnoaaDoor.Word Go.Proofs.YtpenhliaelhnoaaDoor.Bits Go.Proofs.YtpenhliaelhnoaaDoor.Sched Go.Proofs.YtpenhliaelhnoaaDoor.Sched2

set_option maxRecDepth 100000 in
theorem istep_app {ops : Array Oper} {o : Oper} {a : Act} {w : World} {K : Act → World → Prop} {Q : Exit → Act → World → Prop} {E : Prop}
    (hgd : o.guard = none) (s x : Operand) (hop : o.op = .call { callee := .builtin .append, args := #[s, x], argTypes := #[41, 41] })
    (base g n cap : Nat) (l y : List Int) (hs : a.eval s = .slice (some ⟨g, 0, none⟩) n cap) (hn : n = l.length) (hrow : IRow w g cap l) (hbg : base ≤ g)
    (ad : Addr) (m c : Nat) (hx : a.eval x = .slice (some ad) m c) (hm : m = y.length) (hrd : IRd w (some ad) y) (hsum : l.length + y.length ≤ 100000000)
    (hK : ∀ g' cap' w', IRow w' g' cap' (l ++ y) → base ≤ g' → g' < w'.heap.size → w.grownBy w' (some g) → K (a.put o.dst (.slice (some ⟨g', 0, none⟩) (n + m) cap')) w') :
    if Region.wanted o (yielded ops a.tmps) = true then Oper.wp Tryd.prog o a w K Q else E := by
  have hw : Region.wanted o (yielded ops a.tmps) = true := by simp [Region.wanted, hgd]
  rw [if_pos hw]
  obtain ⟨i0, hi, hz0, hz1, hz2⟩ := info_parts info64
  subst hn hm
  have hlt := hrow.lt
  refine wp_append_own w s x 41 hop base 3 i0 (.int .i64 0) 1 8 Tryd.underlying41 hi hz0 hz1 hz2 rfl (by decide) _ _ _ hs (hrow.owns hbg) ad y.length c (y.map (Value.int .i64)) hx (by simp) (IRd.cells hrd) (ints_oneCell _ _) (by unfold maxLen; omega) (by omega) (by omega) ?_
  intro v' w' hown hgr hiff
  rcases hown.2 with ⟨hv, _⟩ | ⟨g', cap', cur, rfl, hb, hg', _⟩
  · exact absurd (hiff.1 hv).1 (by simp)
  · rw [← List.map_append] at hown
    obtain ⟨r1, r2, _, r4⟩ := IRow.of hown
    exact hK g' cap' w' r1 r2 r4 hgr

set_option maxRecDepth 100000 in
theorem ird_heap {w w' : World} {a : Option Addr} {l : List Int} (h : IRd w a l) (e : w'.heap = w.heap) : IRd w' a l := by
  intro i hi
  obtain ⟨b, off, rfl, h1, h2⟩ := h i hi
  exact ⟨b, off, rfl, by rw [e]; exact h1, by rw [World.cell?_of_block (w := w) (by rw [e])]; exact h2⟩

set_option maxRecDepth 100000 in
set_option maxHeartbeats 1600000 in
theorem specSchedule (a : Option Addr) (n cap : Nat) (b : List Int) (w : World) (hl : n = b.length) (hr : Rd w a b) (hb : Bytes b) (hn : n ≤ 4194304) :
    Calls Tryd.prog 85 #[.slice a n cap] w fun e w' =>
      ∃ g m c, e = .returned (.slice (some ⟨g, 0, none⟩) m c) ∧ m = (schedI b).length ∧ w.heap.size ≤ g ∧ IRow w' g c (schedI b) ∧ Below w.heap.size w w' := by
  have HA1 : Hid (Below w.heap.size w (w.alloc (.cells #[] 3))) := (Below.refl _ _).alloc (Nat.le_refl _) _
  have HN1 : Hid (IRow (w.alloc (.cells #[] 3)) w.heap.size 0 []) := irow_new w [] (by simp)
  by_cases h64 : n = 64
  · subst h64
    have HS : Hid (schedI b = more (first b 16) 48) := by show _ = _; unfold schedI; rw [if_pos hl.symm]; rfl
    have HR : Hid (Rd w a b) := hr
    have HB : Hid (Bytes b) := hb
    have HL : Hid (b.length = 64) := hl.symm
    clear hr hb hl
    go_enter Tryd.func85, Tryd.ntmps85
    go_wp2
    go_loopw [3, 4] (fun v i wr => ∃ k g c : Nat, k ≤ 16 ∧ i = .int .i64 k ∧ v = .slice (some ⟨g, 0, none⟩) k c ∧ w.heap.size ≤ g ∧ IRow wr g c (first b k) ∧ Below w.heap.size w wr)
      (fun _ i _ => 16 - (intOf i).toNat)
    case atStart => exact ⟨0, w.heap.size, 0, Nat.zero_le _, rfl, rfl, Nat.le_refl _, HN1.out, HA1.out⟩
    case round =>
      obtain ⟨k, g, c, hk, rfl, rfl, hg, hrow, hbe⟩ := hrel
      clear HN1 HA1
      have HRow : Hid (IRow wr g c (first b k)) := hrow
      have HBe : Hid (Below w.heap.size w wr) := hbe
      clear hrow hbe
      by_cases hlt : k < 16
      · have hG : gotN b (4 * (k : Int)) 4 = .tuple #[.int .i64 (val (piece b (4 * k) 4)), .int .i64 (4 * (k : Int) + 4), .bool true] := by
          unfold gotN
          rw [if_pos ⟨(isSize_iff 4).2 (by omega), there_yes (by rw [HL.out]; omega)⟩]
          rw [show (4 * (k : Int)).toNat = 4 * k by omega]; rfl
        have HF : Hid (first b (k + 1) = first b k ++ [val (piece b (4 * k) 4)]) := first_succ b k
        have HK : Hid (k = (first b k).length) := (first_length b k).symm
        generalize val (piece b (4 * k) 4) = v1 at *
        go_wp2_with fail
        refine (specGetN a 64 cap b (4 * (k : Int)) 4 wr HL.out.symm (HR.out.later HBe.out (Nat.le_refl _)) HB.out (by omega)).mono ?_
        rintro e w1 ⟨rfl, rfl⟩
        go_wp2_with (at_builtin; refine iwpList_app _ rfl (.tmp 30) (.tmp 32) rfl w.heap.size g k c (first b k) [v1] rfl HK.out (irow_alloc HRow.out _) hg (some ⟨wr.heap.size, 0, none⟩) 1 1 rfl rfl (ird_one _ _) (by intro h; cases h) (by rw [← HK.out]; simp; omega) ?_; intro g2 c2 w2 r2 b2 l2 gr2; have R2 : Hid (IRow w2 g2 c2 (first b k ++ [v1])) := r2; have B2 : Hid (Below w.heap.size w w2) := (HBe.out.alloc HBe.out.size _).grown gr2 (Nat.le_trans HBe.out.size (by simp)) (fun k h => by cases h; exact hg); clear r2 gr2 l2)
        go_roundw
        case rel => exact ⟨k + 1, g2, c2, by omega, by go_num, rfl, b2, by rw [HF.out]; exact R2.out, B2.out⟩
        case measure => simp [intOf]; omega
      · obtain rfl : k = 16 := by omega
        go_wp2
        go_loopw [3, 8] (fun v i wr => ∃ n g c : Nat, n ≤ 48 ∧ i = .int .i64 ((n : Int) + 16) ∧ v = .slice (some ⟨g, 0, none⟩) (n + 16) c ∧ w.heap.size ≤ g ∧ IRow wr g c (more (first b 16) n) ∧ Below w.heap.size w wr)
          (fun _ i _ => 64 - (intOf i).toNat)
        case atStart => exact ⟨0, g, c, Nat.zero_le _, rfl, rfl, hg, HRow.out, HBe.out⟩
        case round =>
          obtain ⟨n, g, c, hn, rfl, rfl, hg, hrow, hbe⟩ := hrel
          clear HRow HBe
          have HRow : Hid (IRow wr g c (more (first b 16) n)) := hrow
          have HBe : Hid (Below w.heap.size w wr) := hbe
          have HK : Hid (n + 16 = (more (first b 16) n).length) := by show _ = _; rw [more_length, first_length]; omega
          clear hrow hbe
          by_cases hlt : n < 48
          · have c1 := HRow.out.cell (n + 1) (by rw [← HK.out]; omega)
            have c2 := HRow.out.cell (n + 14) (by rw [← HK.out]; omega)
            have c3 := HRow.out.cell (n + 9) (by rw [← HK.out]; omega)
            have c4 := HRow.out.cell n (by rw [← HK.out]; omega)
            have hws : Wds (more (first b 16) n) := more_wds _ _ (first_wds b 16 HB.out)
            have w1 := hws.at (n + 1)
            have w2 := hws.at (n + 14)
            have w3 := hws.at (n + 9)
            have w4 := hws.at n
            obtain ⟨z, hz⟩ : ∃ z, nextW (more (first b 16) n) (16 + n) = z := ⟨_, rfl⟩
            have HN : Hid (((more (first b 16) n).getD (n + 9) 0 + (more (first b 16) n).getD n 0 + s0 ((more (first b 16) n).getD (n + 1) 0) + s1 ((more (first b 16) n).getD (n + 14) 0)) % 4294967296 = z) := by
              show _ = _
              rw [← hz]; unfold nextW
              rw [show 16 + n - 7 = n + 9 by omega, show 16 + n - 16 = n by omega, show 16 + n - 15 = n + 1 by omega, show 16 + n - 2 = n + 14 by omega]
            have HF : Hid (more (first b 16) (n + 1) = more (first b 16) n ++ [z]) := by rw [← hz]; exact (rfl : more (first b 16) (n + 1) = _)
            clear hz hws
            obtain ⟨L, hL⟩ : ∃ L, more (first b 16) n = L := ⟨_, rfl⟩
            rw [hL] at HRow HK HF HN c1 c2 c3 c4 w1 w2 w3 w4
            clear hL
            generalize L.getD (n + 1) 0 = x1 at *
            generalize L.getD (n + 14) 0 = x2 at *
            generalize L.getD (n + 9) 0 = x3 at *
            generalize L.getD n 0 = x4 at *
            obtain ⟨w1a, w1b⟩ := w1
            obtain ⟨w2a, w2b⟩ := w2
            obtain ⟨w3a, w3b⟩ := w3
            obtain ⟨w4a, w4b⟩ := w4
            have hs0 : Wd (bits .xor .i64 (bits .xor .i64 (rot x1 7) (rot x1 18)) (x1 / 8)) := wd_s0 (x := x1) ⟨w1a, w1b⟩
            have hs1 : Wd (bits .xor .i64 (bits .xor .i64 (rot x2 17) (rot x2 19)) (x2 / 1024)) := wd_s1 (x := x2) ⟨w2a, w2b⟩
            have HN : Hid ((x3 + x4 + bits .xor .i64 (bits .xor .i64 (rot x1 7) (rot x1 18)) (x1 / 8) + bits .xor .i64 (bits .xor .i64 (rot x2 17) (rot x2 19)) (x2 / 1024)) % 4294967296 = z) := HN.out
            have i1 : (0 : Int) ≤ (n : Int) + 16 - 15 := by omega
            have i2 : (n : Int) + 16 - 15 < ((n + 16 : Nat) : Int) := by omega
            have i3 : (0 : Int) ≤ (n : Int) + 16 - 2 := by omega
            have i4 : (n : Int) + 16 - 2 < ((n + 16 : Nat) : Int) := by omega
            go_wp2_with fail
            refine (specRot _ _ _).mono ?_
            rintro e _ ⟨rfl, q1, rfl⟩
            go_wp2_with fail
            refine (specRotD _ _ _ _).mono ?_
            rintro e _ ⟨rfl, q2, rfl⟩
            go_wp2_with fail
            refine (specRotD _ _ _ _).mono ?_
            rintro e _ ⟨rfl, q3, rfl⟩
            go_wp2_with fail
            refine (specRotD _ _ _ _).mono ?_
            rintro e _ ⟨rfl, q4, rfl⟩
            go_wp2_with fail
            generalize bits .xor .i64 (bits .xor .i64 (rot x1 7) (rot x1 18)) (x1 / 8) = f0 at *
            generalize bits .xor .i64 (bits .xor .i64 (rot x2 17) (rot x2 19)) (x2 / 1024) = f1 at *
            obtain ⟨f0a, f0b⟩ := hs0
            obtain ⟨f1a, f1b⟩ := hs1
            obtain ⟨p, hp⟩ : ∃ p : Nat, n + 9 = p := ⟨_, rfl⟩
            rw [hp] at c3
            have hp64 : (p : Int) < (n : Int) + 16 := by omega
            have hn64 : (n : Int) < (n : Int) + 16 := by omega
            have j1 : IntKind.i64.wrap ((n : Int) + 16 - 7) = (p : Int) := by rw [IntKind.wrap_i64]; omega
            have j2 : IntKind.i64.wrap (n : Int) = (n : Int) := by rw [IntKind.wrap_i64]; omega
            have j3 : IntKind.i64.wrap (x3 + x4) = x3 + x4 := by rw [IntKind.wrap_i64]; omega
            have j4 : IntKind.i64.wrap (x3 + x4 + f0) = x3 + x4 + f0 := by rw [IntKind.wrap_i64]; omega
            have j5 : IntKind.i64.wrap (x3 + x4 + f0 + f1) = x3 + x4 + f0 + f1 := by rw [IntKind.wrap_i64]; omega
            have j6 : bits .and .i64 (x3 + x4 + f0 + f1) 4294967295 = z := by rw [mask32]; exact HN.out
            clear hp
            go_region_law (refine istep_app rfl (.tmp 64) (.tmp 81) rfl w.heap.size g (n + 16) c L [z] (by simp [Act.eval]) HK.out (by exact (irow_alloc HRow.out (.cells #[.int .i64 z] 3)).keep rfl) hg ⟨wr.heap.size, 0, none⟩ 1 1 (by simp [Act.eval]) rfl (by exact ird_heap (ird_one wr _) rfl) (by rw [← HK.out]; simp; omega) ?_; intro g2 c2 w2 r2 b2 l2 gr2; have R2 : Hid (IRow w2 g2 c2 (L ++ [z])) := r2; have B2 : Hid (Below w.heap.size w w2) := Below.grown (below_drewN ((HBe.out.alloc HBe.out.size (.cells #[.int .i64 z] 3))) (q4 + 1)) gr2 (Nat.le_trans HBe.out.size (by simp)) (fun k h => by cases h; exact hg); clear r2 gr2 l2)
            all_goals
              go_wp2
              refine ⟨?_, ?measure⟩
              (repeat apply Exists.intro)
              refine ⟨?rel, rfl⟩
              case rel => exact ⟨n + 1, g2, c2, by omega, by go_num, by rw [show n + 1 + 16 = n + 16 + 1 by omega], b2, by rw [HF.out]; exact R2.out, B2.out⟩
              case measure => simp [intOf]; omega
          · obtain rfl : n = 48 := by omega
            have HM : Hid ((more (first b 16) 48).length = 64) := by show _ = _; rw [more_length, first_length]
            go_wp2
            go_ret
            exact ⟨g, 64, c, rfl, by rw [HS.out, HM.out], hg, by rw [HS.out]; exact HRow.out, HBe.out⟩
  · have HS : Hid (schedI b = []) := by show _ = _; unfold schedI; rw [if_neg (by omega)]
    have hne : ((n : Int) != 64) = true := by simp; omega
    clear h64 hl hr hb
    go_enter Tryd.func85, Tryd.ntmps85
    go_wp2
    go_ret
    exact ⟨w.heap.size, 0, 0, by simp, by rw [HS.out]; rfl, Nat.le_refl _, by rw [HS.out]; exact HN1.out, HA1.out⟩
end Go.Proofs.YtpenhliaelhnoaaDoor.SchedS

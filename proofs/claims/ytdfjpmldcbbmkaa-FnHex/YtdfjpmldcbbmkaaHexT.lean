/-
  What impl's and spec's HexText answer at every slice of at most 2,097,152 bytes: the same text, two digits a byte.
-/
import Derived.Test.YtdfjpmldcbbmkaaApp
import Derived.Laws.BytesArg
import Derived.Laws.BitsAllLaws
import Derived.Deep.RegionLaw
namespace Go.Proofs.Ytdfjpmldcbbmkaa.HexT
open Go.RowKit Go.Proofs.Ytdfjpmldcbbmkaa.Mem Go.Proofs.Ytdfjpmldcbbmkaa.App

theorem step_app {ops : Array Oper} {o : Oper} {a : Act} {w : World} {K : Act → World → Prop} {Q : Exit → Act → World → Prop} {E : Prop}
    (hgd : o.guard = none) (s x : Operand) (hop : o.op = .call { callee := .builtin .append, args := #[s, x], argTypes := #[22, 22] })
    (base g n cap : Nat) (l y : List Int) (hs : a.eval s = .slice (some ⟨g, 0, none⟩) n cap) (hn : n = l.length) (hrow : Row w g cap l) (hbg : base ≤ g)
    (ad : Addr) (m c : Nat) (hx : a.eval x = .slice (some ad) m c) (hm : m = y.length) (hrd : Rd w (some ad) y) (hsum : l.length + y.length ≤ 100000000)
    (hK : ∀ g' cap' w', Row w' g' cap' (l ++ y) → base ≤ g' → g' < w'.heap.size → w.grownBy w' (some g) → K (a.put o.dst (.slice (some ⟨g', 0, none⟩) (n + m) cap')) w') :
    if Region.wanted o (yielded ops a.tmps) = true then Oper.wp Try.prog o a w K Q else E := by
  have hw : Region.wanted o (yielded ops a.tmps) = true := by simp [Region.wanted, hgd]
  rw [if_pos hw]
  obtain ⟨i0, hi, hz0, hz1, hz2⟩ := info_parts info8
  subst hn hm
  have hlt := hrow.lt
  refine wp_append_own w s x 22 hop base 5 i0 (.int .u8 0) 1 1 Try.underlying22 hi hz0 hz1 hz2 rfl (by decide) _ _ _ hs (hrow.owns hbg) ad y.length c (y.map (Value.int .u8)) hx (by simp) (Rd.cells hrd) (ints_oneCell _ _) (by unfold maxLen; omega) (by omega) (by omega) ?_
  intro v' w' hown hgr hiff
  rcases hown.2 with ⟨hv, _⟩ | ⟨g', cap', cur, rfl, hb, hg', _⟩
  · exact absurd (hiff.1 hv).1 (by simp)
  · rw [← List.map_append] at hown
    obtain ⟨r1, r2, _, r4⟩ := Row.of hown
    exact hK g' cap' w' r1 r2 r4 hgr

/-- A number's digit, as a byte. -/
def hexDig (i : Int) : Int := if i < 10 then 48 + i else 87 + i
theorem hexDig_bd (i : Int) (h0 : 0 ≤ i) (h1 : i ≤ 15) : 0 ≤ hexDig i ∧ hexDig i ≤ 255 := by unfold hexDig; split <;> omega
theorem digit_at (i : Int) (h0 : 0 ≤ i) (h1 : i ≤ 15) (w : World) :
    (Instr.index 9 (.string ⟨#[48, 49, 50, 51, 52, 53, 54, 55, 56, 57, 97, 98, 99, 100, 101, 102]⟩) (.int .u8 i)).run Try.prog w = .ok (.int .u8 (hexDig i)) w := by
  rcases (show i = 0 ∨ i = 1 ∨ i = 2 ∨ i = 3 ∨ i = 4 ∨ i = 5 ∨ i = 6 ∨ i = 7 ∨ i = 8 ∨ i = 9 ∨ i = 10 ∨ i = 11 ∨ i = 12 ∨ i = 13 ∨ i = 14 ∨ i = 15 by omega) with rfl | rfl | rfl | rfl | rfl | rfl | rfl | rfl | rfl | rfl | rfl | rfl | rfl | rfl | rfl | rfl <;> kernel_rfl
theorem and15 (z : Int) (h0 : 0 ≤ z) (h1 : z ≤ 255) : bits .and .u8 z 15 = z % 16 := by
  rw [u8_and z 15 h0 (by omega) (by omega) (by omega)]
  have := nat_mask4 z.toNat
  rw [show (15 : Int).toNat = 15 from rfl, this]
  omega

/-- The digits of bytes, two a byte. -/
def hexOf (l : List Int) : List Int := l.flatMap fun z => [hexDig (z / 16), hexDig (z % 16)]
theorem hexOf_length (l : List Int) : (hexOf l).length = 2 * l.length := by
  induction l with
  | nil => rfl
  | cons z r ih => simp [hexOf] at ih ⊢; omega
theorem hexOf_snoc (l : List Int) (k : Nat) (h : k < l.length) : hexOf (l.take (k + 1)) = hexOf (l.take k) ++ [hexDig (l.getD k 0 / 16), hexDig (l.getD k 0 % 16)] := by
  unfold hexOf
  rw [List.take_succ_eq_append_getElem h, List.flatMap_append]
  simp [List.getD, h, -List.take_append_getElem]
theorem rd_heap {w w' : World} {a : Option Addr} {l : List Int} (h : Rd w a l) (e : w'.heap = w.heap) : Rd w' a l := by
  intro i hi
  obtain ⟨b, off, h1, h2, h3⟩ := h i hi
  exact ⟨b, off, h1, by rw [e]; exact h2, by rw [World.cell?_of_block (w := w) (by rw [e])]; exact h3⟩

set_option maxHeartbeats 1600000 in
theorem implHexText (a : Option Addr) (len cap : Nat) (l : List Int) (w : World) (hl : len = l.length) (hr : Rd w a l) (hb : Bytes l) (hlen : len ≤ 2097152) :
    Calls Try.prog 26 #[.slice a len cap] w fun e w' => e = .returned (.string (strOfNums (hexOf l))) ∧ Below w.heap.size w w' := by
  obtain ⟨i0, hi, hz0, hz1, hz2⟩ := info_parts info8
  have HR : Hid (Rd w a l) := hr
  have HB : Hid (Bytes l) := hb
  have HL : Hid (len = l.length) := hl
  clear hr hb hl
  go_enter Try.func26, Try.ntmps26
  go_wp2_with (at_make; refine wpList_make_own _ rfl _ _ 22 rfl w.heap.size 5 i0 (.int .u8 0) 1 Try.underlying22 hi hz0 hz1 _ _ _ (2 * len) rfl rfl (by omega) (by rw [hz2]; omega) (by unfold maxLen; omega) (Nat.le_refl _) ?_; intro w1 hown hgr; have B1 : Hid (Below w.heap.size w w1) := (Below.refl _ _).grown hgr (Nat.le_refl _) (fun k h => by cases h); have R1 : Hid (Row w1 w.heap.size (2 * len) []) := (Row.of (l := []) hown).1; clear hown hgr)
  go_loopw [3, 12] (fun v i wr => ∃ (k g c : Nat), k ≤ len ∧ i = .int .i64 k ∧ v = .slice (some ⟨g, 0, none⟩) (2 * k) c ∧ w.heap.size ≤ g ∧ Row wr g c (hexOf (l.take k)) ∧ Below w.heap.size w wr)
    (fun _ i _ => len - (intOf i).toNat)
  case atStart => exact ⟨0, w.heap.size, 2 * len, Nat.zero_le _, rfl, rfl, Nat.le_refl _, R1.out, B1.out⟩
  case round =>
    obtain ⟨k, g, c, hk, rfl, rfl, hg, hrow, hbe⟩ := hrel
    clear R1 B1 hi hz0 hz1 hz2 i0
    have HRow : Hid (Row wr g c (hexOf (l.take k))) := hrow
    have HBe : Hid (Below w.heap.size w wr) := hbe
    clear hrow hbe
    by_cases hlt : k < len
    · have hkl : k < l.length := by have := HL.out; omega
      obtain ⟨b, off, rfl, hbl, hc0⟩ := HR.out k hkl
      have hc : wr.cell? ⟨b, off + k, none⟩ = some (.int .u8 (l.getD k 0)) := by rw [HBe.out.cell hbl]; exact hc0
      have hz := HB.out.at k
      have HS : Hid (hexOf (l.take (k + 1)) = hexOf (l.take k) ++ [hexDig (l.getD k 0 / 16), hexDig (l.getD k 0 % 16)]) := hexOf_snoc l k hkl
      have HN : Hid (2 * k = (hexOf (l.take k)).length) := by show _ = _; rw [hexOf_length, List.length_take]; omega
      clear hc0 hkl
      generalize l.getD k 0 = z at *
      obtain ⟨z0, z1⟩ := hz
      have ha := and15 z z0 z1
      have d1 := digit_at (z / 16) (by omega) (by omega)
      have d2 := digit_at (z % 16) (by omega) (by omega)
      go_wp2_with fail
      go_region_law (refine step_app rfl (.tmp 16) (.tmp 23) rfl w.heap.size g (2 * k) c (hexOf (l.take k)) [hexDig (z / 16), hexDig (z % 16)] (by simp [Act.eval]) HN.out (by exact (row_alloc HRow.out (.cells #[.int .u8 (hexDig (z / 16)), .int .u8 (hexDig (z % 16))] 5)).keep rfl) hg ⟨wr.heap.size, 0, none⟩ 2 2 (by simp [Act.eval]) rfl (by exact rd_heap (rd_two wr _ _) rfl) (by rw [← HN.out]; simp; omega) ?_; intro g2 c2 w2 r2 b2 l2 gr2; have R2 : Hid (Row w2 g2 c2 (hexOf (l.take k) ++ [hexDig (z / 16), hexDig (z % 16)])) := r2; have B2 : Hid (Below w.heap.size w w2) := Below.grown (((HBe.out.alloc HBe.out.size (.cells #[.int .u8 (hexDig (z / 16)), .int .u8 (hexDig (z % 16))] 5))).drew) gr2 (Nat.le_trans HBe.out.size (by simp)) (fun k h => by cases h; exact hg); clear r2 gr2 l2)
      all_goals
        go_wp2
        go_roundw
        case rel => exact ⟨k + 1, g2, c2, by omega, by go_num, by rw [show 2 * (k + 1) = 2 * k + 2 by omega], b2, by rw [HS.out]; exact R2.out, B2.out⟩
        case measure => simp [intOf]; omega
    · obtain rfl : k = len := by omega
      have HN : Hid ((hexOf (l.take k)).length = 2 * k) := by show _ = _; rw [hexOf_length, List.length_take]; have := HL.out; omega
      have HT : Hid (l.take k = l) := List.take_of_length_le (by have := HL.out; omega)
      have hcv := run_convert_bytes_arg (P := Try.prog) wr 22 5 Try.underlying22 Try.underlying5 g 0 (2 * k) c (hexOf (l.take k)) HN.out (fun i hi => by rw [Nat.zero_add]; exact HRow.out.cell i (by rw [HN.out]; exact hi)) 9 Try.underlying9
      rw [HT.out] at hcv
      go_wp2
      go_ret
      exact ⟨rfl, HBe.out⟩

set_option maxHeartbeats 1600000 in
theorem specHexText (a : Option Addr) (len cap : Nat) (l : List Int) (w : World) (hl : len = l.length) (hr : Rd w a l) (hb : Bytes l) (hlen : len ≤ 2097152) :
    Calls Try.prog 40 #[.slice a len cap] w fun e w' => e = .returned (.string (strOfNums (hexOf l))) ∧ Below w.heap.size w w' := by
  have HR : Hid (Rd w a l) := hr
  have HB : Hid (Bytes l) := hb
  have HL : Hid (len = l.length) := hl
  clear hr hb hl
  go_enter Try.func40, Try.ntmps40
  go_wp2
  go_loopw [3, 4] (fun v i wr => ∃ (k g c : Nat), k ≤ len ∧ i = .int .i64 k ∧ v = .slice (some ⟨g, 0, none⟩) (2 * k) c ∧ w.heap.size ≤ g ∧ Row wr g c (hexOf (l.take k)) ∧ Below w.heap.size w wr)
    (fun _ i _ => len - (intOf i).toNat)
  case atStart => exact ⟨0, w.heap.size, 0, Nat.zero_le _, rfl, rfl, Nat.le_refl _, row_new w [] (by simp), (Below.refl _ _).alloc (Nat.le_refl _) _⟩
  case round =>
    obtain ⟨k, g, c, hk, rfl, rfl, hg, hrow, hbe⟩ := hrel
    have HRow : Hid (Row wr g c (hexOf (l.take k))) := hrow
    have HBe : Hid (Below w.heap.size w wr) := hbe
    clear hrow hbe
    by_cases hlt : k < len
    · have hkl : k < l.length := by have := HL.out; omega
      obtain ⟨b, off, rfl, hbl, hc0⟩ := HR.out k hkl
      have hc : wr.cell? ⟨b, off + k, none⟩ = some (.int .u8 (l.getD k 0)) := by rw [HBe.out.cell hbl]; exact hc0
      have hz := HB.out.at k
      have HS : Hid (hexOf (l.take (k + 1)) = hexOf (l.take k) ++ [hexDig (l.getD k 0 / 16), hexDig (l.getD k 0 % 16)]) := hexOf_snoc l k hkl
      have HN : Hid (2 * k = (hexOf (l.take k)).length) := by show _ = _; rw [hexOf_length, List.length_take]; omega
      clear hc0 hkl
      generalize l.getD k 0 = z at *
      obtain ⟨z0, z1⟩ := hz
      have ha := and15 z z0 z1
      have d1 := digit_at (z / 16) (by omega) (by omega)
      have d2 := digit_at (z % 16) (by omega) (by omega)
      have hkI : (k : Int) < (len : Int) := by omega
      go_wp2_with fail
      go_region_law (refine step_app rfl (.tmp 12) (.tmp 25) rfl w.heap.size g (2 * k) c (hexOf (l.take k)) [hexDig (z / 16), hexDig (z % 16)] (by simp [Act.eval]) HN.out (by exact (row_alloc HRow.out (.cells #[.int .u8 (hexDig (z / 16)), .int .u8 (hexDig (z % 16))] 5)).keep rfl) hg ⟨wr.heap.size, 0, none⟩ 2 2 (by simp [Act.eval]) rfl (by exact rd_heap (rd_two wr _ _) rfl) (by rw [← HN.out]; simp; omega) ?_; intro g2 c2 w2 r2 b2 l2 gr2; have R2 : Hid (Row w2 g2 c2 (hexOf (l.take k) ++ [hexDig (z / 16), hexDig (z % 16)])) := r2; have B2 : Hid (Below w.heap.size w w2) := Below.grown (((HBe.out.alloc HBe.out.size (.cells #[.int .u8 (hexDig (z / 16)), .int .u8 (hexDig (z % 16))] 5))).drew) gr2 (Nat.le_trans HBe.out.size (by simp)) (fun k h => by cases h; exact hg); clear r2 gr2 l2)
      all_goals
        go_wp2
        go_roundw
        case rel => exact ⟨k + 1, g2, c2, by omega, by go_num, by rw [show 2 * (k + 1) = 2 * k + 2 by omega], b2, by rw [HS.out]; exact R2.out, B2.out⟩
        case measure => simp [intOf]; omega
    · obtain rfl : k = len := by omega
      have HN : Hid ((hexOf (l.take k)).length = 2 * k) := by show _ = _; rw [hexOf_length, List.length_take]; have := HL.out; omega
      have HT : Hid (l.take k = l) := List.take_of_length_le (by have := HL.out; omega)
      have hcv := run_convert_bytes_arg (P := Try.prog) wr 22 5 Try.underlying22 Try.underlying5 g 0 (2 * k) c (hexOf (l.take k)) HN.out (fun i hi => by rw [Nat.zero_add]; exact HRow.out.cell i (by rw [HN.out]; exact hi)) 9 Try.underlying9
      rw [HT.out] at hcv
      go_wp2
      go_ret
      exact ⟨rfl, HBe.out⟩
end Go.Proofs.Ytdfjpmldcbbmkaa.HexT

/-
  What impl's and spec's ParseHex answer at every string: the same bytes, in new memory, and the same word on whether they were read.
-/
import Derived.Test.YtdfjpmldcbbmkaaApp
import Derived.Laws.BitsAllLaws
import Derived.Lib.OthersKept
namespace Go.Proofs.Ytdfjpmldcbbmkaa.Parse
open Go.RowKit Go.Proofs.Ytdfjpmldcbbmkaa.Mem Go.Proofs.Ytdfjpmldcbbmkaa.App

/-- A digit's number; below 0 where it is none. -/
def digV (z : Int) : Int := if 48 ≤ z ∧ z ≤ 57 then z - 48 else if 97 ≤ z ∧ z ≤ 102 then z - 87 else -1
theorem digV_bd (z : Int) : -1 ≤ digV z ∧ digV z ≤ 15 := by unfold digV; repeat' split <;> omega
theorem digV_high (z : Int) (h : 128 ≤ z) : digV z = -1 := by unfold digV; rw [if_neg (by omega), if_neg (by omega)]

/-- A string's bytes as numbers. -/
def bs (s : ByteArray) : List Int := s.data.toList.map fun b => (b.toNat : Int)
theorem bs_length (s : ByteArray) : (bs s).length = s.size := by
  unfold bs; rw [List.length_map, Array.length_toList]; rfl
theorem bs_getD (s : ByteArray) (k : Nat) (h : k < s.size) : (bs s).getD k 0 = ((s[k]'h).toNat : Int) := by
  have h' : k < s.data.size := h
  simp only [bs, List.getD, List.getElem?_map, Array.getElem?_toList, Array.getElem?_eq_getElem h', Option.map_some, Option.getD_some]
  rfl
theorem bs_bytes (s : ByteArray) : Bytes (bs s) := by
  intro z hz
  simp only [bs, List.mem_map] at hz
  obtain ⟨b, _, rfl⟩ := hz
  have := b.toNat_lt
  omega

def pairsTo (b : List Int) (j : Nat) : List Int := (List.range j).map fun i => 16 * digV (b.getD (2 * i) 0) + digV (b.getD (2 * i + 1) 0)
theorem pairsTo_length (b : List Int) (j : Nat) : (pairsTo b j).length = j := by simp [pairsTo]
theorem pairsTo_succ (b : List Int) (j : Nat) : pairsTo b (j + 1) = pairsTo b j ++ [16 * digV (b.getD (2 * j) 0) + digV (b.getD (2 * j + 1) 0)] := by simp [pairsTo, List.range_succ]
def good (b : List Int) : Bool := decide (b.length % 2 = 0 ∧ b.length ≤ 400 ∧ ∀ i, i < b.length → 0 ≤ digV (b.getD i 0))
def parsed (b : List Int) : List Int := if good b = true then pairsTo b (b.length / 2) else []
theorem parsed_length (b : List Int) : (parsed b).length ≤ 200 := by
  unfold parsed; split
  · rename_i h
    have : b.length % 2 = 0 ∧ b.length ≤ 400 ∧ ∀ i, i < b.length → 0 ≤ digV (b.getD i 0) := by simpa [good] using h
    rw [pairsTo_length]; omega
  · simp
theorem good_yes {b : List Int} (h1 : b.length % 2 = 0) (h2 : b.length ≤ 400) (h3 : ∀ i, i < b.length → 0 ≤ digV (b.getD i 0)) : good b = true := by
  unfold good; exact decide_eq_true ⟨h1, h2, h3⟩
theorem good_no {b : List Int} (h : b.length % 2 = 1 ∨ 400 < b.length ∨ ∃ i, i < b.length ∧ digV (b.getD i 0) < 0) : good b = false := by
  unfold good
  refine decide_eq_false ?_
  rintro ⟨h1, h2, h3⟩
  rcases h with h | h | ⟨i, hi, hd⟩
  · omega
  · omega
  · have := h3 i hi; omega
theorem parsed_no {b : List Int} (h : good b = false) : parsed b = [] := by unfold parsed; rw [if_neg (by simp [h])]
theorem parsed_yes {b : List Int} (h : good b = true) : parsed b = pairsTo b (b.length / 2) := by unfold parsed; rw [if_pos h]

theorem l1Digit (z : Int) (h0 : 0 ≤ z) (h1 : z ≤ 255) (w : World) :
    Calls Try.prog 55 #[.int .u8 z] w fun e w' => e = .returned (.int .i64 (digV z)) ∧ w = w' := by
  rcases (show z < 48 ∨ (48 ≤ z ∧ z ≤ 57) ∨ (57 < z ∧ z < 97) ∨ (97 ≤ z ∧ z ≤ 102) ∨ 102 < z by omega) with h | ⟨h, h'⟩ | ⟨h, h'⟩ | ⟨h, h'⟩ | h
  · have H : Hid (digV z = -1) := by show _ = _; unfold digV; rw [if_neg (by omega), if_neg (by omega)]
    go_enter Try.func55, Try.ntmps55
    go_wp2
    go_ret
    exact ⟨by rw [H.out]; rfl, rfl⟩
  · have H : Hid (digV z = z - 48) := by show _ = _; unfold digV; rw [if_pos ⟨h, h'⟩]
    go_enter Try.func55, Try.ntmps55
    go_wp2
    go_ret
    exact ⟨by rw [H.out]; rfl, rfl⟩
  · have H : Hid (digV z = -1) := by show _ = _; unfold digV; rw [if_neg (by omega), if_neg (by omega)]
    go_enter Try.func55, Try.ntmps55
    go_wp2
    go_ret
    exact ⟨by rw [H.out]; rfl, rfl⟩
  · have H : Hid (digV z = z - 97 + 10) := by show _ = _; unfold digV; rw [if_neg (by omega), if_pos ⟨h, h'⟩]; omega
    have h48 : 57 < z := by omega
    go_enter Try.func55, Try.ntmps55
    go_wp2
    go_ret
    exact ⟨by rw [H.out]; rfl, rfl⟩
  · have H : Hid (digV z = -1) := by show _ = _; unfold digV; rw [if_neg (by omega), if_neg (by omega)]
    have h48 : 57 < z := by omega
    go_enter Try.func55, Try.ntmps55
    go_wp2
    go_ret
    exact ⟨by rw [H.out]; rfl, rfl⟩

theorem digit_no (z : Int) (h0 : 0 ≤ z) (h1 : z ≤ 2147483647) (hd : digV z < 0) (w : World) :
    Calls Try.prog 53 #[.int .i32 z] w fun e w' => e = .returned (.tuple #[.int .i64 0, .bool false]) ∧ w = w' := by
  have hc : z < 48 ∨ (57 < z ∧ z < 97) ∨ 102 < z := by
    unfold digV at hd
    split at hd
    · omega
    · split at hd <;> omega
  clear hd
  rcases hc with h | ⟨h, h'⟩ | h
  · go_enter Try.func53, Try.ntmps53
    go_wp2
    go_ret2
    exact ⟨rfl, rfl⟩
  · go_enter Try.func53, Try.ntmps53
    go_wp2
    go_ret2
    exact ⟨rfl, rfl⟩
  · have h48 : 57 < z := by omega
    go_enter Try.func53, Try.ntmps53
    go_wp2
    go_ret2
    exact ⟨rfl, rfl⟩

theorem digit_yes (z : Int) (hd : 0 ≤ digV z) (w : World) :
    Calls Try.prog 53 #[.int .i32 z] w fun e w' => e = .returned (.tuple #[.int .i64 (digV z), .bool true]) ∧ w = w' := by
  have hc : (48 ≤ z ∧ z ≤ 57) ∨ (97 ≤ z ∧ z ≤ 102) := by
    unfold digV at hd
    split at hd
    · omega
    · split at hd <;> omega
  clear hd
  rcases hc with ⟨h, h'⟩ | ⟨h, h'⟩
  · have H : Hid (digV z = z - 48) := by show _ = _; unfold digV; rw [if_pos ⟨h, h'⟩]
    go_enter Try.func53, Try.ntmps53
    go_wp2
    go_ret2
    exact ⟨by rw [H.out]; rfl, rfl⟩
  · have H : Hid (digV z = z - 97 + 10) := by show _ = _; unfold digV; rw [if_neg (by omega), if_pos ⟨h, h'⟩]; omega
    have h48 : 57 < z := by omega
    go_enter Try.func53, Try.ntmps53
    go_wp2
    go_ret2
    exact ⟨by rw [H.out]; rfl, rfl⟩

set_option maxHeartbeats 1600000 in
theorem specParseHex (s : ByteArray) (w : World) (hs : s.size ≤ 1048576) :
    Calls Try.prog 29 #[.string s] w fun e w' =>
      ∃ g m c, e = .returned (.tuple #[.slice (some ⟨g, 0, none⟩) m c, .bool (good (bs s))]) ∧ m = (parsed (bs s)).length ∧ w.heap.size ≤ g ∧ Row w' g c (parsed (bs s)) ∧ Below w.heap.size w w' := by
  have HA : Hid (Below w.heap.size w (w.alloc (.cells #[] 5))) := (Below.refl _ _).alloc (Nat.le_refl _) _
  have HL : Hid ((bs s).length = s.size) := bs_length s
  by_cases h1 : s.size % 2 = 1
  · have HG : Hid (good (bs s) = false) := good_no (.inl (by rw [HL.out]; exact h1))
    have t1 : (((s.size : Int) % 2) != 0) = true := by rw [bne_iff_ne]; omega
    clear h1
    go_enter Try.func29, Try.ntmps29
    go_wp2
    go_ret2
    exact ⟨w.heap.size, 0, 0, by rw [HG.out]; rfl, by rw [parsed_no HG.out]; rfl, Nat.le_refl _, by rw [parsed_no HG.out]; exact row_new w [] (by simp), HA.out⟩
  · have t1 : (((s.size : Int) % 2) != 0) = false := by rw [bne_eq_false_iff_eq]; omega
    by_cases h2 : 400 < s.size
    · have HG : Hid (good (bs s) = false) := good_no (.inr (.inl (by rw [HL.out]; exact h2)))
      clear h1
      go_enter Try.func29, Try.ntmps29
      go_wp2
      go_ret2
      exact ⟨w.heap.size, 0, 0, by rw [HG.out]; rfl, by rw [parsed_no HG.out]; rfl, Nat.le_refl _, by rw [parsed_no HG.out]; exact row_new w [] (by simp), HA.out⟩
    · obtain ⟨n, hn⟩ : ∃ n, s.size = 2 * n := ⟨s.size / 2, by omega⟩
      have HN : Hid (s.size = 2 * n) := hn
      have n1 : n ≤ 200 := by omega
      have n2 : 2 * n ≤ s.size := by omega
      have n3 : s.size ≤ 2 * n := by omega
      have n4 : s.size ≤ 400 := by omega
      clear hn h1 h2
      go_enter Try.func29, Try.ntmps29
      go_wp2
      go_loopw [4, 5] (fun v i wr => ∃ (k g c : Nat), k ≤ n ∧ i = .int .i64 (2 * k) ∧ (∀ j, j < 2 * k → 0 ≤ digV ((bs s).getD j 0)) ∧ v = .slice (some ⟨g, 0, none⟩) k c ∧ w.heap.size ≤ g ∧ Row wr g c (pairsTo (bs s) k) ∧ Below w.heap.size w wr)
        (fun _ i _ => s.size - (intOf i).toNat)
      case atStart => exact ⟨0, w.heap.size, 0, Nat.zero_le _, rfl, by intro j hj; omega, rfl, Nat.le_refl _, row_new w [] (by simp), HA.out⟩
      case round =>
        obtain ⟨k, g, c, hk, rfl, hd, rfl, hg, hrow, hbe⟩ := hrel
        have HRow : Hid (Row wr g c (pairsTo (bs s) k)) := hrow
        have HBe : Hid (Below w.heap.size w wr) := hbe
        have HD : Hid (∀ j, j < 2 * k → 0 ≤ digV ((bs s).getD j 0)) := hd
        clear hrow hbe hd
        by_cases hlt : k < n
        · have i1 : 2 * k < s.size := by omega
          have i2 : 2 * k + 1 < s.size := by omega
          have g1 := bs_getD s (2 * k) i1
          have g2 := bs_getD s (2 * k + 1) i2
          have G1 : Hid ((bs s).getD (2 * k) 0 = ((s[2 * k]'i1).toNat : Int)) := g1
          have G2 : Hid ((bs s).getD (2 * k + 1) 0 = ((s[2 * k + 1]'i2).toNat : Int)) := g2
          clear g1 g2
          have b1 := (s[2 * k]'i1).toNat_lt
          have b2 := (s[2 * k + 1]'i2).toNat_lt
          have e1 := digV_bd ((s[2 * k]'i1).toNat : Int)
          have e2 := digV_bd ((s[2 * k + 1]'i2).toNat : Int)
          have C1 := fun w => l1Digit ((s[2 * k]'i1).toNat : Int) (by omega) (by omega) w
          have C2 := fun w => l1Digit ((s[2 * k + 1]'i2).toNat : Int) (by omega) (by omega) w
          generalize hv1 : digV ((s[2 * k]'i1).toNat : Int) = d1 at *
          generalize hv2 : digV ((s[2 * k + 1]'i2).toNat : Int) = d2 at *
          have V1 : Hid (digV ((bs s).getD (2 * k) 0) = d1) := by show _ = _; rw [G1.out]; exact hv1
          have V2 : Hid (digV ((bs s).getD (2 * k + 1) 0) = d2) := by show _ = _; rw [G2.out]; exact hv2
          have K1 : Hid (∀ w : World, Calls Try.prog 55 #[.int .u8 ((s[2 * k]'i1).toNat : Int)] w fun e w' => e = .returned (.int .i64 d1) ∧ w = w') := C1
          have K2 : Hid (∀ w : World, Calls Try.prog 55 #[.int .u8 ((s[2 * k + 1]'i2).toNat : Int)] w fun e w' => e = .returned (.int .i64 d2) ∧ w = w') := C2
          clear C1 C2 hv1 hv2 G1 G2
          obtain ⟨e11, e12⟩ := e1
          obtain ⟨e21, e22⟩ := e2
          by_cases p1 : d1 < 0
          · have HG : Hid (good (bs s) = false) := good_no (.inr (.inr ⟨2 * k, by rw [HL.out]; exact i1, by rw [V1.out]; exact p1⟩))
            go_wp2_with fail
            refine (K1.out _).mono ?_
            rintro e w1 ⟨rfl, rfl⟩
            go_wp2_with fail
            refine (K2.out _).mono ?_
            rintro e w1 ⟨rfl, rfl⟩
            go_wp2
            go_ret2
            exact ⟨wr.heap.size, 0, 0, by rw [HG.out]; rfl, by rw [parsed_no HG.out]; rfl, HBe.out.size, by rw [parsed_no HG.out]; exact row_new wr [] (by simp), HBe.out.alloc HBe.out.size _⟩
          · by_cases p2 : d2 < 0
            · have HG : Hid (good (bs s) = false) := good_no (.inr (.inr ⟨2 * k + 1, by rw [HL.out]; exact i2, by rw [V2.out]; exact p2⟩))
              go_wp2_with fail
              refine (K1.out _).mono ?_
              rintro e w1 ⟨rfl, rfl⟩
              go_wp2_with fail
              refine (K2.out _).mono ?_
              rintro e w1 ⟨rfl, rfl⟩
              go_wp2
              go_ret2
              exact ⟨wr.heap.size, 0, 0, by rw [HG.out]; rfl, by rw [parsed_no HG.out]; rfl, HBe.out.size, by rw [parsed_no HG.out]; exact row_new wr [] (by simp), HBe.out.alloc HBe.out.size _⟩
            · have HP : Hid (pairsTo (bs s) (k + 1) = pairsTo (bs s) k ++ [16 * d1 + d2]) := by show _ = _; rw [pairsTo_succ, V1.out, V2.out]
              have HPL : Hid (k = (pairsTo (bs s) k).length) := (pairsTo_length _ _).symm
              have HD2 : Hid (∀ j, j < 2 * (k + 1) → 0 ≤ digV ((bs s).getD j 0)) := by
                intro j hj
                rcases (show j < 2 * k ∨ j = 2 * k ∨ j = 2 * k + 1 by omega) with h | rfl | rfl
                · exact HD.out j h
                · rw [V1.out]; omega
                · rw [V2.out]; omega
              go_wp2_with fail
              refine (K1.out _).mono ?_
              rintro e w1 ⟨rfl, rfl⟩
              go_wp2_with fail
              refine (K2.out _).mono ?_
              rintro e w1 ⟨rfl, rfl⟩
              go_wp2_with (at_builtin; refine wpList_app _ rfl (.tmp 41) (.tmp 47) rfl w.heap.size g k c (pairsTo (bs s) k) [16 * d1 + d2] rfl HPL.out (row_alloc HRow.out _) hg (some ⟨wr.heap.size, 0, none⟩) 1 1 rfl rfl (rd_one _ _) (by intro h; cases h) (by rw [← HPL.out]; simp; omega) ?_; intro g2 c2 w2 r2 bb2 l2 gr2; have R2 : Hid (Row w2 g2 c2 (pairsTo (bs s) k ++ [16 * d1 + d2])) := r2; have B2 : Hid (Below w.heap.size w w2) := (HBe.out.alloc HBe.out.size _).grown gr2 (Nat.le_trans HBe.out.size (by simp)) (fun k h => by cases h; exact hg); clear r2 gr2 l2)
              go_roundw
              case rel => exact ⟨k + 1, g2, c2, by omega, by go_num, HD2.out, rfl, bb2, by rw [HP.out]; exact R2.out, B2.out⟩
              case measure => simp [intOf]; omega
        · obtain rfl : k = n := by omega
          have HG : Hid (good (bs s) = true) := good_yes (by rw [HL.out, HN.out]; omega) (by rw [HL.out]; exact n4) (by rw [HL.out, HN.out]; exact HD.out)
          have HP : Hid (parsed (bs s) = pairsTo (bs s) k) := by show _ = _; rw [parsed_yes HG.out, HL.out, HN.out, Nat.mul_div_cancel_left _ (by decide)]
          have hge : ¬ (2 * (k : Int) < (s.size : Int)) := by omega
          go_wp2
          go_ret2
          exact ⟨g, k, c, by rw [HG.out]; rfl, by rw [HP.out, pairsTo_length], hg, by rw [HP.out]; exact HRow.out, HBe.out⟩
end Go.Proofs.Ytdfjpmldcbbmkaa.Parse

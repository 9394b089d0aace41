/-
  What impl's ParseHex answers at every string: the bytes that spec's ParseHex answers, and the same word on whether they were read.
-/
import Derived.Test.YtdfjpmldcbbmkaaParse
namespace Go.Proofs.Ytdfjpmldcbbmkaa.Parse
open Go.RowKit Go.Proofs.Ytdfjpmldcbbmkaa.Mem Go.Proofs.Ytdfjpmldcbbmkaa.App

theorem or_digit (h d : Int) (h0 : 0 ≤ h) (h1 : h ≤ 15) (d0 : 0 ≤ d) (d1 : d ≤ 15) : bits .or .i64 (h * 16) d = h * 16 + d := by
  obtain ⟨N, rfl⟩ := Int.eq_ofNat_of_zero_le h0
  obtain ⟨Z, rfl⟩ := Int.eq_ofNat_of_zero_le d0
  have := Bits.or_i64 (N * 16) Z (by omega) (by omega)
  rw [nat_join 4 (N * 16) Z (by omega) (by omega)] at this
  rw [show (N : Int) * 16 = ((N * 16 : Nat) : Int) by omega, this]
  omega
theorem row_iter {w : World} {g c : Nat} {l : List Int} (h : Row w g c l) {k : Nat} {s : ByteArray} {p : Nat} (hk : w.heap[k]? = some (.stringIter s p)) (p' : Nat) : Row (w.iterAt k s p') g c l := by
  refine h.keep (Lib.iterAt_other w k g s p' ?_)
  rintro rfl
  obtain ⟨_, _, cur, hc, _⟩ := h
  rw [hk] at hc
  cases hc

theorem row_ne_iter {w : World} {g c : Nat} {l : List Int} (h : Row w g c l) {k : Nat} {s : ByteArray} {p : Nat} (hk : w.heap[k]? = some (.stringIter s p)) : g ≠ k := by
  rintro rfl
  obtain ⟨_, _, cur, hc, _⟩ := h
  rw [hk] at hc
  cases hc
theorem lt_of_iter {w : World} {k : Nat} {s : ByteArray} {p : Nat} (hk : w.heap[k]? = some (.stringIter s p)) : k < w.heap.size := (Array.getElem?_eq_some_iff.1 hk).1

set_option maxHeartbeats 1600000 in
theorem implParseHex (s : ByteArray) (w : World) (hs : s.size ≤ 1048576) :
    Calls Try.prog 27 #[.string s] w fun e w' =>
      ∃ g m c, e = .returned (.tuple #[.slice (some ⟨g, 0, none⟩) m c, .bool (good (bs s))]) ∧ m = (parsed (bs s)).length ∧ w.heap.size ≤ g ∧ Row w' g c (parsed (bs s)) ∧ Below w.heap.size w w' := by
  have HA : Hid (Below w.heap.size w (w.alloc (.cells #[] 5))) := (Below.refl _ _).alloc (Nat.le_refl _) _
  have HL : Hid ((bs s).length = s.size) := bs_length s
  by_cases h2 : 400 < s.size
  · have HG : Hid (good (bs s) = false) := good_no (.inr (.inl (by rw [HL.out]; exact h2)))
    go_enter Try.func27, Try.ntmps27
    go_wp2
    go_ret2
    exact ⟨w.heap.size, 0, 0, by rw [HG.out]; rfl, by rw [parsed_no HG.out]; rfl, Nat.le_refl _, by rw [parsed_no HG.out]; exact row_new w [] (by simp), HA.out⟩
  · by_cases h1 : s.size % 2 = 1
    · have HG : Hid (good (bs s) = false) := good_no (.inl (by rw [HL.out]; exact h1))
      have t1 : (((s.size : Int) % 2) != 0) = true := by rw [bne_iff_ne]; omega
      clear h1
      go_enter Try.func27, Try.ntmps27
      go_wp2
      go_ret2
      exact ⟨w.heap.size, 0, 0, by rw [HG.out]; rfl, by rw [parsed_no HG.out]; rfl, Nat.le_refl _, by rw [parsed_no HG.out]; exact row_new w [] (by simp), HA.out⟩
    · have t1 : (((s.size : Int) % 2) != 0) = false := by rw [bne_eq_false_iff_eq]; omega
      have HE : Hid (s.size % 2 = 0) := by show _ = _; omega
      have n4 : s.size ≤ 400 := by omega
      obtain ⟨i0, hi, hz0, hz1, hz2⟩ := info_parts info8
      clear h1 h2
      go_enter Try.func27, Try.ntmps27
      go_wp2_with (at_make; refine wpList_make_own _ rfl _ _ 22 rfl w.heap.size 5 i0 (.int .u8 0) 1 Try.underlying22 hi hz0 hz1 _ _ _ (s.size / 2) rfl rfl (by omega) (by rw [hz2]; omega) (by unfold maxLen; omega) (Nat.le_refl _) ?_; intro w1 hown hgr; have B1 : Hid (Below w.heap.size w w1) := (Below.refl _ _).grown hgr (Nat.le_refl _) (fun k h => by cases h); have R1 : Hid (Row w1 w.heap.size (s.size / 2) []) := (Row.of (l := []) hown).1; clear hown hgr)
      have hw1 := B1.out.size
      go_loopw [4, 5] (fun v h wr => ∃ (k g c : Nat) (hv : Int), k ≤ s.size ∧ wr.heap[w1.heap.size]? = some (.stringIter s k) ∧ (∀ j, j < k → 0 ≤ digV ((bs s).getD j 0)) ∧ v = .slice (some ⟨g, 0, none⟩) (k / 2) c ∧ w.heap.size ≤ g ∧ Row wr g c (pairsTo (bs s) (k / 2)) ∧ h = .int .i64 hv ∧ (k % 2 = 1 → hv = digV ((bs s).getD (k - 1) 0)) ∧ 0 ≤ hv ∧ hv ≤ 15 ∧ Below w.heap.size w wr)
        (fun _ _ wr => s.size - wr.iterPos w1.heap.size)
      case atStart => exact ⟨0, w.heap.size, s.size / 2, 0, Nat.zero_le _, World.iter_heap w1 s 0, by intro j hj; omega, rfl, Nat.le_refl _, row_alloc R1.out _, rfl, by omega, by omega, by omega, B1.out.alloc hw1 _⟩
      case round =>
        obtain ⟨k, g, c, hv, hk, hit, hd, rfl, hg, hrow, rfl, hodd, hv0, hv1, hbe⟩ := hrel
        have HRow : Hid (Row wr g c (pairsTo (bs s) (k / 2))) := hrow
        have HBe : Hid (Below w.heap.size w wr) := hbe
        have HD : Hid (∀ j, j < k → 0 ≤ digV ((bs s).getD j 0)) := hd
        have HO : Hid (k % 2 = 1 → hv = digV ((bs s).getD (k - 1) 0)) := hodd
        have HI : Hid (wr.heap[w1.heap.size]? = some (.stringIter s k)) := hit
        have HM : Hid (wr.iterPos w1.heap.size = k) := iterPos_of hit
        clear hrow hbe hd hodd hit R1 B1 HA
        by_cases hlt : k < s.size
        · have G1 : Hid ((bs s).getD k 0 = ((s[k]'hlt).toNat : Int)) := bs_getD s k hlt
          have b1 := (s[k]'hlt).toNat_lt
          by_cases hd0 : digV ((bs s).getD k 0) < 0
          · have HG : Hid (good (bs s) = false) := good_no (.inr (.inr ⟨k, by rw [HL.out]; exact hlt, hd0⟩))
            obtain ⟨r, q, hr, r0, r1, rd⟩ : ∃ (r : Int) (q : Nat), (∀ ty, (Instr.next (.pointer (some ⟨w1.heap.size, 0, none⟩)) true ty).run Try.prog wr = .ok (.tuple #[.bool true, .int .i64 k, .int .i32 r]) (wr.iterAt w1.heap.size s q)) ∧ 0 ≤ r ∧ r ≤ 2147483647 ∧ digV r < 0 := by
              by_cases ha : (s[k]'hlt).toNat < 128
              · exact ⟨_, _, fun ty => Lib.run_next_ascii_at wr _ s k ty HI.out hlt ha, by omega, by omega, by rw [← G1.out]; exact hd0⟩
              · have h1 := decode_high s k hlt (by omega)
                have h2 := decode_le s k
                exact ⟨_, _, fun ty => Lib.run_next_any_at wr _ s k ty HI.out hlt, by omega, by omega, by rw [digV_high _ (by omega)]; decide⟩
            have R0 : Hid (∀ w : World, Calls Try.prog 53 #[.int .i32 r] w fun e w' => e = .returned (.tuple #[.int .i64 0, .bool false]) ∧ w = w') := fun w => digit_no r r0 r1 rd w
            have HB2 : Hid (Below w.heap.size w (wr.iterAt w1.heap.size s q)) := Lib.below_iterAt HBe.out hw1 s q
            clear rd r0 r1 hd0 b1
            go_wp2_with fail
            refine (R0.out _).mono ?_
            rintro e w2 ⟨rfl, rfl⟩
            go_wp2
            go_ret2
            exact ⟨(wr.iterAt w1.heap.size s q).heap.size, 0, 0, by rw [HG.out]; rfl, by rw [parsed_no HG.out]; rfl, HB2.out.size, by rw [parsed_no HG.out]; exact row_new _ [] (by simp), HB2.out.alloc HB2.out.size _⟩
          · have ha : (s[k]'hlt).toNat < 128 := by
              rcases Nat.lt_or_ge (s[k]'hlt).toNat 128 with h | h
              · exact h
              · rw [G1.out, digV_high _ (by omega)] at hd0; omega
            have hnx := fun ty => Lib.run_next_ascii_at (P := Try.prog) wr w1.heap.size s k ty HI.out hlt ha
            have e1 := digV_bd ((s[k]'hlt).toNat : Int)
            have C1 := fun w => digit_yes ((s[k]'hlt).toNat : Int) (by rw [← G1.out]; omega) w
            generalize hv1' : digV ((s[k]'hlt).toNat : Int) = d1 at *
            have V1 : Hid (digV ((bs s).getD k 0) = d1) := by show _ = _; rw [G1.out]; exact hv1'
            have K1 : Hid (∀ w : World, Calls Try.prog 53 #[.int .i32 ((s[k]'hlt).toNat : Int)] w fun e w' => e = .returned (.tuple #[.int .i64 d1, .bool true]) ∧ w = w') := C1
            have p1 : 0 ≤ d1 := by have := V1.out; omega
            have p2 : d1 ≤ 15 := e1.2
            have HB2 : Hid (Below w.heap.size w (wr.iterAt w1.heap.size s (k + 1))) := Lib.below_iterAt HBe.out hw1 s (k + 1)
            have HI2 : Hid ((wr.iterAt w1.heap.size s (k + 1)).heap[w1.heap.size]? = some (.stringIter s (k + 1))) := Lib.iterAt_heap wr _ s k (k + 1) HI.out
            have HR2 : Hid (Row (wr.iterAt w1.heap.size s (k + 1)) g c (pairsTo (bs s) (k / 2))) := row_iter HRow.out HI.out (k + 1)
            have HD2 : Hid (∀ j, j < k + 1 → 0 ≤ digV ((bs s).getD j 0)) := by
              intro j hj
              rcases (show j < k ∨ j = k by omega) with h | rfl
              · exact HD.out j h
              · rw [V1.out]; exact p1
            clear C1 hv1' e1 hd0 G1 ha b1
            by_cases hev : k % 2 = 0
            · have t2 : (((k : Int) % 2) == 0) = true := by rw [beq_iff_eq]; omega
              have HE2 : Hid ((k + 1) / 2 = k / 2) := by show _ = _; omega
              have HM2 : Hid ((wr.iterAt w1.heap.size s (k + 1)).iterPos w1.heap.size = k + 1) := iterPos_of HI2.out
              clear hev
              go_wp2_with fail
              refine (K1.out _).mono ?_
              rintro e w2 ⟨rfl, rfl⟩
              go_wp2
              go_roundw
              case rel => exact ⟨k + 1, g, c, d1, by omega, HI2.out, HD2.out, by rw [HE2.out], hg, by rw [HE2.out]; exact HR2.out, rfl, fun _ => by rw [Nat.add_sub_cancel]; exact V1.out.symm, p1, p2, HB2.out⟩
              case measure => rw [HM2.out, HM.out]; omega
            · have t2 : (((k : Int) % 2) == 0) = false := by rw [beq_eq_false_iff_ne]; omega
              obtain ⟨j, hj⟩ : ∃ j, k = 2 * j + 1 := ⟨k / 2, by omega⟩
              have hor := or_digit hv d1 hv0 hv1 p1 p2
              have HP : Hid (pairsTo (bs s) ((k + 1) / 2) = pairsTo (bs s) (k / 2) ++ [hv * 16 + d1]) := by
                show _ = _
                have h1 := HO.out (by omega)
                have h2 := V1.out
                rw [show (k + 1) / 2 = j + 1 by omega, show k / 2 = j by omega, pairsTo_succ, ← show k = 2 * j + 1 from hj, h2]
                rw [h1, show k - 1 = 2 * j by omega, Int.mul_comm]
              have HPL : Hid (k / 2 = (pairsTo (bs s) (k / 2)).length) := (pairsTo_length _ _).symm
              have HE2 : Hid ((k + 1) / 2 = k / 2 + 1) := by show _ = _; omega
              have HQ2 : Hid (k % 2 = 1) := by show _ = _; omega
              clear hev hj
              go_wp2_with fail
              refine (K1.out _).mono ?_
              rintro e w2 ⟨rfl, rfl⟩
              go_wp2_with (at_builtin; refine wpList_app _ rfl (.tmp 42) (.tmp 48) rfl w.heap.size g (k / 2) c (pairsTo (bs s) (k / 2)) [hv * 16 + d1] rfl HPL.out (row_alloc HR2.out _) hg (some ⟨_, 0, none⟩) 1 1 rfl rfl (rd_one _ _) (by intro h; cases h) (by rw [← HPL.out]; simp; omega) ?_; intro g2 c2 w2 r2 bb2 l2 gr2)
              have R2 : Hid (Row w2 g2 c2 (pairsTo (bs s) (k / 2) ++ [hv * 16 + d1])) := r2
              have B2 : Hid (Below w.heap.size w w2) := Below.grown (HB2.out.alloc HB2.out.size _) gr2 (Nat.le_trans HB2.out.size (by simp)) (fun k h => by cases h; exact hg)
              have I2 : Hid (w2.heap[w1.heap.size]? = some (.stringIter s (k + 1))) := by
                have hlt2 := lt_of_iter HI2.out
                exact (gr2.block _ (by simp; omega) (by simp only [ne_eq, Option.some.injEq]; exact (row_ne_iter HR2.out HI2.out).symm)).trans ((Below.heap_alloc _ _ _ hlt2).trans HI2.out)
              have HM2 : Hid (w2.iterPos w1.heap.size = k + 1) := iterPos_of I2.out
              clear r2 gr2 l2
              go_roundw
              case rel => exact ⟨k + 1, g2, c2, hv, by omega, I2.out, HD2.out, by rw [HE2.out], bb2, by rw [HP.out]; exact R2.out, rfl, fun h => by have := HQ2.out; omega, hv0, hv1, B2.out⟩
              case measure => rw [HM2.out, HM.out]; omega
        · obtain rfl : k = s.size := by omega
          have HG : Hid (good (bs s) = true) := good_yes (by rw [HL.out]; exact HE.out) (by rw [HL.out]; exact n4) (by rw [HL.out]; exact HD.out)
          have HP : Hid (parsed (bs s) = pairsTo (bs s) (s.size / 2)) := by show _ = _; rw [parsed_yes HG.out, HL.out]
          have hnx := fun ty => Lib.run_next_end_at (P := Try.prog) wr w1.heap.size s s.size ty HI.out hlt
          go_wp2
          go_ret2
          exact ⟨g, s.size / 2, c, by rw [HG.out]; rfl, by rw [HP.out, pairsTo_length], hg, by rw [HP.out]; exact HRow.out, HBe.out⟩
end Go.Proofs.Ytdfjpmldcbbmkaa.Parse

/-
  What impl's and spec's Pad answer at every int: the same bytes, in new memory.
-/
import Derived.Test.YtpenhliaelhnoaaDoorShaP
import Derived.Test.YtpenhliaelhnoaaDoorBlk
namespace Go.Proofs.YtpenhliaelhnoaaDoor.Pads
open Go.RowKit Go.Proofs.YtpenhliaelhnoaaDoor.Mem Go.Proofs.YtpenhliaelhnoaaDoor.App Go.Proofs.YtpenhliaelhnoaaDoor.Get Go.Proofs.YtpenhliaelhnoaaDoor.ShaP

/-- Whether n may be a text's length. -/
def isLen (n : Int) : Bool := decide (0 ≤ n ∧ n ≤ 1048576)
set_option maxRecDepth 100000 in
theorem isLen_yes {n : Int} (h : 0 ≤ n ∧ n ≤ 1048576) : isLen n = true := by simpa [isLen] using h
set_option maxRecDepth 100000 in
theorem isLen_no {n : Int} (h : ¬ (0 ≤ n ∧ n ≤ 1048576)) : isLen n = false := by unfold isLen; exact decide_eq_false h

set_option maxRecDepth 100000 in
theorem isShaLength (n : Int) (w : World) :
    Calls Tryd.prog 64 #[.int .i64 n] w fun e w' => e = .returned (.bool (isLen n)) ∧ w = w' := by
  by_cases h1 : 0 ≤ n
  · by_cases h2 : n ≤ 1048576
    · have H : Hid (isLen n = true) := isLen_yes ⟨h1, h2⟩
      go_enter Tryd.func64, Tryd.ntmps64
      go_wp2
      go_ret
      exact ⟨by rw [H.out]; simp, rfl⟩
    · have H : Hid (isLen n = false) := isLen_no (by omega)
      go_enter Tryd.func64, Tryd.ntmps64
      go_wp2
      go_ret
      exact ⟨by rw [H.out]; simp, rfl⟩
  · have H : Hid (isLen n = false) := isLen_no (by omega)
    go_enter Tryd.func64, Tryd.ntmps64
    go_wp2
    go_ret
    exact ⟨by rw [H.out]; simp, rfl⟩

def padI (n : Int) : List Int := if 0 ≤ n ∧ n ≤ 1048576 then padOf n.toNat else []
set_option maxRecDepth 100000 in
theorem padI_length (n : Int) : (padI n).length ≤ 72 := by
  unfold padI; split
  · rw [padOf_length]; omega
  · simp

set_option maxRecDepth 100000 in
set_option maxHeartbeats 800000 in
theorem implPad (n : Int) (w : World) :
    Calls Tryd.prog 82 #[.int .i64 n] w fun e w' =>
      ∃ g m cap, e = .returned (.slice (some ⟨g, 0, none⟩) m cap) ∧ m = (padI n).length ∧ w.heap.size ≤ g ∧ Row w' g cap (padI n) ∧ Below w.heap.size w w' := by
  by_cases hn : 0 ≤ n ∧ n ≤ 1048576
  · have hl := isLen_yes hn
    obtain ⟨h0, h1⟩ := hn
    obtain ⟨N, rfl⟩ := Int.eq_ofNat_of_zero_le h0
    have HP : Hid (padI (N : Int) = padOf N) := by show padI _ = _; unfold padI; rw [if_pos ⟨h0, h1⟩, Int.toNat_natCast]
    obtain ⟨z, hz⟩ : ∃ z : Nat, (64 - (N + 9) % 64) % 64 = z := ⟨_, rfl⟩
    have HZ : Hid ((64 - (N + 9) % 64) % 64 = z) := hz
    have E1 : Hid (((64 : Int) - ((N : Int) + 1 + 8) % 64) % 64 = (z : Int)) := by show _ = _; omega
    have hz64 : z < 64 := by omega
    obtain ⟨i0, hi, hz0, hz1, hz2⟩ := info_parts info8
    clear hz
    have H1 : Hid (Below w.heap.size w (w.alloc (.cells #[.int .u8 128] 5))) := (Below.refl _ _).alloc (Nat.le_refl _) _
    go_enter Tryd.func82, Tryd.ntmps82
    go_wp2_with fail
    refine (isShaLength _ _).mono ?_
    rintro e w1 ⟨rfl, rfl⟩
    go_wp2_with (at_make; refine wpList_make_full _ rfl _ _ 22 rfl w.heap.size 5 i0 (.int .u8 0) 1 Tryd.underlying22 hi hz0 hz1 _ _ _ _ z rfl rfl (by first | rfl | exact E1.out) (by first | rfl | exact E1.out) (by rw [hz2]; omega) (by unfold maxLen; omega) (by simp) ?_; intro w1 hown hgr; have HB : Hid (Below w.heap.size w w1) := H1.out.grown hgr (by simp) (fun k h => by cases h); have HR : Hid (Row w1 w.heap.size 1 [128]) := (row_new w [128] (by simp [maxLen])).keep (hgr.block _ (by simp) (by simp)); have HO : Hid (Row w1 (w.heap.size + 1) z (List.replicate z 0)) := (Row.of (l := List.replicate z 0) (base := w.heap.size) (by simpa [Value.cells, toList_madeCells_one] using hown)).1; clear hown hgr)
    have HL : Hid ((List.replicate z (0 : Int)).length = z) := List.length_replicate
    refine (putBytes _ _ 1 1 z z [128] (List.replicate z 0) w1 rfl HL.out.symm HR.out.rd HO.out.rd (by intro h; cases h) (by intro h; cases h) (by simp) (by rw [HL.out]; omega)).mono ?_
    rintro e w2 ⟨rfl, r2, b2⟩
    have HB2 : Hid (Below w.heap.size w w2) := HB.out.trans (b2.mono HB.out.size)
    have HR2 : Hid (Row w2 w1.heap.size (1 + z) ([128] ++ List.replicate z 0)) := r2
    have HS : Hid (w.heap.size ≤ w1.heap.size) := HB.out.size
    clear r2 b2
    go_wp2_with fail
    refine (highestFirst _ 8 w2 (by omega) (by omega)).mono ?_
    rintro e w3 ⟨rfl, r3, b3⟩
    have HR3 : Hid (Row w3 w2.heap.size 8 (num ((N : Int) * 8) 8)) := r3
    have HB3 : Hid (Below w2.heap.size w2 w3) := b3
    clear r3 b3
    have HN : Hid ((num ((N : Int) * 8) 8).length = 8) := num_length _ 8
    have HM : Hid (([128] ++ List.replicate z (0 : Int)).length = 1 + z) := by show _ = _; simp; omega
    go_wp2_with fail
    refine (putBytes _ _ (1 + z) (1 + z) 8 8 ([128] ++ List.replicate z 0) (num ((N : Int) * 8) 8) w3 HM.out.symm HN.out.symm (HR2.out.later HB3.out).rd HR3.out.rd (by intro h; cases h) (by intro h; cases h) (by rw [HM.out]; omega) (by rw [HN.out]; omega)).mono ?_
    rintro e w4 ⟨rfl, r4, b4⟩
    have HB4 : Hid (Below w.heap.size w w4) := HB2.out.trans ((HB3.out.mono HB2.out.size).trans (b4.mono (Nat.le_trans HB2.out.size HB3.out.size)))
    have HF : Hid (padI (N : Int) = [128] ++ List.replicate z 0 ++ num ((N : Int) * 8) 8) := by
      show _ = _
      rw [HP.out]; unfold padOf; rw [HZ.out, Int.mul_comm]; simp
    have HS3 : Hid (w.heap.size ≤ w3.heap.size) := Nat.le_trans HB2.out.size HB3.out.size
    have HR4 : Hid (Row w4 w3.heap.size (1 + z + 8) ([128] ++ List.replicate z 0 ++ num ((N : Int) * 8) 8)) := r4
    clear r4 b4
    go_wp2
    go_ret
    exact ⟨w3.heap.size, _, _, rfl, by rw [HF.out, List.length_append, HM.out, HN.out], HS3.out, by rw [HF.out]; exact HR4.out, HB4.out⟩
  · have hl := isLen_no hn
    have HP : Hid (padI n = []) := by show padI _ = _; unfold padI; rw [if_neg hn]
    clear hn
    go_enter Tryd.func82, Tryd.ntmps82
    go_wp2_with fail
    refine (isShaLength _ _).mono ?_
    rintro e w1 ⟨rfl, rfl⟩
    go_wp2
    go_ret
    exact ⟨w.heap.size, 0, 0, by simp, by rw [HP.out]; rfl, Nat.le_refl _, by rw [HP.out]; exact row_new w [] (by simp), (Below.refl _ _).alloc (Nat.le_refl _) _⟩

def lenOf : Value → Nat
  | .slice _ n _ => n
  | _ => 0

set_option maxRecDepth 100000 in
set_option maxHeartbeats 800000 in
theorem specPad (n : Int) (w : World) :
    Calls Tryd.prog 77 #[.int .i64 n] w fun e w' =>
      ∃ g m cap, e = .returned (.slice (some ⟨g, 0, none⟩) m cap) ∧ m = (padI n).length ∧ w.heap.size ≤ g ∧ Row w' g cap (padI n) ∧ Below w.heap.size w w' := by
  by_cases hn : 0 ≤ n ∧ n ≤ 1048576
  · obtain ⟨h0, h1⟩ := hn
    obtain ⟨N, rfl⟩ := Int.eq_ofNat_of_zero_le h0
    have HP : Hid (padI (N : Int) = padOf N) := by show padI _ = _; unfold padI; rw [if_pos ⟨h0, h1⟩, Int.toNat_natCast]
    obtain ⟨z, hz⟩ : ∃ z : Nat, (64 - (N + 9) % 64) % 64 = z := ⟨_, rfl⟩
    have HZ : Hid ((64 - (N + 9) % 64) % 64 = z) := hz
    have hz64 : z < 64 := by omega
    clear hz
    have H1 : Hid (Below w.heap.size w (w.alloc (.cells #[.int .u8 128] 5))) := (Below.refl _ _).alloc (Nat.le_refl _) _
    have HR1 : Hid (Row (w.alloc (.cells #[.int .u8 128] 5)) w.heap.size 1 [128]) := row_new w [128] (by simp [maxLen])
    go_enter Tryd.func77, Tryd.ntmps77
    go_wp2
    go_loopw [3] (fun v wr => ∃ (j g c : Nat), j ≤ z ∧ v = .slice (some ⟨g, 0, none⟩) (1 + j) c ∧ w.heap.size ≤ g ∧ Row wr g c ([128] ++ List.replicate j 0) ∧ Below w.heap.size w wr)
      (fun v _ => z + 1 - lenOf v)
    case atStart => exact ⟨0, w.heap.size, 1, Nat.zero_le _, rfl, Nat.le_refl _, HR1.out, H1.out⟩
    case round =>
      obtain ⟨j, g, c, hj, rfl, hg, hrow, hb⟩ := hrel
      clear H1 HR1
      have HRow : Hid (Row wr g c ([128] ++ List.replicate j 0)) := hrow
      have HB : Hid (Below w.heap.size w wr) := hb
      have HL : Hid (([128] ++ List.replicate j (0 : Int)).length = 1 + j) := by show _ = _; simp; omega
      clear hrow hb
      by_cases hlt : j < z
      · have ht : 1 ≤ ((N : Int) + ((1 + j : Nat) : Int) + 8) % 64 := by have := HZ.out; omega
        go_wp2_with (at_builtin; refine wpList_app _ rfl (.tmp 19) (.tmp 20) rfl w.heap.size g (1 + j) c ([128] ++ List.replicate j 0) [0] rfl HL.out.symm (row_alloc HRow.out _) hg (some ⟨wr.heap.size, 0, none⟩) 1 1 rfl rfl (rd_one _ _) (by intro h; cases h) (by rw [HL.out]; simp; omega) ?_; intro g2 c2 w2 r2 b2 l2 gr2; have R2 : Hid (Row w2 g2 c2 ([128] ++ List.replicate j 0 ++ [0])) := r2; have B2 : Hid (Below w.heap.size w w2) := (HB.out.alloc HB.out.size _).grown gr2 (Nat.le_trans HB.out.size (by simp)) (fun k h => by cases h; exact hg); clear r2 gr2 l2)
        go_roundw
        case rel => exact ⟨j + 1, g2, c2, by omega, by simp [Nat.add_assoc], b2, by rw [List.replicate_succ', ← List.append_assoc]; exact R2.out, B2.out⟩
        case measure => simp [lenOf]; omega
      · obtain rfl : j = z := by omega
        have ht : ((N : Int) + ((1 + j : Nat) : Int) + 8) % 64 = 0 := by have := HZ.out; omega
        go_wp2_with fail
        refine (specPutN _ (1 + j) c _ 0 4 wr HL.out.symm HRow.out.rd (by intro h; cases h) (by rw [HL.out]; omega)).mono ?_
        rintro e w2 ⟨g2, m2, c2, rfl, e2, k2, r2, b2⟩
        have HR2 : Hid (Row w2 g2 c2 ([128] ++ List.replicate j 0 ++ putN 0 4)) := r2
        have HB2 : Hid (Below w.heap.size w w2) := HB.out.trans (b2.mono HB.out.size)
        have HE2 : Hid (m2 = ([128] ++ List.replicate j 0 ++ putN 0 4).length) := e2
        have HL2 : Hid (([128] ++ List.replicate j 0 ++ putN 0 4).length = 5 + j) := by show _ = _; rw [List.length_append, HL.out]; simp [putN, num_length]; omega
        clear r2 b2 e2 k2
        go_wp2_with fail
        refine (specPutN _ m2 c2 _ _ 4 w2 HE2.out HR2.out.rd (by intro h; cases h) (by rw [HL2.out]; omega)).mono ?_
        rintro e w3 ⟨g3, m3, c3, rfl, e3, k3, r3, b3⟩
        have HF : Hid (padI (N : Int) = [128] ++ List.replicate j 0 ++ putN 0 4 ++ putN (8 * (N : Int)) 4) := by
          show _ = _
          rw [HP.out]; unfold padOf; rw [HZ.out, pad_nums N (by omega)]; simp [putN]
        have HR3 : Hid (Row w3 g3 c3 ([128] ++ List.replicate j 0 ++ putN 0 4 ++ putN (8 * (N : Int)) 4)) := r3
        have HE3 : Hid (m3 = ([128] ++ List.replicate j 0 ++ putN 0 4 ++ putN (8 * (N : Int)) 4).length) := e3
        have HK3 : Hid (w.heap.size ≤ g3) := Nat.le_trans HB2.out.size k3
        have HB3 : Hid (Below w.heap.size w w3) := HB2.out.trans (b3.mono HB2.out.size)
        clear r3 b3 e3 k3
        go_wp2
        go_ret
        exact ⟨g3, m3, c3, rfl, by rw [HF.out]; exact HE3.out, HK3.out, by rw [HF.out]; exact HR3.out, HB3.out⟩
  · have HP : Hid (padI n = []) := by show padI _ = _; unfold padI; rw [if_neg hn]
    rcases (show n < 0 ∨ (0 ≤ n ∧ 1048576 < n) by omega) with hk | ⟨hk0, hk⟩
    all_goals
      go_enter Tryd.func77, Tryd.ntmps77
      go_wp2
      go_ret
      exact ⟨w.heap.size, 0, 0, by simp, by rw [HP.out]; rfl, Nat.le_refl _, by rw [HP.out]; exact row_new w [] (by simp), (Below.refl _ _).alloc (Nat.le_refl _) _⟩
end Go.Proofs.YtpenhliaelhnoaaDoor.Pads

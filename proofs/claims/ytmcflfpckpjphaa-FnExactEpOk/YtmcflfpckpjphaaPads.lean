/-
  What impl's and spec's Pad answer at every int: the same bytes, in new memory.
-/
import Derived.Test.YtmcflfpckpjphaaShaP
import Derived.Test.YtmcflfpckpjphaaBlk
namespace Go.Proofs.Ytmcflfpckpjphaa.Pads
open Go.RowKit Go.Proofs.Ytmcflfpckpjphaa.Mem Go.Proofs.Ytmcflfpckpjphaa.App Go.Proofs.Ytmcflfpckpjphaa.Get Go.Proofs.Ytmcflfpckpjphaa.ShaP

/-- Whether n may be a text's length. -/
def isLen (n : Int) : Bool := decide (0 ≤ n ∧ n ≤ 1048576)
theorem isLen_yes {n : Int} (h : 0 ≤ n ∧ n ≤ 1048576) : isLen n = true := by simpa [isLen] using h
theorem isLen_no {n : Int} (h : ¬ (0 ≤ n ∧ n ≤ 1048576)) : isLen n = false := by unfold isLen; exact decide_eq_false h

def padI (n : Int) : List Int := if 0 ≤ n ∧ n ≤ 1048576 then padOf n.toNat else []
theorem padI_length (n : Int) : (padI n).length ≤ 72 := by
  unfold padI; split
  · rw [padOf_length]; omega
  · simp

def lenOf : Value → Nat
  | .slice _ n _ => n
  | _ => 0

set_option maxRecDepth 100000 in
set_option maxHeartbeats 800000 in
theorem specPad (n : Int) (w : World) :
    Calls Try.prog 122 #[.int .i64 n] w fun e w' =>
      ∃ g m cap, e = .returned (.slice (some ⟨g, 0, none⟩) m cap) ∧ m = (padI n).length ∧ w.heap.size ≤ g ∧ Row w' g cap (padI n) ∧ Below w.heap.size w w' := by
  by_cases hn : 0 ≤ n ∧ n ≤ 1048576
  · obtain ⟨h0, h1⟩ := hn
    obtain ⟨N, rfl⟩ := Int.eq_ofNat_of_zero_le h0
    have HP : Hid (padI (N : Int) = padOf N) := by show padI _ = _; unfold padI; rw [if_pos ⟨h0, h1⟩, Int.toNat_natCast]
    obtain ⟨z, hz⟩ : ∃ z : Nat, (64 - (N + 9) % 64) % 64 = z := ⟨_, rfl⟩
    have HZ : Hid ((64 - (N + 9) % 64) % 64 = z) := hz
    have hz64 : z < 64 := by omega
    clear hz
    have H1 : Hid (Below w.heap.size w (w.alloc (.cells #[.int .u8 128] 5))) := (Below.refl _ _).alloc (Nat.le_refl _) _
    have HR1 : Hid (Row (w.alloc (.cells #[.int .u8 128] 5)) w.heap.size 1 [128]) := row_new w [128] (by simp [maxLen])
    go_enter Try.func122, Try.ntmps122
    go_wp2
    go_loopw [3] (fun v wr => ∃ (j g c : Nat), j ≤ z ∧ v = .slice (some ⟨g, 0, none⟩) (1 + j) c ∧ w.heap.size ≤ g ∧ Row wr g c ([128] ++ List.replicate j 0) ∧ Below w.heap.size w wr)
      (fun v _ => z + 1 - lenOf v)
    case atStart => exact ⟨0, w.heap.size, 1, Nat.zero_le _, rfl, Nat.le_refl _, HR1.out, H1.out⟩
    case round =>
      obtain ⟨j, g, c, hj, rfl, hg, hrow, hb⟩ := hrel
      clear H1 HR1
      have HRow : Hid (Row wr g c ([128] ++ List.replicate j 0)) := hrow
      have HB : Hid (Below w.heap.size w wr) := hb
      have HL : Hid (([128] ++ List.replicate j (0 : Int)).length = 1 + j) := by show _ = _; simp; omega
      clear hrow hb
      by_cases hlt : j < z
      · have ht : 1 ≤ ((N : Int) + ((1 + j : Nat) : Int) + 8) % 64 := by have := HZ.out; omega
        go_wp2_with (at_builtin; refine wpList_app _ rfl (.tmp 19) (.tmp 20) rfl w.heap.size g (1 + j) c ([128] ++ List.replicate j 0) [0] rfl HL.out.symm (row_alloc HRow.out _) hg (some ⟨wr.heap.size, 0, none⟩) 1 1 rfl rfl (rd_one _ _) (by intro h; cases h) (by rw [HL.out]; simp; omega) ?_; intro g2 c2 w2 r2 b2 l2 gr2; have R2 : Hid (Row w2 g2 c2 ([128] ++ List.replicate j 0 ++ [0])) := r2; have B2 : Hid (Below w.heap.size w w2) := (HB.out.alloc HB.out.size _).grown gr2 (Nat.le_trans HB.out.size (by simp)) (fun k h => by cases h; exact hg); clear r2 gr2 l2)
        go_roundw
        case rel => exact ⟨j + 1, g2, c2, by omega, by simp [Nat.add_assoc], b2, by rw [List.replicate_succ', ← List.append_assoc]; exact R2.out, B2.out⟩
        case measure => simp [lenOf]; omega
      · obtain rfl : j = z := by omega
        have ht : ((N : Int) + ((1 + j : Nat) : Int) + 8) % 64 = 0 := by have := HZ.out; omega
        go_wp2_with fail
        refine (specPutN _ (1 + j) c _ 0 4 wr HL.out.symm HRow.out.rd (by intro h; cases h) (by rw [HL.out]; omega)).mono ?_
        rintro e w2 ⟨g2, m2, c2, rfl, e2, k2, r2, b2⟩
        have HR2 : Hid (Row w2 g2 c2 ([128] ++ List.replicate j 0 ++ putN 0 4)) := r2
        have HB2 : Hid (Below w.heap.size w w2) := HB.out.trans (b2.mono HB.out.size)
        have HE2 : Hid (m2 = ([128] ++ List.replicate j 0 ++ putN 0 4).length) := e2
        have HL2 : Hid (([128] ++ List.replicate j 0 ++ putN 0 4).length = 5 + j) := by show _ = _; rw [List.length_append, HL.out]; simp [putN, num_length]; omega
        clear r2 b2 e2 k2
        go_wp2_with fail
        refine (specPutN _ m2 c2 _ _ 4 w2 HE2.out HR2.out.rd (by intro h; cases h) (by rw [HL2.out]; omega)).mono ?_
        rintro e w3 ⟨g3, m3, c3, rfl, e3, k3, r3, b3⟩
        have HF : Hid (padI (N : Int) = [128] ++ List.replicate j 0 ++ putN 0 4 ++ putN (8 * (N : Int)) 4) := by
          show _ = _
          rw [HP.out]; unfold padOf; rw [HZ.out, pad_nums N (by omega)]; simp [putN]
        have HR3 : Hid (Row w3 g3 c3 ([128] ++ List.replicate j 0 ++ putN 0 4 ++ putN (8 * (N : Int)) 4)) := r3
        have HE3 : Hid (m3 = ([128] ++ List.replicate j 0 ++ putN 0 4 ++ putN (8 * (N : Int)) 4).length) := e3
        have HK3 : Hid (w.heap.size ≤ g3) := Nat.le_trans HB2.out.size k3
        have HB3 : Hid (Below w.heap.size w w3) := HB2.out.trans (b3.mono HB2.out.size)
        clear r3 b3 e3 k3
        go_wp2
        go_ret
        exact ⟨g3, m3, c3, rfl, by rw [HF.out]; exact HE3.out, HK3.out, by rw [HF.out]; exact HR3.out, HB3.out⟩
  · have HP : Hid (padI n = []) := by show padI _ = _; unfold padI; rw [if_neg hn]
    rcases (show n < 0 ∨ (0 ≤ n ∧ 1048576 < n) by omega) with hk | ⟨hk0, hk⟩
    all_goals
      go_enter Try.func122, Try.ntmps122
      go_wp2
      go_ret
      exact ⟨w.heap.size, 0, 0, by simp, by rw [HP.out]; rfl, Nat.le_refl _, by rw [HP.out]; exact row_new w [] (by simp), (Below.refl _ _).alloc (Nat.le_refl _) _⟩
end Go.Proofs.Ytmcflfpckpjphaa.Pads

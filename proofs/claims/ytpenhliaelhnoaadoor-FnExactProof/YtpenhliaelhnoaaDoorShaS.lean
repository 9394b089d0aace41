/-
  What spec's l2Out and Sha answer: the sum's 32 bytes, in new memory.
-/
import Derived.Test.YtpenhliaelhnoaaDoorEnds
namespace Go.Proofs.YtpenhliaelhnoaaDoor.ShaS
open Go.RowKit Go.Proofs.YtpenhliaelhnoaaDoor.Mem Go.Proofs.YtpenhliaelhnoaaDoor.MemI Go.Proofs.YtpenhliaelhnoaaDoor.Blk Go.Proofs.YtpenhliaelhnoaaDoor.App Go.Proofs.YtpenhliaelhnoaaDoor.Get Go.Proofs.YtpenhliaelhnoaaDoor.ShaP Go.Proofs.YtpenhliaelhnoaaDoor.Word Go.Proofs.YtpenhliaelhnoaaDoor.Bits Go.Proofs.YtpenhliaelhnoaaDoor.Sched Go.Proofs.YtpenhliaelhnoaaDoor.Words Go.Proofs.YtpenhliaelhnoaaDoor.WordsOf Go.Proofs.YtpenhliaelhnoaaDoor.Comp Go.Proofs.YtpenhliaelhnoaaDoor.CompS Go.Proofs.YtpenhliaelhnoaaDoor.Start Go.Proofs.YtpenhliaelhnoaaDoor.Cuts Go.Proofs.YtpenhliaelhnoaaDoor.Pads Go.Proofs.YtpenhliaelhnoaaDoor.Adds Go.Proofs.YtpenhliaelhnoaaDoor.Ends

set_option maxRecDepth 100000 in
theorem putN4 (z : Int) : putN z 4 = num z 4 := rfl
set_option maxRecDepth 100000 in
set_option maxHeartbeats 800000 in
theorem l2Out (gh ch : Nat) (h : List Int) (w : World) (hh : h.length = 8) (hr : IRow w gh ch h) :
    Calls Tryd.prog 80 #[.slice (some ⟨gh, 0, none⟩) 8 ch] w fun e w' =>
      ∃ g c, e = .returned (.slice (some ⟨g, 0, none⟩) 32 c) ∧ w.heap.size ≤ g ∧ Row w' g c (outB h) ∧ Below w.heap.size w w' := by
  have HH : Hid (h.length = 8) := hh
  have HR : Hid (IRow w gh ch h) := hr
  have A0 : Hid (Below w.heap.size w (w.alloc (.cells #[] 5))) := (Below.refl _ _).alloc (Nat.le_refl _) _
  have R0 : Hid (Row (w.alloc (.cells #[] 5)) w.heap.size 0 (outB (h.take 0))) := row_new w [] (by simp)
  clear hh hr
  go_enter Tryd.func80, Tryd.ntmps80
  go_wp2
  go_loopw [3, 4] (fun v i wr => ∃ k gg cc : Nat, k ≤ 8 ∧ i = .int .i64 k ∧ v = .slice (some ⟨gg, 0, none⟩) (4 * k) cc ∧ w.heap.size ≤ gg ∧ Row wr gg cc (outB (h.take k)) ∧ Below w.heap.size w wr)
    (fun _ i _ => 8 - (intOf i).toNat)
  case atStart => exact ⟨0, w.heap.size, 0, Nat.zero_le _, rfl, rfl, Nat.le_refl _, R0.out, A0.out⟩
  case round =>
    obtain ⟨k, gg, cc, hk, rfl, rfl, hgg, hRow, hbe⟩ := hrel
    have HRow : Hid (Row wr gg cc (outB (h.take k))) := hRow
    have HBe : Hid (Below w.heap.size w wr) := hbe
    clear R0 A0 hRow hbe
    by_cases hlt : k < 8
    · have hc := (HR.out.later HBe.out).cell k (by rw [HH.out]; exact hlt)
      have HT1 : Hid (outB (h.take (k + 1)) = outB (h.take k) ++ putN (h.getD k 0) 4) := by
        show _ = _
        rw [List.take_succ_eq_append_getElem (by rw [HH.out]; exact hlt), outB_snoc, putN4]
        simp [List.getD, HH.out, hlt]
      have HOL : Hid (4 * k = (outB (h.take k)).length) := by show _ = _; rw [outB_length, List.length_take, HH.out]; omega
      generalize h.getD k 0 = z at *
      go_wp2_with fail
      refine (specPutN _ (4 * k) cc _ z 4 wr HOL.out HRow.out.rd (by intro e; cases e) (by rw [← HOL.out]; omega)).mono ?_
      rintro e w2 ⟨g2, m2, c2, rfl, e2, k2, r2, b2⟩
      have HM : Hid (m2 = 4 * (k + 1)) := by show _ = _; rw [e2, List.length_append, ← HOL.out, putN4, num_length]; omega
      have K2 : Hid (w.heap.size ≤ g2) := Nat.le_trans HBe.out.size k2
      have R2 : Hid (Row w2 g2 c2 (outB (h.take k) ++ putN z 4)) := r2
      have B2 : Hid (Below w.heap.size w w2) := HBe.out.trans (b2.mono HBe.out.size)
      clear e2 k2 r2 b2
      go_wp2
      go_roundw
      case rel => exact ⟨k + 1, g2, c2, by omega, by go_num, by rw [HM.out], K2.out, by rw [HT1.out]; exact R2.out, B2.out⟩
      case measure => simp [intOf]; omega
    · obtain rfl : k = 8 := by omega
      have HT8 : Hid (outB h = outB (h.take 8)) := by show _ = _; rw [List.take_of_length_le (by rw [HH.out]; exact Nat.le_refl _)]
      go_wp2
      go_ret
      exact ⟨gg, cc, rfl, hgg, by rw [HT8.out]; exact HRow.out, HBe.out⟩

set_option maxRecDepth 100000 in
theorem compI_ok (h b : List Int) (hh : h.length = 8) (hw : Wds h) (hb : b.length = 64) : compI h b = comp h b := by
  unfold compI; rw [if_pos ⟨(okw_iff h).2 ⟨hh, hw⟩, hb⟩]

set_option maxRecDepth 100000 in
set_option maxHeartbeats 2000000 in
theorem specSha (a : Option Addr) (n cap : Nat) (b : List Int) (w : World) (hn : n = b.length) (hr : Rd w a b) (na : a = none → cap = 0) (hb : Bytes b) (hl : n ≤ 2097152) :
    Calls Tryd.prog 67 #[.slice a n cap] w fun e w' =>
      ∃ g m c, e = .returned (.slice (some ⟨g, 0, none⟩) m c) ∧ m = (shaI b).length ∧ w.heap.size ≤ g ∧ Row w' g c (shaI b) ∧ Below w.heap.size w w' := by
  have HN : Hid (n = b.length) := hn
  have HR : Hid (Rd w a b) := hr
  have HB : Hid (Bytes b) := hb
  have A0 : Hid (Below w.heap.size w (w.alloc (.cells #[] 5))) := (Below.refl _ _).alloc (Nat.le_refl _) _
  have R0 : Hid (Row (w.alloc (.cells #[] 5)) w.heap.size 0 []) := row_new w [] (by simp)
  clear hn hr hb
  by_cases h1 : n ≤ 1048576
  · have HS : Hid (shaI b = outB (run start8 (b ++ padI (n : Int)) ((b ++ padI (n : Int)).length / 64))) := by
      show _ = _
      unfold shaI; rw [if_pos (by rw [← HN.out]; exact h1), padI_nat n h1, HN.out]; rfl
    have HPL : Hid ((padI (n : Int)).length = 9 + (64 - (n + 9) % 64) % 64) := by show _ = _; rw [padI_nat n h1, padOf_length]
    go_enter Tryd.func67, Tryd.ntmps67
    go_wp2_with (at_builtin; refine wpList_app _ rfl (.tmp 10) (.tmp 11) rfl w.heap.size w.heap.size 0 0 [] b rfl rfl R0.out (Nat.le_refl _) a n cap rfl HN.out (HR.out.later A0.out (Nat.le_refl _)) na (by rw [← HN.out]; simp; omega) ?_; intro g1 c1 w1 r1 b1 l1 gr1; have R1 : Hid (Row w1 g1 c1 b) := (List.nil_append b) ▸ r1; have B1 : Hid (Below w.heap.size w w1) := A0.out.grown gr1 A0.out.size (fun k h => by cases h; exact Nat.le_refl _); clear r1 gr1 l1)
    refine (specPad (n : Int) w1).mono ?_
    rintro e w2 ⟨gp, mp, cp, rfl, e2, k2, r2, b2⟩
    have R2 : Hid (Row w2 gp cp (padI (n : Int))) := r2
    have E2 : Hid (mp = (padI (n : Int)).length) := e2
    have B2 : Hid (Below w.heap.size w w2) := B1.out.trans (b2.mono B1.out.size)
    have R12 : Hid (Row w2 g1 c1 b) := R1.out.later b2
    clear r2 e2 k2 b2
    go_wp2_with (at_builtin; refine wpList_app _ rfl (.tmp 12) (.tmp 15) rfl w.heap.size g1 n c1 b (padI (n : Int)) (by simp [Act.eval]) HN.out R12.out b1 (some ⟨gp, 0, none⟩) mp cp rfl E2.out R2.out.rd (by intro e; cases e) (by rw [← HN.out, HPL.out]; omega) ?_; intro g3 c3 w3 r3 b3 l3 gr3; have R3 : Hid (Row w3 g3 c3 (b ++ padI (n : Int))) := r3; have B3 : Hid (Below w.heap.size w w3) := B2.out.grown gr3 B2.out.size (fun k h => by cases h; exact b1); clear r3 gr3 l3)
    obtain ⟨x, hx⟩ : ∃ x, b ++ padI (n : Int) = x := ⟨_, rfl⟩
    rw [hx] at HS R3
    obtain ⟨L, hL⟩ : ∃ L, n + mp = L := ⟨_, rfl⟩
    have HL : Hid (x.length = L) := by rw [← hx, ← hL, List.length_append, ← HN.out, ← E2.out]; simp [Hid]
    obtain ⟨Q, hQ⟩ : ∃ Q, L = 64 * Q := ⟨L / 64, by have := HPL.out; have := E2.out; omega⟩
    subst hQ
    have HXB : Hid (Bytes x) := by
      rw [← hx]
      exact fun z hz => (List.mem_append.1 hz).elim (HB.out z) (padI_bytes _ z)
    have hQm : 64 * Q ≤ 4194304 := by have := HPL.out; have := E2.out; omega
    rw [hL]
    clear hL hx R1 B1 R2 R12 B2 E2 HPL
    go_wp2_with fail
    refine (specStart w3).mono ?_
    rintro e w4 ⟨rfl, r4, b4⟩
    have HS8 : Hid (start8.length = 8) := (rfl : start8.length = 8)
    have HSW : Hid (Wds start8) := start8_wds
    have KH : Hid (w.heap.size ≤ w3.heap.size) := B3.out.size
    have RH : Hid (IRow w4 w3.heap.size 8 (run start8 x 0)) := r4
    have RX : Hid (Row w4 g3 c3 x) := R3.out.later b4
    have BX : Hid (Below w.heap.size w w4) := B3.out.trans (b4.mono B3.out.size)
    clear r4 b4 R3 B3
    go_wp2
    go_loopw [4, 5] (fun v i wr => ∃ q gh ch : Nat, q ≤ Q ∧ i = .int .i64 (64 * (q : Int)) ∧ v = .slice (some ⟨gh, 0, none⟩) 8 ch ∧ w.heap.size ≤ gh ∧ IRow wr gh ch (run start8 x q) ∧ Row wr g3 c3 x ∧ Below w.heap.size w wr)
      (fun _ i _ => 64 * Q - (intOf i).toNat)
    case atStart => exact ⟨0, w3.heap.size, 8, Nat.zero_le _, rfl, rfl, KH.out, RH.out, RX.out, BX.out⟩
    case round =>
      obtain ⟨q, gh, ch, hq, rfl, rfl, hgh, hH, hX, hbe⟩ := hrel
      have HH : Hid (IRow wr gh ch (run start8 x q)) := hH
      have HX : Hid (Row wr g3 c3 x) := hX
      have HBe : Hid (Below w.heap.size w wr) := hbe
      have HRL : Hid ((run start8 x q).length = 8) := run_length start8 x q HS8.out
      have HRW : Hid (Wds (run start8 x q)) := run_wds start8 x q HSW.out
      have hc3 : 64 * Q ≤ c3 := by have := hX.1; rw [HL.out] at this; exact this
      clear hH hX hbe KH RH RX BX
      by_cases hlt : q < Q
      · have HPL2 : Hid ((piece x (64 * q) 64).length = 64) := piece_length x (64 * q) 64 (by rw [HL.out]; omega)
        have HP : Hid (Rd wr (some ⟨g3, 64 * q, none⟩) (piece x (64 * q) 64)) := by
          have := rd_piece HX.out.rd (64 * q) 64 (by rw [HL.out]; omega)
          rwa [Nat.zero_add] at this
        have HPB : Hid (Bytes (piece x (64 * q) 64)) := piece_bytes HXB.out _ _
        have HCI : Hid (compI (run start8 x q) (piece x (64 * q) 64) = run start8 x (q + 1)) := compI_ok _ _ HRL.out HRW.out HPL2.out
        have i1 : (64 * (q : Int)) < 64 * (Q : Int) := by omega
        have i2 : (64 * (q : Int)) + 64 ≤ 64 * (Q : Int) := by omega
        go_wp2_with fail
        refine (specCompress (some ⟨gh, 0, none⟩) 8 ch (run start8 x q) (some ⟨g3, 64 * q, none⟩) _ _ (piece x (64 * q) 64) wr HRL.out.symm HH.out.rd (by intro e; cases e) (by omega) (by rw [HPL2.out]) HP.out HPB.out (by omega)).mono ?_
        rintro e w5 ⟨g5, m5, c5, rfl, e5, k5, r5, b5⟩
        rw [HCI.out] at e5 r5
        obtain rfl : m5 = 8 := by rw [e5, run_length start8 x (q + 1) HS8.out]
        have R5 : Hid (IRow w5 g5 c5 (run start8 x (q + 1))) := r5
        have K5 : Hid (w.heap.size ≤ g5) := Nat.le_trans HBe.out.size k5
        have B5 : Hid (Below w.heap.size w w5) := HBe.out.trans (b5.mono HBe.out.size)
        have X5 : Hid (Row w5 g3 c3 x) := HX.out.later b5
        clear r5 e5 k5 b5 HCI HPB HP HPL2
        go_wp2
        go_roundw
        case rel => exact ⟨q + 1, g5, c5, by omega, by go_num, rfl, K5.out, R5.out, X5.out, B5.out⟩
        case measure => simp [intOf]; omega
      · obtain rfl : q = Q := by omega
        have i3 : ¬ (64 * (q : Int) < 64 * (q : Int)) := by omega
        go_wp2_with fail
        refine (l2Out gh ch (run start8 x q) wr HRL.out HH.out).mono ?_
        rintro e w6 ⟨g6, c6, rfl, k6, r6, b6⟩
        have HE : Hid (shaI b = outB (run start8 x q)) := by
          show _ = _
          rw [HS.out, HL.out, Nat.mul_div_cancel_left q (by omega)]
        have HE2 : Hid ((shaI b).length = 32) := by show _ = _; rw [HE.out, outB_length, HRL.out]
        have K6 : Hid (w.heap.size ≤ g6) := Nat.le_trans HBe.out.size k6
        have R6 : Hid (Row w6 g6 c6 (shaI b)) := by show Row _ _ _ _; rw [HE.out]; exact r6
        have B6 : Hid (Below w.heap.size w w6) := HBe.out.trans (b6.mono HBe.out.size)
        clear r6 k6 b6
        go_wp2
        go_ret
        exact ⟨g6, 32, c6, rfl, HE2.out.symm, K6.out, R6.out, B6.out⟩
  · have HS : Hid (shaI b = []) := by show _ = _; unfold shaI; rw [if_neg (by rw [← HN.out]; exact h1)]
    clear HR HB
    go_enter Tryd.func67, Tryd.ntmps67
    go_wp2
    go_ret
    exact ⟨w.heap.size, 0, 0, by simp, by rw [HS.out]; rfl, Nat.le_refl _, by rw [HS.out]; exact R0.out, A0.out⟩
end Go.Proofs.YtpenhliaelhnoaaDoor.ShaS

/-
  What spec's BlockOf, Stream and Mix answer.
-/
import Derived.Test.YtmcflfpckpjphaaGreatDoorKdfP
import Derived.Test.YtmcflfpckpjphaaGreatDoorMacS
import Derived.Test.YtmcflfpckpjphaaGreatDoorWords
import Derived.Test.YtmcflfpckpjphaaGreatDoorAppStep
namespace Go.Proofs.YtmcflfpckpjphaaGreatDoor.StrS
open Go.RowKit Go.Proofs.YtmcflfpckpjphaaGreatDoor.Mem Go.Proofs.YtmcflfpckpjphaaGreatDoor.App Go.Proofs.YtmcflfpckpjphaaGreatDoor.AppAt Go.Proofs.YtmcflfpckpjphaaGreatDoor.AppStep Go.Proofs.YtmcflfpckpjphaaGreatDoor.ShaP Go.Proofs.YtmcflfpckpjphaaGreatDoor.Words Go.Proofs.YtmcflfpckpjphaaGreatDoor.DiffP Go.Proofs.YtmcflfpckpjphaaGreatDoor.MacP Go.Proofs.YtmcflfpckpjphaaGreatDoor.MacS Go.Proofs.YtmcflfpckpjphaaGreatDoor.KdfP

set_option maxRecDepth 100000 in
set_option maxHeartbeats 1600000 in
theorem specBlockOf (a0 : Option Addr) (n0 c0 : Nat) (a1 : Option Addr) (n1 c1 : Nat) (k h : List Int) (i : Int) (w : World) (e0 : n0 = k.length) (e1 : n1 = h.length) (r0 : Rd w a0 k) (r1 : Rd w a1 h) (na0 : a0 = none → c0 = 0) (na1 : a1 = none → c1 = 0) (hb0 : Bytes k) (hb1 : Bytes h) (l0 : n0 ≤ 2097152) (l1 : n1 ≤ 2097152) :
    Calls Tryz.prog 143 #[.slice a0 n0 c0, .slice a1 n1 c1, .int .i64 i] w fun e w' =>
      ∃ g m c, e = .returned (.slice (some ⟨g, 0, none⟩) m c) ∧ m = (blockI k h i).length ∧ w.heap.size ≤ g ∧ Row w' g c (blockI k h i) ∧ Below w.heap.size w w' := by
  have HN0 : Hid (n0 = k.length) := e0
  have HN1 : Hid (n1 = h.length) := e1
  have HR0 : Hid (Rd w a0 k) := r0
  have HR1 : Hid (Rd w a1 h) := r1
  have HB0 : Hid (Bytes k) := hb0
  have HB1 : Hid (Bytes h) := hb1
  clear e0 e1 r0 r1 hb0 hb1
  by_cases hm : 0 ≤ i ∧ i ≤ 6 ∧ n1 ≤ 100
  · have HBI : Hid (blockI k h i = hmacI k (([115] ++ h) ++ putN i 4)) := by
      show _ = _
      unfold blockI; rw [if_pos ⟨hm.1, hm.2.1, by rw [← HN1.out]; exact hm.2.2⟩]
      unfold sblk
      rw [Int.toNat_of_nonneg hm.1]; rfl
    have hi : isIn i 0 6 = true := by simp [isIn]; omega
    have q1 : ¬ ((n1 : Int) > 100) := by omega
    have hn1 : n1 ≤ 100 := hm.2.2
    have A0 : Hid (Below w.heap.size w (w.alloc (.cells #[.int .u8 115] 5))) := (Below.refl _ _).alloc (Nat.le_refl _) _
    have R0 : Hid (Row (w.alloc (.cells #[.int .u8 115] 5)) w.heap.size 1 [115]) := row_new w [115] (by simp [maxLen])
    clear hm
    go_enter Tryz.func143, Tryz.ntmps143
    go_wp2_with fail
    refine (l1In i 0 6 w).mono ?_
    rintro e w1 ⟨rfl, rfl⟩
    rw [hi]
    go_wp2_with (at_builtin; refine wpList_app _ rfl (.tmp 17) (.tmp 18) rfl w.heap.size w.heap.size 1 1 [115] h rfl rfl R0.out (Nat.le_refl _) a1 n1 c1 rfl HN1.out (HR1.out.later A0.out (Nat.le_refl _)) na1 (by rw [← HN1.out, List.length_singleton]; omega) ?_; intro g1 cc1 w1 rr1 b1 ll1 gr1; have R1 : Hid (Row w1 g1 cc1 ([115] ++ h)) := rr1; have B1 : Hid (Below w.heap.size w w1) := A0.out.grown gr1 A0.out.size (fun k h => by cases h; exact Nat.le_refl _); clear rr1 b1 ll1 gr1)
    have L1 : Hid (1 + n1 = ([115] ++ h).length) := by show _ = _; rw [List.length_append, ← HN1.out]; rfl
    refine (specPutN (some ⟨g1, 0, none⟩) (1 + n1) cc1 ([115] ++ h) i 4 w1 L1.out R1.out.rd (by intro e; cases e) (by rw [← L1.out]; omega)).mono ?_
    rintro e w2 ⟨g2, m2, c2, rfl, e2, k2, r2, b2⟩
    have E2 : Hid (m2 = (([115] ++ h) ++ putN i 4).length) := e2
    have R2 : Hid (Row w2 g2 c2 (([115] ++ h) ++ putN i 4)) := r2
    have B2 : Hid (Below w.heap.size w w2) := B1.out.trans (b2.mono B1.out.size)
    have hm2 : m2 ≤ 200 := by have := putN_length i 4; rw [e2, List.length_append, ← L1.out]; omega
    have Y2 : Hid (Bytes (([115] ++ h) ++ putN i 4)) := bytes_append (bytes_append (by intro z hz; simp at hz; omega) HB1.out) (num_bytes i 4)
    clear e2 k2 r2 b2
    go_wp2_with fail
    refine (specHmac a0 n0 c0 (some ⟨g2, 0, none⟩) m2 c2 k _ w2 HN0.out E2.out (HR0.out.later B2.out (Nat.le_refl _)) R2.out.rd na0 (by intro e; cases e) HB0.out Y2.out l0 (by omega)).mono ?_
    rw [← HBI.out]
    rintro e w3 ⟨g3, m3, c3, rfl, e3, k3, r3, b3⟩
    have E3 : Hid (m3 = (blockI k h i).length) := e3
    have K3 : Hid (w.heap.size ≤ g3) := Nat.le_trans B2.out.size k3
    have R3 : Hid (Row w3 g3 c3 (blockI k h i)) := r3
    have B3 : Hid (Below w.heap.size w w3) := B2.out.trans (b3.mono B2.out.size)
    clear e3 k3 r3 b3
    go_wp2
    go_ret
    exact ⟨g3, m3, c3, rfl, E3.out, K3.out, R3.out, B3.out⟩
  · have HBI : Hid (blockI k h i = []) := by
      show _ = _
      unfold blockI; rw [if_neg (by rw [← HN1.out]; exact hm)]
    have A0 : Hid (Below w.heap.size w (w.alloc (.cells #[] 5))) := (Below.refl _ _).alloc (Nat.le_refl _) _
    have R0 : Hid (Row (w.alloc (.cells #[] 5)) w.heap.size 0 []) := row_new w [] (by simp)
    by_cases h1 : 0 ≤ i ∧ i ≤ 6
    · have hi : isIn i 0 6 = true := by simp [isIn]; omega
      have q1 : (n1 : Int) > 100 := by omega
      clear hm
      go_enter Tryz.func143, Tryz.ntmps143
      go_wp2_with fail
      refine (l1In i 0 6 w).mono ?_
      rintro e w1 ⟨rfl, rfl⟩
      rw [hi]
      go_wp2
      go_ret
      exact ⟨w.heap.size, 0, 0, by simp, by rw [HBI.out]; rfl, Nat.le_refl _, by rw [HBI.out]; exact R0.out, A0.out⟩
    · have hi : isIn i 0 6 = false := by simp [isIn]; omega
      clear hm
      go_enter Tryz.func143, Tryz.ntmps143
      go_wp2_with fail
      refine (l1In i 0 6 w).mono ?_
      rintro e w1 ⟨rfl, rfl⟩
      rw [hi]
      go_wp2
      go_ret
      exact ⟨w.heap.size, 0, 0, by simp, by rw [HBI.out]; rfl, Nat.le_refl _, by rw [HBI.out]; exact R0.out, A0.out⟩

set_option maxRecDepth 100000 in
theorem blockI_nat (k h : List Int) (i : Nat) (hi : i ≤ 6) (hh : h.length ≤ 100) : blockI k h (i : Int) = sblk k h i := by
  unfold blockI; rw [if_pos ⟨by omega, by omega, hh⟩, Int.toNat_natCast]

set_option maxRecDepth 100000 in
set_option maxHeartbeats 4000000 in
theorem specStream (a0 : Option Addr) (n0 c0 : Nat) (a1 : Option Addr) (n1 c1 : Nat) (k h : List Int) (n : Int) (w : World) (e0 : n0 = k.length) (e1 : n1 = h.length) (r0 : Rd w a0 k) (r1 : Rd w a1 h) (na0 : a0 = none → c0 = 0) (na1 : a1 = none → c1 = 0) (hb0 : Bytes k) (hb1 : Bytes h) (l0 : n0 ≤ 2097152) (l1 : n1 ≤ 2097152) :
    Calls Tryz.prog 103 #[.slice a0 n0 c0, .slice a1 n1 c1, .int .i64 n] w fun e w' =>
      ∃ g m c, e = .returned (.slice (some ⟨g, 0, none⟩) m c) ∧ m = (strI k h n).length ∧ w.heap.size ≤ g ∧ Row w' g c (strI k h n) ∧ Below w.heap.size w w' := by
  have HN0 : Hid (n0 = k.length) := e0
  have HN1 : Hid (n1 = h.length) := e1
  have HR0 : Hid (Rd w a0 k) := r0
  have HR1 : Hid (Rd w a1 h) := r1
  have HB0 : Hid (Bytes k) := hb0
  have HB1 : Hid (Bytes h) := hb1
  have A0 : Hid (Below w.heap.size w (w.alloc (.cells #[] 5))) := (Below.refl _ _).alloc (Nat.le_refl _) _
  have R0 : Hid (Row (w.alloc (.cells #[] 5)) w.heap.size 0 (sblks k h 0)) := row_new w [] (by simp)
  clear e0 e1 r0 r1 hb0 hb1
  cases hm : mayStr k h n with
  | false =>
    have HE : Hid (strI k h n = []) := strI_no k h n hm
    have hno : ¬ (0 ≤ n ∧ n ≤ 200 ∧ n1 ≤ 100 ∧ n0 ≤ 1048576) := by
      intro x; rw [HN0.out, HN1.out] at x; rw [(mayStr_iff k h n).2 x] at hm; cases hm
    clear hm
    by_cases h1 : 0 ≤ n ∧ n ≤ 200
    · have hi : isIn n 0 200 = true := by simp [isIn]; omega
      by_cases h2 : n1 ≤ 100
      · have q1 : ¬ ((n1 : Int) > 100) := by omega
        have q2 : (n0 : Int) > 1048576 := by omega
        clear hno
        go_enter Tryz.func103, Tryz.ntmps103
        go_wp2_with fail
        refine (l1In n 0 200 w).mono ?_
        rintro e w1 ⟨rfl, rfl⟩
        rw [hi]
        go_wp2
        go_ret
        exact ⟨w.heap.size, 0, 0, by simp, by rw [HE.out]; rfl, Nat.le_refl _, by rw [HE.out]; exact R0.out, A0.out⟩
      · have q1 : (n1 : Int) > 100 := by omega
        clear hno
        go_enter Tryz.func103, Tryz.ntmps103
        go_wp2_with fail
        refine (l1In n 0 200 w).mono ?_
        rintro e w1 ⟨rfl, rfl⟩
        rw [hi]
        go_wp2
        go_ret
        exact ⟨w.heap.size, 0, 0, by simp, by rw [HE.out]; rfl, Nat.le_refl _, by rw [HE.out]; exact R0.out, A0.out⟩
    · have hi : isIn n 0 200 = false := by simp [isIn]; omega
      clear hno
      go_enter Tryz.func103, Tryz.ntmps103
      go_wp2_with fail
      refine (l1In n 0 200 w).mono ?_
      rintro e w1 ⟨rfl, rfl⟩
      rw [hi]
      go_wp2
      go_ret
      exact ⟨w.heap.size, 0, 0, by simp, by rw [HE.out]; rfl, Nat.le_refl _, by rw [HE.out]; exact R0.out, A0.out⟩
  | true =>
    obtain ⟨h0, h1, h2, h3⟩ := (mayStr_iff k h n).1 hm
    obtain ⟨N, rfl⟩ := Int.eq_ofNat_of_zero_le h0
    have HE : Hid (strI k h (N : Int) = (sblks k h ((N + 31) / 32)).take N) := by show _ = _; rw [strI_yes k h _ hm, Int.toNat_natCast]
    have HEL : Hid (N = (strI k h (N : Int)).length) := (strI_len k h N hm).symm
    have HK3 : Hid (k.length ≤ 1048576) := h3
    have HF2 : Hid (h.length ≤ 100) := h2
    have hN : N ≤ 200 := by omega
    rw [← HN1.out] at h2
    rw [← HN0.out] at h3
    have hi : isIn (N : Int) 0 200 = true := by simp [isIn]; omega
    have q1 : ¬ ((n1 : Int) > 100) := by omega
    have q2 : ¬ ((n0 : Int) > 1048576) := by omega
    clear hm h0 h1
    go_enter Tryz.func103, Tryz.ntmps103
    go_wp2_with fail
    refine (l1In (N : Int) 0 200 w).mono ?_
    rintro e w1 ⟨rfl, rfl⟩
    rw [hi]
    go_wp2
    go_loopw [7, 8] (fun v i wr => ∃ q go co : Nat, q ≤ 7 ∧ 32 * q < N + 32 ∧ i = .int .i64 (q : Int) ∧ v = .slice (some ⟨go, 0, none⟩) (32 * q) co ∧ w.heap.size ≤ go ∧ Row wr go co (sblks k h q) ∧ Below w.heap.size w wr)
      (fun _ i _ => 10000 - (intOf i).toNat)
    case atStart => exact ⟨0, w.heap.size, 0, by omega, by omega, rfl, rfl, Nat.le_refl _, R0.out, A0.out⟩
    case round =>
      obtain ⟨q, go, co, hq, hqN, rfl, rfl, hgo, hRo, hbe⟩ := hrel
      have HRo : Hid (Row wr go co (sblks k h q)) := hRo
      have HBe : Hid (Below w.heap.size w wr) := hbe
      have HOL : Hid (32 * q = (sblks k h q).length) := (sblks_len k h HK3.out HF2.out q).symm
      clear R0 A0 hRo hbe
      by_cases hlt : 32 * q < N
      · have hltI : ((32 * q : Nat) : Int) < (N : Int) := by omega
        have HT1 : Hid (blockI k h (q : Int) = sblk k h q) := blockI_nat k h q (by omega) HF2.out
        have H32 : Hid ((sblk k h q).length = 32) := sblk_len k h HK3.out HF2.out q
        go_wp2_with fail
        refine (specBlockOf a0 n0 c0 a1 n1 c1 k h (q : Int) wr HN0.out HN1.out (HR0.out.later HBe.out (Nat.le_refl _)) (HR1.out.later HBe.out (Nat.le_refl _)) na0 na1 HB0.out HB1.out l0 l1).mono ?_
        rw [HT1.out]
        rintro e w6 ⟨g6, m6, c6, rfl, e6, k6, r6, b6⟩
        obtain rfl : m6 = 32 := by rw [e6, H32.out]
        have R6 : Hid (Row w6 g6 c6 (sblk k h q)) := r6
        have B6 : Hid (Below w.heap.size w w6) := HBe.out.trans (b6.mono HBe.out.size)
        have RO6 : Hid (Row w6 go co (sblks k h q)) := HRo.out.later b6
        clear e6 k6 r6 b6
        go_wp2_with (at_builtin; refine wpList_app_at _ rfl (.tmp 30) (.tmp 34) rfl w.heap.size go (32 * q) co (sblks k h q) (sblk k h q) rfl HOL.out RO6.out hgo (some ⟨g6, 0, none⟩) 32 c6 rfl H32.out.symm R6.out.rd (by intro e; cases e) (by rw [← HOL.out, H32.out]; omega) ?_; intro g7 c7 w7 r7 k7 l7 gr7; have R7 : Hid (Row w7 g7 c7 (sblks k h (q + 1))) := r7; have G7 : Hid (w.heap.size ≤ g7) := k7; have B7 : Hid (Below w.heap.size w w7) := B6.out.grown gr7 B6.out.size (fun k h => by cases h; exact hgo); clear r7 k7 l7 gr7)
        go_roundw
        case rel => exact ⟨q + 1, g7, c7, by omega, by omega, by go_num, by (congr 1), G7.out, R7.out, B7.out⟩
        case measure => simp [intOf]; omega
      · have hltI : ¬ (((32 * q : Nat) : Int) < (N : Int)) := by omega
        have hco : 32 * q ≤ co := by have := HRo.out.1; rw [← HOL.out] at this; exact this
        have i1 : (N : Int) ≤ (co : Int) := by omega
        have i0 : (0 : Int) ≤ (N : Int) := by omega
        have HQ : Hid ((N + 31) / 32 = q) := by show _ = _; omega
        have A1 : Hid (Below w.heap.size w (wr.alloc (.cells #[] 5))) := HBe.out.alloc HBe.out.size _
        have E1 : Hid (Row (wr.alloc (.cells #[] 5)) wr.heap.size 0 []) := row_new wr [] (by simp)
        have RX : Hid (Rd (wr.alloc (.cells #[] 5)) (some ⟨go, 0, none⟩) (strI k h (N : Int))) := by
          show Rd _ _ _
          rw [HE.out, HQ.out]
          have h1 := (row_alloc HRo.out (.cells #[] 5)).rd
          intro i hi
          rw [List.length_take] at hi
          obtain ⟨b', off, e, hb', hh⟩ := h1 i (by omega)
          refine ⟨b', off, e, hb', ?_⟩
          rw [hh]
          have : i < N := by omega
          simp [List.getD, this]
        go_wp2_with (at_builtin; refine wpList_app _ rfl (.tmp 36) (.tmp 39) rfl w.heap.size wr.heap.size 0 0 [] (strI k h (N : Int)) rfl rfl E1.out HBe.out.size (some ⟨go, 0, none⟩) N co rfl HEL.out RX.out (by intro e; cases e) (by rw [← HEL.out, List.length_nil]; omega) ?_; intro g8 c8 w8 r8 k8 l8 gr8; have R8 : Hid (Row w8 g8 c8 (strI k h (N : Int))) := (List.nil_append (strI k h (N : Int))) ▸ r8; have G8 : Hid (w.heap.size ≤ g8) := k8; have B8 : Hid (Below w.heap.size w w8) := A1.out.grown gr8 A1.out.size (fun k h => by cases h; exact HBe.out.size); clear r8 k8 l8 gr8)
        go_ret
        exact ⟨g8, N, c8, rfl, HEL.out, G8.out, R8.out, B8.out⟩

set_option maxRecDepth 100000 in
theorem xors_take (a b : List Int) (q : Nat) (h1 : q < a.length) (h2 : q < b.length) : (xors a b).take (q + 1) = (xors a b).take q ++ [bits .xor .u8 (a.getD q 0) (b.getD q 0)] := by
  have hx : q < (xors a b).length := by rw [xors_length]; omega
  have e := xors_at a b q h1 h2
  rw [List.getElem?_eq_getElem hx, Option.some.injEq] at e
  rw [List.take_succ_eq_append_getElem hx, e]
  simp [List.getD, h1, h2]

set_option maxRecDepth 100000 in
set_option maxHeartbeats 4000000 in
theorem specMix (a0 : Option Addr) (n0 c0 : Nat) (a1 : Option Addr) (n1 c1 : Nat) (ab : Option Addr) (nb cb : Nat) (k h b : List Int) (w : World) (e0 : n0 = k.length) (e1 : n1 = h.length) (eb : nb = b.length) (r0 : Rd w a0 k) (r1 : Rd w a1 h) (rb : Rd w ab b) (na0 : a0 = none → c0 = 0) (na1 : a1 = none → c1 = 0) (hb0 : Bytes k) (hb1 : Bytes h) (hbb : Bytes b) (l0 : n0 ≤ 2097152) (l1 : n1 ≤ 2097152) (lb : nb ≤ 2097152) :
    Calls Tryz.prog 63 #[.slice a0 n0 c0, .slice a1 n1 c1, .slice ab nb cb] w fun e w' =>
      ∃ g m c, e = .returned (.slice (some ⟨g, 0, none⟩) m c) ∧ m = (mixI k h b).length ∧ w.heap.size ≤ g ∧ Row w' g c (mixI k h b) ∧ Below w.heap.size w w' := by
  have HN0 : Hid (n0 = k.length) := e0
  have HN1 : Hid (n1 = h.length) := e1
  have HNB : Hid (nb = b.length) := eb
  have HR0 : Hid (Rd w a0 k) := r0
  have HR1 : Hid (Rd w a1 h) := r1
  have HRB : Hid (Rd w ab b) := rb
  have HB0 : Hid (Bytes k) := hb0
  have HB1 : Hid (Bytes h) := hb1
  have HBB : Hid (Bytes b) := hbb
  have A0 : Hid (Below w.heap.size w (w.alloc (.cells #[] 5))) := (Below.refl _ _).alloc (Nat.le_refl _) _
  have R0 : Hid (Row (w.alloc (.cells #[] 5)) w.heap.size 0 []) := row_new w [] (by simp)
  clear e0 e1 eb r0 r1 rb hb0 hb1 hbb
  cases hm : mayStr k h (b.length : Int) with
  | false =>
    have HE : Hid (mixI k h b = []) := mixI_no k h b hm
    have hno : ¬ (nb ≤ 200 ∧ n1 ≤ 100 ∧ n0 ≤ 1048576) := by
      intro x; rw [HN0.out, HN1.out, HNB.out] at x; rw [(mayStr_iff k h (b.length : Int)).2 ⟨by omega, by omega, x.2⟩] at hm; cases hm
    clear hm
    by_cases h1 : nb ≤ 200
    · by_cases h2 : n1 ≤ 100
      · have q0 : ¬ ((nb : Int) > 200) := by omega
        have q1 : ¬ ((n1 : Int) > 100) := by omega
        have q2 : (n0 : Int) > 1048576 := by omega
        clear hno
        go_enter Tryz.func63, Tryz.ntmps63
        go_wp2
        go_ret
        exact ⟨w.heap.size, 0, 0, by simp, by rw [HE.out]; rfl, Nat.le_refl _, by rw [HE.out]; exact R0.out, A0.out⟩
      · have q0 : ¬ ((nb : Int) > 200) := by omega
        have q1 : (n1 : Int) > 100 := by omega
        clear hno
        go_enter Tryz.func63, Tryz.ntmps63
        go_wp2
        go_ret
        exact ⟨w.heap.size, 0, 0, by simp, by rw [HE.out]; rfl, Nat.le_refl _, by rw [HE.out]; exact R0.out, A0.out⟩
    · have q0 : (nb : Int) > 200 := by omega
      clear hno
      go_enter Tryz.func63, Tryz.ntmps63
      go_wp2
      go_ret
      exact ⟨w.heap.size, 0, 0, by simp, by rw [HE.out]; rfl, Nat.le_refl _, by rw [HE.out]; exact R0.out, A0.out⟩
  | true =>
    obtain ⟨h0, h1, h2, h3⟩ := (mayStr_iff k h (b.length : Int)).1 hm
    have HE : Hid (mixI k h b = xors b (strI k h (b.length : Int))) := mixI_of k h b hm
    have HSL : Hid ((strI k h (nb : Int)).length = nb) := by show _ = _; rw [HNB.out]; exact strI_len k h _ hm
    have HEL : Hid (nb = (mixI k h b).length) := by show _ = _; rw [mixI_len k h b hm]; exact HNB.out
    have hnb : nb ≤ 200 := by have := HNB.out; omega
    rw [← HN1.out] at h2
    rw [← HN0.out] at h3
    have q0 : ¬ ((nb : Int) > 200) := by omega
    have q1 : ¬ ((n1 : Int) > 100) := by omega
    have q2 : ¬ ((n0 : Int) > 1048576) := by omega
    clear hm h0 h1
    go_enter Tryz.func63, Tryz.ntmps63
    go_wp2_with fail
    refine (specStream a0 n0 c0 a1 n1 c1 k h (nb : Int) _ HN0.out HN1.out (HR0.out.later A0.out (Nat.le_refl _)) (HR1.out.later A0.out (Nat.le_refl _)) na0 na1 HB0.out HB1.out l0 l1).mono ?_
    rintro e w2 ⟨gs, ms, cs, rfl, es, ks, rs, bs⟩
    obtain rfl : ms = nb := by rw [es, HSL.out]
    rw [← HNB.out] at HE
    obtain ⟨s, hs⟩ : ∃ s, strI k h (ms : Int) = s := ⟨_, rfl⟩
    rw [hs] at HE HSL rs
    have SB : Hid (Bytes s) := by rw [← hs]; exact strI_bytes k h _
    have RS : Hid (Row w2 gs cs s) := rs
    have B2 : Hid (Below w.heap.size w w2) := A0.out.trans (bs.mono A0.out.size)
    have RO : Hid (Row w2 w.heap.size 0 ((xors b s).take 0)) := R0.out.later bs
    have NS : Hid (w.heap.size ≠ gs) := Nat.ne_of_lt (Nat.lt_of_lt_of_le R0.out.lt ks)
    have GS : Hid (w.heap.size ≤ gs) := Nat.le_trans A0.out.size ks
    clear es ks rs bs hs
    go_wp2
    go_loopw [7, 9] (fun v i wr => ∃ q go co : Nat, q ≤ ms ∧ i = .int .i64 (q : Int) ∧ v = .slice (some ⟨go, 0, none⟩) q co ∧ w.heap.size ≤ go ∧ go ≠ gs ∧ Row wr go co ((xors b s).take q) ∧ Row wr gs cs s ∧ Below w.heap.size w wr)
      (fun _ i _ => ms - (intOf i).toNat)
    case atStart => exact ⟨0, w.heap.size, 0, by omega, rfl, rfl, Nat.le_refl _, NS.out, RO.out, RS.out, B2.out⟩
    case round =>
      obtain ⟨q, go, co, hq, rfl, rfl, hgo, hne, hRo, hRs, hbe⟩ := hrel
      have HRo : Hid (Row wr go co ((xors b s).take q)) := hRo
      have HRs : Hid (Row wr gs cs s) := hRs
      have HBe : Hid (Below w.heap.size w wr) := hbe
      have HNE : Hid (go ≠ gs) := hne
      have HQL : Hid (q = ((xors b s).take q).length) := by show _ = _; rw [List.length_take, xors_length, HSL.out, ← HNB.out]; omega
      clear RO RS B2 hRo hRs hbe hne
      by_cases hlt : q < ms
      · have hltI : (q : Int) < (ms : Int) := by omega
        have i0 : (0 : Int) ≤ (q : Int) := by omega
        have HT : Hid ((xors b s).take (q + 1) = (xors b s).take q ++ [bits .xor .u8 (b.getD q 0) (s.getD q 0)]) := xors_take b s q (by rw [← HNB.out]; exact hlt) (by rw [HSL.out]; exact hlt)
        obtain ⟨bb, bo, rfl, hbl, p1⟩ := (HRB.out.later HBe.out (Nat.le_refl _)) q (by rw [← HNB.out]; exact hlt)
        have p2 := HRs.out.cell q (by rw [HSL.out]; exact hlt)
        have HBL : Hid (∀ wx, Below w.heap.size w wx → wx.cell? ⟨bb, bo + q, none⟩ = some (.int .u8 (b.getD q 0))) := fun wx hb => by
          obtain ⟨b', o', e, _, hc⟩ := (HRB.out.later hb (Nat.le_refl _)) q (by rw [← HNB.out]; exact hlt)
          simp only [Option.some.injEq, Addr.mk.injEq, and_true] at e
          obtain ⟨rfl, rfl⟩ := e
          exact hc
        have HSS : Hid (∀ wx, Row wx gs cs s → wx.cell? ⟨gs, q, none⟩ = some (.int .u8 (s.getD q 0))) := fun wx hx => hx.cell q (by rw [HSL.out]; exact hlt)
        generalize b.getD q 0 = z1 at *
        generalize s.getD q 0 = z2 at *
        clear hbl
        go_wp2
        go_region_held3 (fun w' => w'.cell? ⟨bb, bo + q, none⟩ = some (.int .u8 z1) ∧ w'.cell? ⟨gs, q, none⟩ = some (.int .u8 z2)) (first | exact ⟨p3, p4⟩ | exact ⟨p1, p2⟩ | exact ⟨HBL.out _ (HBe.out.drew.alloc HBe.out.size _), HSS.out _ (row_alloc (w := wr.drew) HRs.out _)⟩ | go_keep)
          ((refine bstep_at rfl (.tmp 36) (.tmp 46) rfl w.heap.size go q co ((xors b s).take q) [bits .xor .u8 z1 z2] (by rfl) HQL.out (row_alloc (w := wr.drew) HRo.out _) hgo ⟨wr.heap.size, 0, none⟩ 1 1 (by rfl) rfl (rd_one wr.drew _) (by rw [← HQL.out, List.length_singleton]; omega) ?_; intro g3 c3 w3 r3 k3 l3 gr3; have R3 : Hid (Row w3 g3 c3 ((xors b s).take (q + 1))) := (by show Row _ _ _ _; rw [HT.out]; exact r3); have G3 : Hid (w.heap.size ≤ g3) := k3; have S3 : Hid (Row w3 gs cs s) := (row_alloc (w := wr.drew) HRs.out _).keep (gr3.block gs (row_alloc (w := wr.drew) HRs.out _).lt (by simp only [ne_eq, Option.some.injEq]; exact Ne.symm HNE.out)); have N3 : Hid (g3 ≠ gs) := (by rcases l3 with rfl | h; exact HNE.out; exact Nat.ne_of_gt (Nat.lt_of_lt_of_le (row_alloc (w := wr.drew) HRs.out _).lt h)); have B3 : Hid (Below w.heap.size w w3) := (HBe.out.drew.alloc HBe.out.size _).grown gr3 (Below.size (HBe.out.drew.alloc HBe.out.size _)) (fun k h => by cases h; exact hgo); have p3 := HBL.out w3 B3.out; have p4 := HSS.out w3 S3.out; clear r3 k3 l3 gr3))
        go_wp2
        go_roundw
        case rel => exact ⟨q + 1, g3, c3, by omega, by go_num, rfl, G3.out, N3.out, R3.out, S3.out, B3.out⟩
        case measure => simp [intOf]; omega
      · obtain rfl : q = ms := by omega
        have HF : Hid ((xors b s).take q = mixI k h b) := by
          show _ = _
          rw [HE.out, List.take_of_length_le (by rw [xors_length, HSL.out, ← HNB.out]; omega)]
        rw [HF.out] at HRo
        have hltI : ¬ ((q : Int) < (q : Int)) := by omega
        go_wp2
        go_ret
        exact ⟨go, q, co, rfl, HEL.out, hgo, HRo.out, HBe.out⟩
end Go.Proofs.YtmcflfpckpjphaaGreatDoor.StrS

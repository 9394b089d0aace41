/-
  What spec's PskOk and ProofBody answer.
  What spec's l2Out and Sha answer: the sum's 32 bytes, in new memory.
  What spec's BlockKey, Hmac and Tag answer.
-/
import Derived.Test.YtpenhliaelhnoaaGreatDoorVaGz3
import Derived.Test.YtpenhliaelhnoaaGreatDoorVaGz7
import Derived.Test.YtpenhliaelhnoaaGreatDoorVaGz6
import Derived.Test.YtpenhliaelhnoaaGreatDoorVaGz5
import Derived.Test.YtpenhliaelhnoaaGreatDoorVaGz15
set_option linter.unusedVariables false
set_option maxRecDepth 100000
namespace Go.Proofs.YtpenhliaelhnoaaGreatDoor.KeS
open Go.RowKit Mem App Blk Words Zone Res KeP Shp

theorem nil_ans {w x : World} (b : Below w.heap.size w x) : AnsB [] w (.returned (.slice (some ⟨x.heap.size, 0, none⟩) 0 0)) (x.alloc (.cells #[] 5)) :=
 ⟨⟨some ⟨x.heap.size, 0, none⟩, 0, 0⟩, rfl, SOwn.row (row_new x [] (by simp)) rfl (fun z hz => by cases hz) b.size (by rw [World.size_alloc]; exact Nat.lt_succ_self _), b.alloc b.size _⟩

theorem specPskOk (s : Sl) (l : List Int) (w : World) (h : SRd w s l) :
  Calls Tryz.prog 74 #[.slice s.a s.n s.c] w fun e w' => e = .returned (.bool (pskOk l.length)) ∧ w = w' := by
 have HN : Hid (s.n = l.length) := h.len
 clear h
 go_enter Tryz.func74, Tryz.ntmps74
 go_wp2_with fail
 refine (Words.l1In (s.n : Int) 1 32 w).mono ?_
 rintro e y ⟨rfl, rfl⟩
 go_wp2
 go_ret
 exact ⟨by rw [← HN.out]; rfl, rfl⟩
set_option maxHeartbeats 8000000 in
theorem specProofBody (id : Int) (c s : Sl) (cn sn : List Int) (tick : Int) (k : Sl) (ck : List Int) (w : World) (hc : SRd w c cn) (hs : SRd w s sn) (hk : SRd w k ck) :
  Calls Tryz.prog 57 #[.int .i64 id, .slice c.a c.n c.c, .slice s.a s.n s.c, .int .i64 tick, .slice k.a k.n k.c] w (AnsB (proofL id cn sn tick ck) w) := by
 have HC := hid (hc)
 have HNC : Hid (c.n = cn.length) := hc.len
 have HZC : Hid (c.a = none → c.c = 0) := hc.nil
 have HS := hid (hs)
 have HNS : Hid (s.n = sn.length) := hs.len
 have HZS : Hid (s.a = none → s.c = 0) := hs.nil
 have HK := hid (hk)
 have HNK : Hid (k.n = ck.length) := hk.len
 have HZK : Hid (k.a = none → k.c = 0) := hk.nil
 obtain ⟨R, hR⟩ : ∃ R, proofL id cn sn tick ck = R := ⟨_, rfl⟩
 have HRD : Hid (proofL id cn sn tick ck = R) := hR
 rw [hR]
 clear hc hs hk hR
 obtain ⟨ca, cN, cc⟩ := c
 obtain ⟨sa, sN, sc⟩ := s
 obtain ⟨ka, kN, kc⟩ := k
 go_enter Tryz.func57, Tryz.ntmps57
 have B0 : Hid (Below w.heap.size w w) := Below.refl _ _
 go_wp2_with fail
 refine (Words.l1In id 1 9 w).mono ?_
 rintro e y ⟨rfl, rfl⟩
 cases h0 : (isIn id 1 9) with
 | false =>
  obtain rfl : R = [] := by rw [← HRD.out]; exact proofL_no (by have e1 := HNC.out; have e2 := HNS.out; have e3 := HNK.out; unfold proofF; rw [← e1, ← e2, ← e3]; simp [h0])
  go_wp2
  go_ret
  exact nil_ans B0.out
 | true =>
  cases h1 : ((cN : Int) == 12) with
  | false =>
   have hne : ((cN : Int) != 12) = true := by simpa using h1
   obtain rfl : R = [] := by rw [← HRD.out]; exact proofL_no (by have e1 := HNC.out; have e2 := HNS.out; have e3 := HNK.out; unfold proofF; rw [← e1, ← e2, ← e3]; simp [h0, h1])
   go_wp2
   go_ret
   exact nil_ans B0.out
  | true =>
   have hne1 : ((cN : Int) != 12) = false := by simpa using h1
   cases h2 : ((sN : Int) == 12) with
   | false =>
    have hne : ((sN : Int) != 12) = true := by simpa using h2
    obtain rfl : R = [] := by rw [← HRD.out]; exact proofL_no (by have e1 := HNC.out; have e2 := HNS.out; have e3 := HNK.out; unfold proofF; rw [← e1, ← e2, ← e3]; simp [h0, h1, h2])
    go_wp2
    go_ret
    exact nil_ans B0.out
   | true =>
    have hne2 : ((sN : Int) != 12) = false := by simpa using h2
    go_wp2_with fail
    refine (Words.l1In tick 0 1000000 w).mono ?_
    rintro e y ⟨rfl, rfl⟩
    cases h3 : (isIn tick 0 1000000) with
    | false =>
     obtain rfl : R = [] := by rw [← HRD.out]; exact proofL_no (by have e1 := HNC.out; have e2 := HNS.out; have e3 := HNK.out; unfold proofF; rw [← e1, ← e2, ← e3]; simp [h0, h1, h2, h3])
     go_wp2
     go_ret
     exact nil_ans B0.out
    | true =>
     cases h4 : ((kN : Int) == 16) with
     | false =>
      have hne : ((kN : Int) != 16) = true := by simpa using h4
      obtain rfl : R = [] := by rw [← HRD.out]; exact proofL_no (by have e1 := HNC.out; have e2 := HNS.out; have e3 := HNK.out; unfold proofF; rw [← e1, ← e2, ← e3]; simp [h0, h1, h2, h3, h4])
      go_wp2
      go_ret
      exact nil_ans B0.out
     | true =>
      have hne4 : ((kN : Int) != 16) = false := by simpa using h4
      have HF : Hid (proofF id cn.length sn.length tick ck.length = true) := by have e1 := HNC.out; have e2 := HNS.out; have e3 := HNK.out; show proofF _ _ _ _ _ = true; unfold proofF; rw [← e1, ← e2, ← e3]; simp [h0, h1, h2, h3, h4]
      have HP := proofF_parts HF.out
      have HL : Hid (cn.length = 12 ∧ sn.length = 12 ∧ ck.length = 16) := ⟨HP.2.1, HP.2.2.1, HP.2.2.2.2⟩
      have HI : Hid (1 ≤ id ∧ id ≤ 9) := HP.1
      have HQ : Hid ([102, id] ++ cn ++ sn ++ putN tick 4 ++ ck = R) := by show _ = _; rw [← HRD.out, proofL_yes HF.out]
      have hw8 : IntKind.u8.wrap id = id := by rw [IntKind.wrap_u8']; have := HI.out; omega
      clear HP h0 h1 h2 h3 h4
      have A1 : Hid (Below w.heap.size w (w.alloc (.cells #[.int .u8 102, .int .u8 id] 5))) := (Below.refl _ _).alloc (Nat.le_refl _) _
      have Q1 : Hid (Row (w.alloc (.cells #[.int .u8 102, .int .u8 id] 5)) w.heap.size 2 [102, id]) := row_new w [102, id] (by simp [maxLen])
      go_wp2_with (first | (at_builtin; refine wpList_app _ rfl (.tmp 38) (.tmp 39) rfl w.heap.size w.heap.size 2 2 ([102, id]) (cn) rfl rfl Q1.out (Nat.le_refl _) ca cN cc rfl HNC.out ((HC.out.rd).later A1.out (Nat.le_refl _)) HZC.out (by rw [HL.out.1]; simp) ?_; intro g2 c2 y2 rr bb ll gr; have R2 := hid (rr); have G2 : Hid (w.heap.size ≤ g2) := bb; have B2_ : Hid (Below w.heap.size w y2) := A1.out.grown gr A1.out.size (fun k h => by cases h; exact (Nat.le_refl _)); clear rr bb ll gr) | (at_builtin; refine wpList_app _ rfl (.tmp 40) (.tmp 41) rfl w.heap.size g2 (2 + cN) c2 ([102, id] ++ cn) (sn) rfl (by rw [List.length_append, HNC.out]; rfl) R2.out G2.out sa sN sc rfl HNS.out ((HS.out.rd).later B2_.out (Nat.le_refl _)) HZS.out (by rw [List.length_append, HL.out.1, HL.out.2.1]; simp) ?_; intro g3 c3 y3 rr bb ll gr; have R3 := hid (rr); have G3 : Hid (w.heap.size ≤ g3) := bb; have B3_ : Hid (Below w.heap.size w y3) := B2_.out.grown gr B2_.out.size (fun k h => by cases h; exact G2.out); clear rr bb ll gr))
      refine (specPutN (some ⟨g3, 0, none⟩) (2 + cN + sN) c3 ([102, id] ++ cn ++ sn) tick 4 y3 (by have e1 := HNC.out; have e2 := HNS.out; rw [List.length_append, List.length_append, ← e1, ← e2]; rfl) R3.out.rd (by intro e; cases e) (by rw [List.length_append, List.length_append, HL.out.1, HL.out.2.1]; simp)).mono ?_
      rintro e y4 ⟨g4, m4, c4, rfl, em, kg, rr, b⟩
      have E4 : Hid (m4 = ([102, id] ++ cn ++ sn ++ putN tick 4).length) := em
      have R4 := hid (rr)
      have G4 : Hid (w.heap.size ≤ g4) := Nat.le_trans B3_.out.size kg
      have B4_ := hid (B3_.out.trans (b.mono B3_.out.size))
      have L4 : Hid (([102, id] ++ cn ++ sn ++ putN tick 4).length = 30) := by show _ = _; rw [List.length_append, List.length_append, List.length_append, putN4_len, HL.out.1, HL.out.2.1]; rfl
      obtain rfl : 30 = m4 := by rw [em, L4.out]
      clear em kg rr b
      go_wp2_with (at_builtin; refine wpList_app _ rfl (.tmp 45) (.tmp 46) rfl w.heap.size g4 30 c4 ([102, id] ++ cn ++ sn ++ putN tick 4) (ck) rfl E4.out R4.out G4.out ka kN kc rfl HNK.out ((HK.out.rd).later B4_.out (Nat.le_refl _)) HZK.out (by rw [L4.out, HL.out.2.2]; simp) ?_; intro g5 c5 y5 rr bb ll gr; have R5 := hid (rr); have G5 : Hid (w.heap.size ≤ g5) := bb; have B5_ : Hid (Below w.heap.size w y5) := B4_.out.grown gr B4_.out.size (fun k h => by cases h; exact G4.out); clear rr bb ll gr)
      have R6 : Hid (Row y5 g5 c5 R) := by rw [← HQ.out]; exact R5.out
      have E6 : Hid (30 + kN = R.length) := by rw [← HQ.out]; show _ = _; rw [List.length_append, L4.out, HNK.out]
      have HRB : Hid (Bytes R) := by rw [← HRD.out]; exact proofL_bytes HC.out.bytes HS.out.bytes HK.out.bytes
      go_ret
      exact ⟨⟨some ⟨g5, 0, none⟩, 30 + kN, c5⟩, by simp, SOwn.row R6.out E6.out HRB.out G5.out R6.out.lt, B5_.out⟩
end Go.Proofs.YtpenhliaelhnoaaGreatDoor.KeS

namespace Go.Proofs.YtpenhliaelhnoaaGreatDoor.ShaS
open Go.RowKit Mem MemI Blk App Get ShaP Word Bits Sched Words WordsOf Comp CompS Go.Proofs.YtpenhliaelhnoaaGreatDoor.Start Cuts Pads Adds Ends

theorem putN4 (z : Int) : putN z 4 = num z 4 := rfl
set_option maxHeartbeats 800000 in
theorem l2Out (gh ch : Nat) (h : List Int) (w : World) (hh : h.length = 8) (hr : IRow w gh ch h) :
  Calls Tryz.prog 103 #[.slice (some ⟨gh, 0, none⟩) 8 ch] w fun e w' =>
   ∃ g c, e = .returned (.slice (some ⟨g, 0, none⟩) 32 c) ∧ w.heap.size ≤ g ∧ Row w' g c (outB h) ∧ Below w.heap.size w w' := by
 have HH : Hid (h.length = 8) := hh
 have HR := hid (hr)
 have A0 : Hid (Below w.heap.size w (w.alloc (.cells #[] 5))) := (Below.refl _ _).alloc (Nat.le_refl _) _
 have R0 : Hid (Row (w.alloc (.cells #[] 5)) w.heap.size 0 (outB (h.take 0))) := row_new w [] (by simp)
 clear hh hr
 go_enter Tryz.func103, Tryz.ntmps103
 go_wp2
 go_loopw [3, 4] (fun v i wr => ∃ k gg cc : Nat, k ≤ 8 ∧ i = .int .i64 k ∧ v = .slice (some ⟨gg, 0, none⟩) (4 * k) cc ∧ w.heap.size ≤ gg ∧ Row wr gg cc (outB (h.take k)) ∧ Below w.heap.size w wr)
  (fun _ i _ => 8 - (intOf i).toNat)
 case atStart => exact ⟨0, w.heap.size, 0, Nat.zero_le _, rfl, rfl, Nat.le_refl _, R0.out, A0.out⟩
 case round =>
  obtain ⟨k, gg, cc, hk, rfl, rfl, hgg, hRow, hbe⟩ := hrel
  have HRow := hid (hRow)
  have HBe := hid (hbe)
  clear R0 A0 hRow hbe
  by_cases hlt : k < 8
  ·
   have hc := (HR.out.later HBe.out).cell k (by rw [HH.out]; exact hlt)
   have HT1 : Hid (outB (h.take (k + 1)) = outB (h.take k) ++ putN (h.getD k 0) 4) := by
    show _ = _
    rw [List.take_succ_eq_append_getElem (by rw [HH.out]; exact hlt), outB_snoc, putN4]
    simp [List.getD, HH.out, hlt]
   have HOL : Hid (4 * k = (outB (h.take k)).length) := by show _ = _; rw [outB_length, List.length_take, HH.out]; omega
   generalize h.getD k 0 = z at *
   go_wp2_with fail
   refine (specPutN _ (4 * k) cc _ z 4 wr HOL.out HRow.out.rd (by intro e; cases e) (by rw [← HOL.out]; omega)).mono ?_
   rintro e w2 ⟨g2, m2, c2, rfl, e2, k2, r2, b2⟩
   have HM : Hid (m2 = 4 * (k + 1)) := by show _ = _; rw [e2, List.length_append, ← HOL.out, putN4, num_length]; omega
   have K2 : Hid (w.heap.size ≤ g2) := Nat.le_trans HBe.out.size k2
   have R2 := hid (r2)
   have B2 := hid (HBe.out.trans (b2.mono HBe.out.size))
   clear e2 k2 r2 b2
   go_wp2
   go_roundw
   case rel => exact ⟨k + 1, g2, c2, by omega, by go_num, by rw [HM.out], K2.out, by rw [HT1.out]; exact R2.out, B2.out⟩
   case measure => simp [intOf]; omega
  ·
   obtain rfl : k = 8 := by omega
   have HT8 : Hid (outB h = outB (h.take 8)) := by show _ = _; rw [List.take_of_length_le (by rw [HH.out]; exact Nat.le_refl _)]
   go_wp2
   go_ret
   exact ⟨gg, cc, rfl, hgg, by rw [HT8.out]; exact HRow.out, HBe.out⟩

theorem compI_ok (h b : List Int) (hh : h.length = 8) (hw : Wds h) (hb : b.length = 64) : compI h b = comp h b := by
 unfold compI; rw [if_pos ⟨(okw_iff h).2 ⟨hh, hw⟩, hb⟩]

set_option maxHeartbeats 2000000 in
theorem specSha (a : Option Addr) (n cap : Nat) (b : List Int) (w : World) (hn : n = b.length) (hr : Rd w a b) (na : a = none → cap = 0) (hb : Bytes b) (hl : n ≤ 2097152) :
  Calls Tryz.prog 92 #[.slice a n cap] w fun e w' =>
   ∃ g m c, e = .returned (.slice (some ⟨g, 0, none⟩) m c) ∧ m = (shaI b).length ∧ w.heap.size ≤ g ∧ Row w' g c (shaI b) ∧ Below w.heap.size w w' := by
 have HN : Hid (n = b.length) := hn
 have HR := hid (hr)
 have HB := hid (hb)
 have A0 : Hid (Below w.heap.size w (w.alloc (.cells #[] 5))) := (Below.refl _ _).alloc (Nat.le_refl _) _
 have R0 : Hid (Row (w.alloc (.cells #[] 5)) w.heap.size 0 []) := row_new w [] (by simp)
 clear hn hr hb
 by_cases h1 : n ≤ 1048576
 ·
  have HS : Hid (shaI b = outB (run start8 (b ++ padI (n : Int)) ((b ++ padI (n : Int)).length / 64))) := by
   show _ = _
   unfold shaI; rw [if_pos (by rw [← HN.out]; exact h1), padI_nat n h1, HN.out]; rfl
  have HPL : Hid ((padI (n : Int)).length = 9 + (64 - (n + 9) % 64) % 64) := by show _ = _; rw [padI_nat n h1, padOf_length]
  go_enter Tryz.func92, Tryz.ntmps92
  go_wp2_with (at_builtin; refine wpList_app _ rfl (.tmp 10) (.tmp 11) rfl w.heap.size w.heap.size 0 0 [] b rfl rfl R0.out (Nat.le_refl _) a n cap rfl HN.out (HR.out.later A0.out (Nat.le_refl _)) na (by rw [← HN.out]; simp; omega) ?_; intro g1 c1 w1 r1 b1 l1 gr1; have R1 : Hid (Row w1 g1 c1 b) := (List.nil_append b) ▸ r1; have B1 : Hid (Below w.heap.size w w1) := A0.out.grown gr1 A0.out.size (fun k h => by cases h; exact Nat.le_refl _); clear r1 gr1 l1)
  refine (specPad (n : Int) w1).mono ?_
  rintro e w2 ⟨gp, mp, cp, rfl, e2, k2, r2, b2⟩
  have R2 := hid (r2)
  have E2 : Hid (mp = (padI (n : Int)).length) := e2
  have B2 := hid (B1.out.trans (b2.mono B1.out.size))
  have R12 := hid (R1.out.later b2)
  clear r2 e2 k2 b2
  go_wp2_with (at_builtin; refine wpList_app _ rfl (.tmp 12) (.tmp 15) rfl w.heap.size g1 n c1 b (padI (n : Int)) (by simp [Act.eval]) HN.out R12.out b1 (some ⟨gp, 0, none⟩) mp cp rfl E2.out R2.out.rd (by intro e; cases e) (by rw [← HN.out, HPL.out]; omega) ?_; intro g3 c3 w3 r3 b3 l3 gr3; have R3 := hid (r3); have B3 : Hid (Below w.heap.size w w3) := B2.out.grown gr3 B2.out.size (fun k h => by cases h; exact b1); clear r3 gr3 l3)
  obtain ⟨x, hx⟩ : ∃ x, b ++ padI (n : Int) = x := ⟨_, rfl⟩
  rw [hx] at HS R3
  obtain ⟨L, hL⟩ : ∃ L, n + mp = L := ⟨_, rfl⟩
  have HL : Hid (x.length = L) := by rw [← hx, ← hL, List.length_append, ← HN.out, ← E2.out]; simp [Hid]
  obtain ⟨Q, hQ⟩ : ∃ Q, L = 64 * Q := ⟨L / 64, by have := hid2 HPL E2; omega⟩
  subst hQ
  have HXB : Hid (Bytes x) := by
   rw [← hx]
   exact fun z hz => (List.mem_append.1 hz).elim (HB.out z) (padI_bytes _ z)
  have hQm : 64 * Q ≤ 4194304 := by have := hid2 HPL E2; omega
  rw [hL]
  clear hL hx R1 B1 R2 R12 B2 E2 HPL
  go_wp2_with fail
  refine (specStart w3).mono ?_
  rintro e w4 ⟨rfl, r4, b4⟩
  have HS8 : Hid (start8.length = 8) := (rfl : start8.length = 8)
  have HSW : Hid (Wds start8) := start8_wds
  have KH := hid (B3.out.size)
  have RH := hid (r4)
  have RX := hid (R3.out.later b4)
  have BX := hid (B3.out.trans (b4.mono B3.out.size))
  clear r4 b4 R3 B3
  go_wp2
  go_loopw [4, 5] (fun v i wr => ∃ q gh ch : Nat, q ≤ Q ∧ i = .int .i64 (64 * (q : Int)) ∧ v = .slice (some ⟨gh, 0, none⟩) 8 ch ∧ w.heap.size ≤ gh ∧ IRow wr gh ch (run start8 x q) ∧ Row wr g3 c3 x ∧ Below w.heap.size w wr)
   (fun _ i _ => 64 * Q - (intOf i).toNat)
  case atStart => exact ⟨0, w3.heap.size, 8, Nat.zero_le _, rfl, rfl, KH.out, RH.out, RX.out, BX.out⟩
  case round =>
   obtain ⟨q, gh, ch, hq, rfl, rfl, hgh, hH, hX, hbe⟩ := hrel
   have HH := hid (hH)
   have HX := hid (hX)
   have HBe := hid (hbe)
   have HRL : Hid ((run start8 x q).length = 8) := run_length start8 x q HS8.out
   have HRW : Hid (Wds (run start8 x q)) := run_wds start8 x q HSW.out
   have hc3 : 64 * Q ≤ c3 := by have := hX.1; rw [HL.out] at this; exact this
   clear hH hX hbe KH RH RX BX
   by_cases hlt : q < Q
   ·
    have HPL2 : Hid ((piece x (64 * q) 64).length = 64) := piece_length x (64 * q) 64 (by rw [HL.out]; omega)
    have HP : Hid (Rd wr (some ⟨g3, 64 * q, none⟩) (piece x (64 * q) 64)) := by
     have := rd_piece HX.out.rd (64 * q) 64 (by rw [HL.out]; omega)
     rwa [Nat.zero_add] at this
    have HPB : Hid (Bytes (piece x (64 * q) 64)) := piece_bytes HXB.out _ _
    have HCI : Hid (compI (run start8 x q) (piece x (64 * q) 64) = run start8 x (q + 1)) := compI_ok _ _ HRL.out HRW.out HPL2.out
    have i1 : (64 * (q : Int)) < 64 * (Q : Int) := by omega
    have i2 : (64 * (q : Int)) + 64 ≤ 64 * (Q : Int) := by omega
    go_wp2_with fail
    refine (specCompress (some ⟨gh, 0, none⟩) 8 ch (run start8 x q) (some ⟨g3, 64 * q, none⟩) _ _ (piece x (64 * q) 64) wr HRL.out.symm HH.out.rd (by intro e; cases e) (by omega) (by rw [HPL2.out]) HP.out HPB.out (by omega)).mono ?_
    rintro e w5 ⟨g5, m5, c5, rfl, e5, k5, r5, b5⟩
    rw [HCI.out] at e5 r5
    obtain rfl : m5 = 8 := by rw [e5, run_length start8 x (q + 1) HS8.out]
    have R5 := hid (r5)
    have K5 : Hid (w.heap.size ≤ g5) := Nat.le_trans HBe.out.size k5
    have B5 := hid (HBe.out.trans (b5.mono HBe.out.size))
    have X5 := hid (HX.out.later b5)
    clear r5 e5 k5 b5 HCI HPB HP HPL2
    go_wp2
    go_roundw
    case rel => exact ⟨q + 1, g5, c5, by omega, by go_num, rfl, K5.out, R5.out, X5.out, B5.out⟩
    case measure => simp [intOf]; omega
   ·
    obtain rfl : q = Q := by omega
    have i3 : ¬ (64 * (q : Int) < 64 * (q : Int)) := by omega
    go_wp2_with fail
    refine (l2Out gh ch (run start8 x q) wr HRL.out HH.out).mono ?_
    rintro e w6 ⟨g6, c6, rfl, k6, r6, b6⟩
    have HE : Hid (shaI b = outB (run start8 x q)) := by
     show _ = _
     rw [HS.out, HL.out, Nat.mul_div_cancel_left q (by omega)]
    have HE2 : Hid ((shaI b).length = 32) := by show _ = _; rw [HE.out, outB_length, HRL.out]
    have K6 : Hid (w.heap.size ≤ g6) := Nat.le_trans HBe.out.size k6
    have R6 : Hid (Row w6 g6 c6 (shaI b)) := by show Row _ _ _ _; rw [HE.out]; exact r6
    have B6 := hid (HBe.out.trans (b6.mono HBe.out.size))
    clear r6 k6 b6
    go_wp2
    go_ret
    exact ⟨g6, 32, c6, rfl, HE2.out.symm, K6.out, R6.out, B6.out⟩
 ·
  have HS : Hid (shaI b = []) := by show _ = _; unfold shaI; rw [if_neg (by rw [← HN.out]; exact h1)]
  clear HR HB
  go_enter Tryz.func92, Tryz.ntmps92
  go_wp2
  go_ret
  exact ⟨w.heap.size, 0, 0, by simp, by rw [HS.out]; rfl, Nat.le_refl _, by rw [HS.out]; exact R0.out, A0.out⟩
end Go.Proofs.YtpenhliaelhnoaaGreatDoor.ShaS

namespace Go.Proofs.YtpenhliaelhnoaaGreatDoor.MacS
open Go.RowKit Mem MemI Blk App Get ShaP Cuts Ends ShaS MacP Pads AppAt

theorem keyI_of (k : List Int) (h : k.length ≤ 1048576) : keyI k = short k ++ List.replicate (64 - (short k).length) 0 := by unfold keyI; rw [if_pos h]
theorem zeros_snoc (l : List Int) (j : Nat) : l ++ List.replicate j (0 : Int) ++ [0] = l ++ List.replicate (j + 1) 0 := by
 rw [List.append_assoc, List.replicate_succ']
theorem mix_take (p : Int) (l : List Int) (k : Nat) (h : k < l.length) : mix p (l.take (k + 1)) = mix p (l.take k) ++ [bits .xor .u8 (l.getD k 0) p] := by
 have e : l.getD k 0 = l[k] := by simp [List.getD, h]
 rw [List.take_succ_eq_append_getElem h, e]
 simp only [mix, List.map_append, List.map_cons, List.map_nil]

set_option maxHeartbeats 1600000 in
theorem specBlockKey (a : Option Addr) (n cap : Nat) (k : List Int) (w : World) (hn : n = k.length) (hr : Rd w a k) (na : a = none → cap = 0) (hb : Bytes k) (hl : n ≤ 2097152) :
  Calls Tryz.prog 91 #[.slice a n cap] w fun e w' =>
   ∃ g m c, e = .returned (.slice (some ⟨g, 0, none⟩) m c) ∧ m = (keyI k).length ∧ w.heap.size ≤ g ∧ Row w' g c (keyI k) ∧ Below w.heap.size w w' := by
 have HN : Hid (n = k.length) := hn
 have HR := hid (hr)
 have HB := hid (hb)
 have A0 : Hid (Below w.heap.size w (w.alloc (.cells #[] 5))) := (Below.refl _ _).alloc (Nat.le_refl _) _
 have R0 : Hid (Row (w.alloc (.cells #[] 5)) w.heap.size 0 []) := row_new w [] (by simp)
 clear hn hr hb
 by_cases h1 : n ≤ 1048576
 ·
  have HK : Hid (keyI k = short k ++ List.replicate (64 - (short k).length) 0) := keyI_of k (by rw [← HN.out]; exact h1)
  have HSL : Hid ((short k).length ≤ 64) := short_len k (by rw [← HN.out]; exact h1)
  have h1I : ¬ ((n : Int) > 1048576) := by omega
  by_cases h2 : n ≤ 64
  ·
   have h2I : ¬ ((n : Int) > 64) := by omega
   have HSH : Hid (short k = k) := by show _ = _; unfold short; rw [if_pos (by rw [← HN.out]; exact h2)]
   go_enter Tryz.func91, Tryz.ntmps91
   go_wp2_with (at_builtin; refine wpList_app _ rfl (.tmp 8) (.tmp 9) rfl w.heap.size w.heap.size 0 0 [] k rfl rfl R0.out (Nat.le_refl _) a n cap rfl HN.out (HR.out.later A0.out (Nat.le_refl _)) na (by rw [← HN.out]; simp; omega) ?_; intro g1 c1 w1 r1 b1 l1 gr1; have R1 : Hid (Row w1 g1 c1 k) := (List.nil_append k) ▸ r1; have G1 : Hid (w.heap.size ≤ g1) := b1; have B1 : Hid (Below w.heap.size w w1) := A0.out.grown gr1 A0.out.size (fun k h => by cases h; exact Nat.le_refl _); clear r1 b1 l1 gr1)
   have EM : Hid (n = (short k).length) := by show _ = _; rw [HSH.out]; exact HN.out
   have R2 : Hid (Row w1 g1 c1 (short k)) := by show Row _ _ _ _; rw [HSH.out]; exact R1.out
   clear R1
   go_loopw [3] (fun v wr => ∃ j gg cc : Nat, n + j ≤ 64 ∧ v = .slice (some ⟨gg, 0, none⟩) (n + j) cc ∧ w.heap.size ≤ gg ∧ Row wr gg cc (short k ++ List.replicate j 0) ∧ Below w.heap.size w wr)
    (fun v _ => 64 - lenOf v)
   case atStart => exact ⟨0, g1, c1, by have := hid2 HSL EM; omega, by simp, G1.out, by simpa using R2.out, B1.out⟩
   case round =>
    obtain ⟨j, gg, cc, hj, rfl, hgg, hRow, hbe⟩ := hrel
    have HRow := hid (hRow)
    have HBe := hid (hbe)
    clear R2 B1 hRow hbe
    by_cases hlt : n + j < 64
    ·
     have hI : ((n + j : Nat) : Int) < 64 := by omega
     have HLN : Hid (n + j = (short k ++ List.replicate j (0 : Int)).length) := by show _ = _; rw [List.length_append, List.length_replicate, EM.out]
     have A1 : Hid (Below w.heap.size w (wr.alloc (.cells #[.int .u8 0] 5))) := HBe.out.alloc HBe.out.size _
     generalize hL : n + j = L at *
     go_wp2_with (at_builtin; refine wpList_app _ rfl (.tmp 19) (.tmp 20) rfl w.heap.size gg L cc (short k ++ List.replicate j 0) [0] rfl HLN.out (row_alloc HRow.out _) hgg (some ⟨wr.heap.size, 0, none⟩) 1 1 rfl rfl (rd_one wr 0) (by intro e; cases e) (by rw [← HLN.out]; simp; omega) ?_; intro g3 c3 w3 r3 k3 l3 gr3; have R3 : Hid (Row w3 g3 c3 (short k ++ List.replicate (j + 1) 0)) := (zeros_snoc (short k) j) ▸ r3; have G3 : Hid (w.heap.size ≤ g3) := k3; have B3 : Hid (Below w.heap.size w w3) := A1.out.grown gr3 A1.out.size (fun k h => by cases h; exact hgg); clear r3 k3 l3 gr3)
     go_roundw
     case rel => exact ⟨j + 1, g3, c3, by omega, by rw [← Nat.add_assoc, hL], G3.out, R3.out, B3.out⟩
     case measure => simp [lenOf]; omega
    ·
     have hI : ¬ (((n + j : Nat) : Int) < 64) := by omega
     have HJ : Hid (j = 64 - (short k).length) := by show _ = _; have := EM.out; omega
     have HM : Hid (n + j = 64) := by show _ = _; omega
     go_wp2
     go_ret
     exact ⟨gg, n + j, cc, rfl, by rw [HK.out, HM.out, List.length_append, List.length_replicate]; have := HSL.out; omega, hgg, by rw [HK.out, ← HJ.out]; exact HRow.out, HBe.out⟩
  ·
   have h2I : (n : Int) > 64 := by omega
   have HSH : Hid (short k = shaI k) := by show _ = _; unfold short; rw [if_neg (by rw [← HN.out]; exact h2)]
   go_enter Tryz.func91, Tryz.ntmps91
   go_wp2_with (at_builtin; refine wpList_app _ rfl (.tmp 8) (.tmp 9) rfl w.heap.size w.heap.size 0 0 [] k rfl rfl R0.out (Nat.le_refl _) a n cap rfl HN.out (HR.out.later A0.out (Nat.le_refl _)) na (by rw [← HN.out]; simp; omega) ?_; intro g1 c1 w1 r1 b1 l1 gr1; have R1 : Hid (Row w1 g1 c1 k) := (List.nil_append k) ▸ r1; have G1 : Hid (w.heap.size ≤ g1) := b1; have B1 : Hid (Below w.heap.size w w1) := A0.out.grown gr1 A0.out.size (fun k h => by cases h; exact Nat.le_refl _); clear r1 b1 l1 gr1)
   refine (specSha a n cap k w1 HN.out (HR.out.later B1.out (Nat.le_refl _)) na HB.out (by omega)).mono ?_
   rintro e w2 ⟨g2, m2, c2, rfl, e2, k2, r2, b2⟩
   have EM : Hid (m2 = (short k).length) := by show _ = _; rw [HSH.out]; exact e2
   have R2 : Hid (Row w2 g2 c2 (short k)) := by show Row _ _ _ _; rw [HSH.out]; exact r2
   have G2 : Hid (w.heap.size ≤ g2) := Nat.le_trans B1.out.size k2
   have B2 := hid (B1.out.trans (b2.mono B1.out.size))
   clear R1 e2 r2 k2 b2
   go_wp2
   go_loopw [3] (fun v wr => ∃ j gg cc : Nat, m2 + j ≤ 64 ∧ v = .slice (some ⟨gg, 0, none⟩) (m2 + j) cc ∧ w.heap.size ≤ gg ∧ Row wr gg cc (short k ++ List.replicate j 0) ∧ Below w.heap.size w wr)
    (fun v _ => 64 - lenOf v)
   case atStart => exact ⟨0, g2, c2, by have := hid2 HSL EM; omega, by simp, G2.out, by simpa using R2.out, B2.out⟩
   case round =>
    obtain ⟨j, gg, cc, hj, rfl, hgg, hRow, hbe⟩ := hrel
    have HRow := hid (hRow)
    have HBe := hid (hbe)
    clear R2 B2 hRow hbe
    by_cases hlt : m2 + j < 64
    ·
     have hI : ((m2 + j : Nat) : Int) < 64 := by omega
     have HLN : Hid (m2 + j = (short k ++ List.replicate j (0 : Int)).length) := by show _ = _; rw [List.length_append, List.length_replicate, EM.out]
     have A1 : Hid (Below w.heap.size w (wr.alloc (.cells #[.int .u8 0] 5))) := HBe.out.alloc HBe.out.size _
     generalize hL : m2 + j = L at *
     go_wp2_with (at_builtin; refine wpList_app _ rfl (.tmp 19) (.tmp 20) rfl w.heap.size gg L cc (short k ++ List.replicate j 0) [0] rfl HLN.out (row_alloc HRow.out _) hgg (some ⟨wr.heap.size, 0, none⟩) 1 1 rfl rfl (rd_one wr 0) (by intro e; cases e) (by rw [← HLN.out]; simp; omega) ?_; intro g3 c3 w3 r3 k3 l3 gr3; have R3 : Hid (Row w3 g3 c3 (short k ++ List.replicate (j + 1) 0)) := (zeros_snoc (short k) j) ▸ r3; have G3 : Hid (w.heap.size ≤ g3) := k3; have B3 : Hid (Below w.heap.size w w3) := A1.out.grown gr3 A1.out.size (fun k h => by cases h; exact hgg); clear r3 k3 l3 gr3)
     go_roundw
     case rel => exact ⟨j + 1, g3, c3, by omega, by rw [← Nat.add_assoc, hL], G3.out, R3.out, B3.out⟩
     case measure => simp [lenOf]; omega
    ·
     have hI : ¬ (((m2 + j : Nat) : Int) < 64) := by omega
     have HJ : Hid (j = 64 - (short k).length) := by show _ = _; have := EM.out; omega
     have HM : Hid (m2 + j = 64) := by show _ = _; omega
     go_wp2
     go_ret
     exact ⟨gg, m2 + j, cc, rfl, by rw [HK.out, HM.out, List.length_append, List.length_replicate]; have := HSL.out; omega, hgg, by rw [HK.out, ← HJ.out]; exact HRow.out, HBe.out⟩
 ·
  have HK : Hid (keyI k = []) := keyI_none k (by rw [← HN.out]; exact h1)
  have h1I : (n : Int) > 1048576 := by omega
  go_enter Tryz.func91, Tryz.ntmps91
  go_wp2
  go_ret
  exact ⟨w.heap.size, 0, 0, by simp, by rw [HK.out]; rfl, Nat.le_refl _, by rw [HK.out]; exact R0.out, A0.out⟩

set_option maxHeartbeats 3200000 in
theorem specHmac (a0 : Option Addr) (n0 c0 : Nat) (a1 : Option Addr) (n1 c1 : Nat) (k b : List Int) (w : World) (e0 : n0 = k.length) (e1 : n1 = b.length) (r0 : Rd w a0 k) (r1 : Rd w a1 b) (na0 : a0 = none → c0 = 0) (na1 : a1 = none → c1 = 0) (hb0 : Bytes k) (hb1 : Bytes b) (l0 : n0 ≤ 2097152) (l1 : n1 ≤ 2097152) :
  Calls Tryz.prog 78 #[.slice a0 n0 c0, .slice a1 n1 c1] w fun e w' =>
   ∃ g m c, e = .returned (.slice (some ⟨g, 0, none⟩) m c) ∧ m = (hmacI k b).length ∧ w.heap.size ≤ g ∧ Row w' g c (hmacI k b) ∧ Below w.heap.size w w' := by
 have HN0 : Hid (n0 = k.length) := e0
 have HN1 : Hid (n1 = b.length) := e1
 have HR0 := hid (r0)
 have HR1 := hid (r1)
 have HB0 := hid (hb0)
 have HB1 := hid (hb1)
 clear e0 e1 r0 r1 hb0 hb1
 by_cases h1 : n0 ≤ 1048576 ∧ n1 ≤ 1048512
 ·
  have HL : Hid ((keyI k).length = 64) := keyI_len k (by rw [← HN0.out]; exact h1.1)
  have HH : Hid (hmacI k b = shaI (mix 92 (keyI k) ++ shaI (mix 54 (keyI k) ++ b))) := by
   show _ = _
   unfold hmacI; rw [if_pos ⟨by rw [← HN0.out]; exact h1.1, by rw [← HN1.out]; exact h1.2⟩]
  have HKB : Hid (Bytes (keyI k)) := keyI_bytes k HB0.out
  obtain ⟨h1a, h1b⟩ := h1
  have h1I : ¬ ((n0 : Int) > 1048576) := by omega
  have h2I : ¬ ((n1 : Int) > 1048512) := by omega
  go_enter Tryz.func78, Tryz.ntmps78
  go_wp2_with fail
  refine (specBlockKey a0 n0 c0 k w HN0.out HR0.out na0 HB0.out l0).mono ?_
  rintro e w1 ⟨gk, mk, ck, rfl, em, k1, r1, b1⟩
  have hm : mk = 64 := by rw [em, HL.out]
  subst hm
  have R1 := hid (r1)
  have B1 := hid (b1)
  obtain ⟨y, hy⟩ : ∃ y, keyI k = y := ⟨_, rfl⟩
  rw [hy] at HH HKB HL R1
  clear em k1 r1 b1 hy
  obtain ⟨w3, hw3⟩ : ∃ w3, (w1.alloc (.cells #[] 5)).alloc (.cells #[] 5) = w3 := ⟨_, rfl⟩
  have HW3 := hid (hw3)
  have RI3 : Hid (Row w3 w1.heap.size 0 (mix 54 (y.take 0))) := by rw [← hw3]; exact row_alloc (row_new w1 [] (by simp)) _
  have RO3 : Hid (Row w3 (w1.heap.size + 1) 0 (mix 92 (y.take 0))) := by
   have := row_new (w1.alloc (.cells #[] 5)) [] (by simp)
   rw [show (w1.alloc (.cells #[] 5)).heap.size = w1.heap.size + 1 by simp] at this
   rw [← hw3]; exact this
  have B3 : Hid (Below w.heap.size w w3) := by rw [← hw3]; exact (B1.out.alloc B1.out.size _).alloc (by simp; exact Nat.le_trans B1.out.size (Nat.le_succ _)) _
  have BK3 : Hid (Below w1.heap.size w1 w3) := by rw [← hw3]; exact ((Below.refl _ _).alloc (Nat.le_refl _) _).alloc (by simp) _
  have RK3 := hid (R1.out.later BK3.out)
  have HGK : Hid (gk < w1.heap.size) := R1.out.lt
  clear hw3 R1
  go_wp2
  rw [HW3.out]
  go_loopw [6, 7, 8] (fun v u i wr => ∃ j gi ci go co : Nat, j ≤ 64 ∧ i = .int .i64 j ∧ v = .slice (some ⟨gi, 0, none⟩) j ci ∧ u = .slice (some ⟨go, 0, none⟩) j co ∧ w1.heap.size ≤ gi ∧ w1.heap.size ≤ go ∧ gi ≠ go ∧ Row wr gi ci (mix 54 (y.take j)) ∧ Row wr go co (mix 92 (y.take j)) ∧ Below w1.heap.size w1 wr ∧ Row wr gk ck y)
   (fun _ _ i _ => 64 - (intOf i).toNat)
  case atStart => exact ⟨0, w1.heap.size, 0, w1.heap.size + 1, 0, by omega, rfl, rfl, rfl, Nat.le_refl _, by omega, by omega, RI3.out, RO3.out, BK3.out, RK3.out⟩
  case round =>
   obtain ⟨j, gi, ci, go, co, hj, rfl, rfl, rfl, hgi, hgo, hne, hRi, hRo, hbe, hK⟩ := hrel
   have HRi := hid (hRi)
   have HRo := hid (hRo)
   have HBe := hid (hbe)
   have HK := hid (hK)
   have HNE : Hid (gi ≠ go) := hne
   clear RI3 RO3 B3 BK3 RK3 hRi hRo hbe hK hne
   have ML : ∀ p, j = (mix p (y.take j)).length := fun p => by rw [mix_length, List.length_take, HL.out]; omega
   have HML : Hid (∀ p, j = (mix p (y.take j)).length) := ML
   clear ML
   by_cases hlt : j < 64
   ·
    have hc := HK.out.cell j (by rw [HL.out]; exact hlt)
    have T1 : Hid (∀ p, mix p (y.take (j + 1)) = mix p (y.take j) ++ [bits .xor .u8 (y.getD j 0) p]) := fun p => mix_take p y j (by rw [HL.out]; exact hlt)
    obtain ⟨z, hz⟩ : ∃ z, y.getD j 0 = z := ⟨_, rfl⟩
    have HZ : Hid (z = y.getD j 0) := hz.symm
    rw [hz] at hc T1
    clear hz
    go_wp2_with (first | (at_builtin; refine wpList_app_at _ rfl (.tmp 26) (.tmp 32) rfl w1.heap.size gi j ci (mix 54 (y.take j)) [bits .xor .u8 z 54] rfl (HML.out 54) (row_alloc HRi.out _) hgi (some ⟨wr.heap.size, 0, none⟩) 1 1 rfl rfl (rd_one wr _) (by intro e; cases e) (by rw [← HML.out 54, List.length_singleton]; omega) ?_; intro g4 c4 w4 r4 k4 l4 gr4; have RI4 : Hid (Row w4 g4 c4 (mix 54 (y.take (j + 1)))) := (by show Row _ _ _ _; rw [T1.out 54]; exact r4); have GI4 : Hid (w1.heap.size ≤ g4) := k4; have RO4 : Hid (Row w4 go co (mix 92 (y.take j))) := (row_alloc HRo.out _).keep (gr4.block go (row_alloc HRo.out _).lt (by simp only [ne_eq, Option.some.injEq]; exact Ne.symm HNE.out)); have NE4 : Hid (g4 ≠ go) := (by rcases l4 with rfl | h; exact HNE.out; exact Nat.ne_of_gt (Nat.lt_of_lt_of_le (row_alloc HRo.out _).lt h)); have HK4 : Hid (Row w4 gk ck y) := (row_alloc HK.out _).keep (gr4.block gk (row_alloc HK.out _).lt (by simp only [ne_eq, Option.some.injEq]; exact Nat.ne_of_lt (Nat.lt_of_lt_of_le HGK.out hgi))); have B4 : Hid (Below w1.heap.size w1 w4) := (HBe.out.alloc HBe.out.size _).grown gr4 (Below.size (HBe.out.alloc HBe.out.size _)) (fun k h => by cases h; exact hgi); have hc4 : w4.cell? ⟨gk, j, none⟩ = some (.int .u8 z) := (by rw [HZ.out]; exact HK4.out.cell j (by rw [HL.out]; exact hlt)); clear r4 k4 l4 gr4) | (at_builtin; refine wpList_app_at _ rfl (.tmp 34) (.tmp 40) rfl w1.heap.size go j co (mix 92 (y.take j)) [bits .xor .u8 z 92] rfl (HML.out 92) (row_alloc RO4.out _) hgo (some ⟨w4.heap.size, 0, none⟩) 1 1 rfl rfl (rd_one w4 _) (by intro e; cases e) (by rw [← HML.out 92, List.length_singleton]; omega) ?_; intro g5 c5 w5 r5 k5 l5 gr5; have RO5 : Hid (Row w5 g5 c5 (mix 92 (y.take (j + 1)))) := (by show Row _ _ _ _; rw [T1.out 92]; exact r5); have GO5 : Hid (w1.heap.size ≤ g5) := k5; have RI5 : Hid (Row w5 g4 c4 (mix 54 (y.take (j + 1)))) := (row_alloc RI4.out _).keep (gr5.block g4 (row_alloc RI4.out _).lt (by simp only [ne_eq, Option.some.injEq]; exact NE4.out)); have NE5 : Hid (g4 ≠ g5) := (by rcases l5 with rfl | h; exact NE4.out; exact Nat.ne_of_lt (Nat.lt_of_lt_of_le (row_alloc RI4.out _).lt h)); have HK5 : Hid (Row w5 gk ck y) := (row_alloc HK4.out _).keep (gr5.block gk (row_alloc HK4.out _).lt (by simp only [ne_eq, Option.some.injEq]; exact Nat.ne_of_lt (Nat.lt_of_lt_of_le HGK.out hgo))); have B5 : Hid (Below w1.heap.size w1 w5) := (B4.out.alloc B4.out.size _).grown gr5 (Below.size (B4.out.alloc B4.out.size _)) (fun k h => by cases h; exact hgo); clear r5 k5 l5 gr5))
    go_roundw
    case rel => exact ⟨j + 1, g4, c4, g5, c5, by omega, by go_num, rfl, rfl, GI4.out, GO5.out, NE5.out, RI5.out, RO5.out, B5.out, HK5.out⟩
    case measure => simp [intOf]; omega
   ·
    obtain rfl : j = 64 := by omega
    have TY : Hid (y.take 64 = y) := by show _ = _; rw [List.take_of_length_le (by rw [HL.out]; exact Nat.le_refl _)]
    rw [TY.out] at HRi HRo HML
    have BW := hid (B1.out.trans (HBe.out.mono B1.out.size))
    go_wp2_with (first | (at_builtin; refine wpList_app_at _ rfl (.tmp 43) (.tmp 44) rfl w1.heap.size gi 64 ci (mix 54 y) b rfl (HML.out 54) HRi.out hgi a1 n1 c1 rfl HN1.out (HR1.out.later BW.out (Nat.le_refl _)) na1 (by rw [← HML.out 54, ← HN1.out]; omega) ?_; intro g6 c6 w6 r6 k6 l6 gr6; have R6 := hid (r6); have RO6 := hid (HRo.out.keep (gr6.block go HRo.out.lt (by simp only [ne_eq, Option.some.injEq]; exact Ne.symm HNE.out))); have B6 : Hid (Below w1.heap.size w1 w6) := HBe.out.grown gr6 HBe.out.size (fun k h => by cases h; exact hgi); clear r6 k6 l6 gr6) | fail)
    have BW6 := hid (B1.out.trans (B6.out.mono B1.out.size))
    have HL6 : Hid (64 + n1 = (mix 54 y ++ b).length) := by show _ = _; rw [List.length_append, ← HML.out 54, HN1.out]
    have HB6 : Hid (Bytes (mix 54 y ++ b)) := bytes_append (mix_bytes 54 _ HKB.out (by omega) (by omega)) HB1.out
    refine (specSha _ (64 + n1) c6 _ w6 HL6.out R6.out.rd (by intro e; cases e) HB6.out (by omega)).mono ?_
    rintro e w7 ⟨g7, m7, c7, rfl, em, k7, r7, b7⟩
    have HS7 : Hid ((shaI (mix 54 y ++ b)).length = 32) := shaI_len _ (by rw [← HL6.out]; omega)
    have hm7 : m7 = 32 := by rw [em, HS7.out]
    subst hm7
    have R7 := hid (r7)
    have RO7 := hid (RO6.out.later b7)
    have B7 := hid (B6.out.trans (b7.mono B6.out.size))
    clear em k7 r7 b7 R6 RO6 B6 BW6
    go_wp2_with (first | (at_builtin; refine wpList_app_at _ rfl (.tmp 42) (.tmp 46) rfl w1.heap.size go 64 co (mix 92 y) (shaI (mix 54 y ++ b)) rfl (HML.out 92) RO7.out hgo (some ⟨g7, 0, none⟩) 32 c7 rfl HS7.out.symm R7.out.rd (by intro e; cases e) (by rw [← HML.out 92, HS7.out]; omega) ?_; intro g8 c8 w8 r8 k8 l8 gr8; have R8 := hid (r8); have B8 : Hid (Below w1.heap.size w1 w8) := B7.out.grown gr8 B7.out.size (fun k h => by cases h; exact hgo); clear r8 k8 l8 gr8) | fail)
    have BW8 := hid (B1.out.trans (B8.out.mono B1.out.size))
    have HL8 : Hid (64 + 32 = (mix 92 y ++ shaI (mix 54 y ++ b)).length) := by show _ = _; rw [List.length_append, ← HML.out 92, HS7.out]
    have HB8 : Hid (Bytes (mix 92 y ++ shaI (mix 54 y ++ b))) := bytes_append (mix_bytes 92 _ HKB.out (by omega) (by omega)) (shaI_bytes _)
    refine (specSha _ (64 + 32) c8 _ w8 HL8.out R8.out.rd (by intro e; cases e) HB8.out (by omega)).mono ?_
    rintro e w9 ⟨g9, m9, c9, rfl, em, k9, r9, b9⟩
    have EM : Hid (m9 = (hmacI k b).length) := by show _ = _; rw [HH.out]; exact em
    have K9 : Hid (w.heap.size ≤ g9) := Nat.le_trans BW8.out.size k9
    have R9 : Hid (Row w9 g9 c9 (hmacI k b)) := by show Row _ _ _ _; rw [HH.out]; exact r9
    have B9 := hid (BW8.out.trans (b9.mono BW8.out.size))
    clear em k9 r9 b9
    go_wp2
    go_ret
    exact ⟨g9, m9, c9, rfl, EM.out, K9.out, R9.out, B9.out⟩
 ·
  have HH : Hid (hmacI k b = []) := hmacI_none k b (by rw [← HN0.out, ← HN1.out]; exact h1)
  have A0 : Hid (Below w.heap.size w (w.alloc (.cells #[] 5))) := (Below.refl _ _).alloc (Nat.le_refl _) _
  have R0 : Hid (Row (w.alloc (.cells #[] 5)) w.heap.size 0 []) := row_new w [] (by simp)
  by_cases h2 : n0 ≤ 1048576
  ·
   have h1I : ¬ ((n0 : Int) > 1048576) := by omega
   have h2I : (n1 : Int) > 1048512 := by omega
   clear h1
   go_enter Tryz.func78, Tryz.ntmps78
   go_wp2
   go_ret
   exact ⟨w.heap.size, 0, 0, by simp, by rw [HH.out]; rfl, Nat.le_refl _, by rw [HH.out]; exact R0.out, A0.out⟩
  ·
   have h1I : (n0 : Int) > 1048576 := by omega
   clear h1
   go_enter Tryz.func78, Tryz.ntmps78
   go_wp2
   go_ret
   exact ⟨w.heap.size, 0, 0, by simp, by rw [HH.out]; rfl, Nat.le_refl _, by rw [HH.out]; exact R0.out, A0.out⟩

set_option maxHeartbeats 800000 in
theorem specTag (a0 : Option Addr) (n0 c0 : Nat) (a1 : Option Addr) (n1 c1 : Nat) (k b : List Int) (w : World) (e0 : n0 = k.length) (e1 : n1 = b.length) (r0 : Rd w a0 k) (r1 : Rd w a1 b) (na0 : a0 = none → c0 = 0) (na1 : a1 = none → c1 = 0) (hb0 : Bytes k) (hb1 : Bytes b) (l0 : n0 ≤ 2097152) (l1 : n1 ≤ 2097152) :
  Calls Tryz.prog 58 #[.slice a0 n0 c0, .slice a1 n1 c1] w fun e w' =>
   ∃ g m c, e = .returned (.slice (some ⟨g, 0, none⟩) m c) ∧ m = (tagI k b).length ∧ w.heap.size ≤ g ∧ Row w' g c (tagI k b) ∧ Below w.heap.size w w' := by
 have HN0 : Hid (n0 = k.length) := e0
 have HN1 : Hid (n1 = b.length) := e1
 have HR0 := hid (r0)
 have HR1 := hid (r1)
 have HB0 := hid (hb0)
 have HB1 := hid (hb1)
 clear e0 e1 r0 r1 hb0 hb1
 go_enter Tryz.func58, Tryz.ntmps58
 go_wp2_with fail
 refine (specHmac a0 n0 c0 a1 n1 c1 k b w HN0.out HN1.out HR0.out HR1.out na0 na1 HB0.out HB1.out l0 l1).mono ?_
 rintro e w1 ⟨g, m, c, rfl, em, k1, r1, b1⟩
 have EM : Hid (m = (hmacI k b).length) := em
 have R1 := hid (r1)
 have B1 := hid (b1)
 have hm : m = 32 ∨ m = 0 := by
  rw [em]
  by_cases h : k.length ≤ 1048576 ∧ b.length ≤ 1048512
  ·
   exact .inl (hmacI_len k b h.1 h.2)
  ·
   exact .inr (by rw [hmacI_none k b h]; rfl)
 have hmc : m ≤ c := by rw [em]; exact r1.1
 have A1 : Hid (Below w.heap.size w (w1.alloc (.cells #[] 5))) := B1.out.alloc B1.out.size _
 have N1 : Hid (Row (w1.alloc (.cells #[] 5)) w1.heap.size 0 []) := row_new w1 [] (by simp)
 clear em k1 r1 b1
 rcases hm with rfl | rfl
 ·
  have hcI : (32 : Int) ≤ (c : Int) := by omega
  have TL : Hid (16 = (tagI k b).length) := by show _ = _; unfold tagI; rw [List.length_take, ← EM.out]; rfl
  have RT : Hid (Rd (w1.alloc (.cells #[] 5)) (some ⟨g, 0, none⟩) (tagI k b)) := by
   have h1 := (row_alloc R1.out (.cells #[] 5)).rd
   show Rd _ _ _
   intro i hi
   rw [← TL.out] at hi
   obtain ⟨x, off, e, hx, hh⟩ := h1 i (by rw [← EM.out]; omega)
   refine ⟨x, off, e, hx, ?_⟩
   rw [hh]
   unfold tagI
   simp [List.getD, hi]
  go_wp2_with (at_builtin; refine wpList_app _ rfl (.tmp 13) (.tmp 15) rfl w.heap.size w1.heap.size 0 0 [] (tagI k b) rfl rfl N1.out B1.out.size (some ⟨g, 0, none⟩) 16 c rfl TL.out RT.out (by intro e; cases e) (by rw [← TL.out]; simp) ?_; intro g2 c2 w2 r2 k2 l2 gr2; have R2 : Hid (Row w2 g2 c2 (tagI k b)) := (List.nil_append (tagI k b)) ▸ r2; have G2 : Hid (w.heap.size ≤ g2) := k2; have B2 : Hid (Below w.heap.size w w2) := A1.out.grown gr2 A1.out.size (fun k h => by cases h; exact B1.out.size); clear r2 k2 l2 gr2)
  go_ret
  exact ⟨g2, 16, c2, rfl, TL.out, G2.out, R2.out, B2.out⟩
 ·
  have HT : Hid (tagI k b = []) := by
   show _ = _
   have : hmacI k b = [] := List.eq_nil_of_length_eq_zero EM.out.symm
   unfold tagI; rw [this]; rfl
  go_wp2
  go_ret
  exact ⟨w1.heap.size, 0, 0, by simp, by rw [HT.out]; rfl, B1.out.size, by rw [HT.out]; exact N1.out, A1.out⟩
end Go.Proofs.YtpenhliaelhnoaaGreatDoor.MacS

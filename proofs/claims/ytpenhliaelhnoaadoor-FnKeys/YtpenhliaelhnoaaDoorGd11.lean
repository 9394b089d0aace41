/-
  What spec's l2Out and Sha answer: the sum's 32 bytes, in new memory.
  'append' of bytes to a row of the call's own: what it holds then, and where it lies: where it lay, or behind all that was there.
  What spec's BlockKey, Hmac and Tag answer.
  What spec's Extract, Expand, Derive and Chain answer.
-/
import Derived.Test.YtpenhliaelhnoaaDoorGd6
import Derived.Test.YtpenhliaelhnoaaDoorGd1
import Derived.Maps.AppendAt
import Derived.Test.YtpenhliaelhnoaaDoorGd4
set_option linter.unusedVariables false
namespace Go.Proofs.YtpenhliaelhnoaaDoor.ShaS
open Go.RowKit Go.Proofs.YtpenhliaelhnoaaDoor.Mem Go.Proofs.YtpenhliaelhnoaaDoor.MemI Go.Proofs.YtpenhliaelhnoaaDoor.Blk Go.Proofs.YtpenhliaelhnoaaDoor.App Go.Proofs.YtpenhliaelhnoaaDoor.Get Go.Proofs.YtpenhliaelhnoaaDoor.ShaP Go.Proofs.YtpenhliaelhnoaaDoor.Word Go.Proofs.YtpenhliaelhnoaaDoor.Bits Go.Proofs.YtpenhliaelhnoaaDoor.Sched Go.Proofs.YtpenhliaelhnoaaDoor.Words Go.Proofs.YtpenhliaelhnoaaDoor.WordsOf Go.Proofs.YtpenhliaelhnoaaDoor.Comp Go.Proofs.YtpenhliaelhnoaaDoor.CompS Go.Proofs.YtpenhliaelhnoaaDoor.Start Go.Proofs.YtpenhliaelhnoaaDoor.Cuts Go.Proofs.YtpenhliaelhnoaaDoor.Pads Go.Proofs.YtpenhliaelhnoaaDoor.Adds Go.Proofs.YtpenhliaelhnoaaDoor.Ends

set_option maxRecDepth 100000 in
theorem putN4 (z : Int) : putN z 4 = num z 4 := rfl
set_option maxRecDepth 100000 in
set_option maxHeartbeats 800000 in
theorem l2Out (gh ch : Nat) (h : List Int) (w : World) (hh : h.length = 8) (hr : IRow w gh ch h) :
    Calls Tryd.prog 80 #[.slice (some ⟨gh, 0, none⟩) 8 ch] w fun e w' =>
      ∃ g c, e = .returned (.slice (some ⟨g, 0, none⟩) 32 c) ∧ w.heap.size ≤ g ∧ Row w' g c (outB h) ∧ Below w.heap.size w w' := by
  have HH : Hid (h.length = 8) := hh
  have HR : Hid (IRow w gh ch h) := hr
  have A0 : Hid (Below w.heap.size w (w.alloc (.cells #[] 5))) := (Below.refl _ _).alloc (Nat.le_refl _) _
  have R0 : Hid (Row (w.alloc (.cells #[] 5)) w.heap.size 0 (outB (h.take 0))) := row_new w [] (by simp)
  clear hh hr
  go_enter Tryd.func80, Tryd.ntmps80
  go_wp2
  go_loopw [3, 4] (fun v i wr => ∃ k gg cc : Nat, k ≤ 8 ∧ i = .int .i64 k ∧ v = .slice (some ⟨gg, 0, none⟩) (4 * k) cc ∧ w.heap.size ≤ gg ∧ Row wr gg cc (outB (h.take k)) ∧ Below w.heap.size w wr)
    (fun _ i _ => 8 - (intOf i).toNat)
  case atStart => exact ⟨0, w.heap.size, 0, Nat.zero_le _, rfl, rfl, Nat.le_refl _, R0.out, A0.out⟩
  case round =>
    obtain ⟨k, gg, cc, hk, rfl, rfl, hgg, hRow, hbe⟩ := hrel
    have HRow : Hid (Row wr gg cc (outB (h.take k))) := hRow
    have HBe : Hid (Below w.heap.size w wr) := hbe
    clear R0 A0 hRow hbe
    by_cases hlt : k < 8
    · have hc := (HR.out.later HBe.out).cell k (by rw [HH.out]; exact hlt)
      have HT1 : Hid (outB (h.take (k + 1)) = outB (h.take k) ++ putN (h.getD k 0) 4) := by
        show _ = _
        rw [List.take_succ_eq_append_getElem (by rw [HH.out]; exact hlt), outB_snoc, putN4]
        simp [List.getD, HH.out, hlt]
      have HOL : Hid (4 * k = (outB (h.take k)).length) := by show _ = _; rw [outB_length, List.length_take, HH.out]; omega
      generalize h.getD k 0 = z at *
      go_wp2_with fail
      refine (specPutN _ (4 * k) cc _ z 4 wr HOL.out HRow.out.rd (by intro e; cases e) (by rw [← HOL.out]; omega)).mono ?_
      rintro e w2 ⟨g2, m2, c2, rfl, e2, k2, r2, b2⟩
      have HM : Hid (m2 = 4 * (k + 1)) := by show _ = _; rw [e2, List.length_append, ← HOL.out, putN4, num_length]; omega
      have K2 : Hid (w.heap.size ≤ g2) := Nat.le_trans HBe.out.size k2
      have R2 : Hid (Row w2 g2 c2 (outB (h.take k) ++ putN z 4)) := r2
      have B2 : Hid (Below w.heap.size w w2) := HBe.out.trans (b2.mono HBe.out.size)
      clear e2 k2 r2 b2
      go_wp2
      go_roundw
      case rel => exact ⟨k + 1, g2, c2, by omega, by go_num, by rw [HM.out], K2.out, by rw [HT1.out]; exact R2.out, B2.out⟩
      case measure => simp [intOf]; omega
    · obtain rfl : k = 8 := by omega
      have HT8 : Hid (outB h = outB (h.take 8)) := by show _ = _; rw [List.take_of_length_le (by rw [HH.out]; exact Nat.le_refl _)]
      go_wp2
      go_ret
      exact ⟨gg, cc, rfl, hgg, by rw [HT8.out]; exact HRow.out, HBe.out⟩

set_option maxRecDepth 100000 in
theorem compI_ok (h b : List Int) (hh : h.length = 8) (hw : Wds h) (hb : b.length = 64) : compI h b = comp h b := by
  unfold compI; rw [if_pos ⟨(okw_iff h).2 ⟨hh, hw⟩, hb⟩]

set_option maxRecDepth 100000 in
set_option maxHeartbeats 2000000 in
theorem specSha (a : Option Addr) (n cap : Nat) (b : List Int) (w : World) (hn : n = b.length) (hr : Rd w a b) (na : a = none → cap = 0) (hb : Bytes b) (hl : n ≤ 2097152) :
    Calls Tryd.prog 67 #[.slice a n cap] w fun e w' =>
      ∃ g m c, e = .returned (.slice (some ⟨g, 0, none⟩) m c) ∧ m = (shaI b).length ∧ w.heap.size ≤ g ∧ Row w' g c (shaI b) ∧ Below w.heap.size w w' := by
  have HN : Hid (n = b.length) := hn
  have HR : Hid (Rd w a b) := hr
  have HB : Hid (Bytes b) := hb
  have A0 : Hid (Below w.heap.size w (w.alloc (.cells #[] 5))) := (Below.refl _ _).alloc (Nat.le_refl _) _
  have R0 : Hid (Row (w.alloc (.cells #[] 5)) w.heap.size 0 []) := row_new w [] (by simp)
  clear hn hr hb
  by_cases h1 : n ≤ 1048576
  · have HS : Hid (shaI b = outB (run start8 (b ++ padI (n : Int)) ((b ++ padI (n : Int)).length / 64))) := by
      show _ = _
      unfold shaI; rw [if_pos (by rw [← HN.out]; exact h1), padI_nat n h1, HN.out]; rfl
    have HPL : Hid ((padI (n : Int)).length = 9 + (64 - (n + 9) % 64) % 64) := by show _ = _; rw [padI_nat n h1, padOf_length]
    go_enter Tryd.func67, Tryd.ntmps67
    go_wp2_with (at_builtin; refine wpList_app _ rfl (.tmp 10) (.tmp 11) rfl w.heap.size w.heap.size 0 0 [] b rfl rfl R0.out (Nat.le_refl _) a n cap rfl HN.out (HR.out.later A0.out (Nat.le_refl _)) na (by rw [← HN.out]; simp; omega) ?_; intro g1 c1 w1 r1 b1 l1 gr1; have R1 : Hid (Row w1 g1 c1 b) := (List.nil_append b) ▸ r1; have B1 : Hid (Below w.heap.size w w1) := A0.out.grown gr1 A0.out.size (fun k h => by cases h; exact Nat.le_refl _); clear r1 gr1 l1)
    refine (specPad (n : Int) w1).mono ?_
    rintro e w2 ⟨gp, mp, cp, rfl, e2, k2, r2, b2⟩
    have R2 : Hid (Row w2 gp cp (padI (n : Int))) := r2
    have E2 : Hid (mp = (padI (n : Int)).length) := e2
    have B2 : Hid (Below w.heap.size w w2) := B1.out.trans (b2.mono B1.out.size)
    have R12 : Hid (Row w2 g1 c1 b) := R1.out.later b2
    clear r2 e2 k2 b2
    go_wp2_with (at_builtin; refine wpList_app _ rfl (.tmp 12) (.tmp 15) rfl w.heap.size g1 n c1 b (padI (n : Int)) (by simp [Act.eval]) HN.out R12.out b1 (some ⟨gp, 0, none⟩) mp cp rfl E2.out R2.out.rd (by intro e; cases e) (by rw [← HN.out, HPL.out]; omega) ?_; intro g3 c3 w3 r3 b3 l3 gr3; have R3 : Hid (Row w3 g3 c3 (b ++ padI (n : Int))) := r3; have B3 : Hid (Below w.heap.size w w3) := B2.out.grown gr3 B2.out.size (fun k h => by cases h; exact b1); clear r3 gr3 l3)
    obtain ⟨x, hx⟩ : ∃ x, b ++ padI (n : Int) = x := ⟨_, rfl⟩
    rw [hx] at HS R3
    obtain ⟨L, hL⟩ : ∃ L, n + mp = L := ⟨_, rfl⟩
    have HL : Hid (x.length = L) := by rw [← hx, ← hL, List.length_append, ← HN.out, ← E2.out]; simp [Hid]
    obtain ⟨Q, hQ⟩ : ∃ Q, L = 64 * Q := ⟨L / 64, by have := HPL.out; have := E2.out; omega⟩
    subst hQ
    have HXB : Hid (Bytes x) := by
      rw [← hx]
      exact fun z hz => (List.mem_append.1 hz).elim (HB.out z) (padI_bytes _ z)
    have hQm : 64 * Q ≤ 4194304 := by have := HPL.out; have := E2.out; omega
    rw [hL]
    clear hL hx R1 B1 R2 R12 B2 E2 HPL
    go_wp2_with fail
    refine (specStart w3).mono ?_
    rintro e w4 ⟨rfl, r4, b4⟩
    have HS8 : Hid (start8.length = 8) := (rfl : start8.length = 8)
    have HSW : Hid (Wds start8) := start8_wds
    have KH : Hid (w.heap.size ≤ w3.heap.size) := B3.out.size
    have RH : Hid (IRow w4 w3.heap.size 8 (run start8 x 0)) := r4
    have RX : Hid (Row w4 g3 c3 x) := R3.out.later b4
    have BX : Hid (Below w.heap.size w w4) := B3.out.trans (b4.mono B3.out.size)
    clear r4 b4 R3 B3
    go_wp2
    go_loopw [4, 5] (fun v i wr => ∃ q gh ch : Nat, q ≤ Q ∧ i = .int .i64 (64 * (q : Int)) ∧ v = .slice (some ⟨gh, 0, none⟩) 8 ch ∧ w.heap.size ≤ gh ∧ IRow wr gh ch (run start8 x q) ∧ Row wr g3 c3 x ∧ Below w.heap.size w wr)
      (fun _ i _ => 64 * Q - (intOf i).toNat)
    case atStart => exact ⟨0, w3.heap.size, 8, Nat.zero_le _, rfl, rfl, KH.out, RH.out, RX.out, BX.out⟩
    case round =>
      obtain ⟨q, gh, ch, hq, rfl, rfl, hgh, hH, hX, hbe⟩ := hrel
      have HH : Hid (IRow wr gh ch (run start8 x q)) := hH
      have HX : Hid (Row wr g3 c3 x) := hX
      have HBe : Hid (Below w.heap.size w wr) := hbe
      have HRL : Hid ((run start8 x q).length = 8) := run_length start8 x q HS8.out
      have HRW : Hid (Wds (run start8 x q)) := run_wds start8 x q HSW.out
      have hc3 : 64 * Q ≤ c3 := by have := hX.1; rw [HL.out] at this; exact this
      clear hH hX hbe KH RH RX BX
      by_cases hlt : q < Q
      · have HPL2 : Hid ((piece x (64 * q) 64).length = 64) := piece_length x (64 * q) 64 (by rw [HL.out]; omega)
        have HP : Hid (Rd wr (some ⟨g3, 64 * q, none⟩) (piece x (64 * q) 64)) := by
          have := rd_piece HX.out.rd (64 * q) 64 (by rw [HL.out]; omega)
          rwa [Nat.zero_add] at this
        have HPB : Hid (Bytes (piece x (64 * q) 64)) := piece_bytes HXB.out _ _
        have HCI : Hid (compI (run start8 x q) (piece x (64 * q) 64) = run start8 x (q + 1)) := compI_ok _ _ HRL.out HRW.out HPL2.out
        have i1 : (64 * (q : Int)) < 64 * (Q : Int) := by omega
        have i2 : (64 * (q : Int)) + 64 ≤ 64 * (Q : Int) := by omega
        go_wp2_with fail
        refine (specCompress (some ⟨gh, 0, none⟩) 8 ch (run start8 x q) (some ⟨g3, 64 * q, none⟩) _ _ (piece x (64 * q) 64) wr HRL.out.symm HH.out.rd (by intro e; cases e) (by omega) (by rw [HPL2.out]) HP.out HPB.out (by omega)).mono ?_
        rintro e w5 ⟨g5, m5, c5, rfl, e5, k5, r5, b5⟩
        rw [HCI.out] at e5 r5
        obtain rfl : m5 = 8 := by rw [e5, run_length start8 x (q + 1) HS8.out]
        have R5 : Hid (IRow w5 g5 c5 (run start8 x (q + 1))) := r5
        have K5 : Hid (w.heap.size ≤ g5) := Nat.le_trans HBe.out.size k5
        have B5 : Hid (Below w.heap.size w w5) := HBe.out.trans (b5.mono HBe.out.size)
        have X5 : Hid (Row w5 g3 c3 x) := HX.out.later b5
        clear r5 e5 k5 b5 HCI HPB HP HPL2
        go_wp2
        go_roundw
        case rel => exact ⟨q + 1, g5, c5, by omega, by go_num, rfl, K5.out, R5.out, X5.out, B5.out⟩
        case measure => simp [intOf]; omega
      · obtain rfl : q = Q := by omega
        have i3 : ¬ (64 * (q : Int) < 64 * (q : Int)) := by omega
        go_wp2_with fail
        refine (l2Out gh ch (run start8 x q) wr HRL.out HH.out).mono ?_
        rintro e w6 ⟨g6, c6, rfl, k6, r6, b6⟩
        have HE : Hid (shaI b = outB (run start8 x q)) := by
          show _ = _
          rw [HS.out, HL.out, Nat.mul_div_cancel_left q (by omega)]
        have HE2 : Hid ((shaI b).length = 32) := by show _ = _; rw [HE.out, outB_length, HRL.out]
        have K6 : Hid (w.heap.size ≤ g6) := Nat.le_trans HBe.out.size k6
        have R6 : Hid (Row w6 g6 c6 (shaI b)) := by show Row _ _ _ _; rw [HE.out]; exact r6
        have B6 : Hid (Below w.heap.size w w6) := HBe.out.trans (b6.mono HBe.out.size)
        clear r6 k6 b6
        go_wp2
        go_ret
        exact ⟨g6, 32, c6, rfl, HE2.out.symm, K6.out, R6.out, B6.out⟩
  · have HS : Hid (shaI b = []) := by show _ = _; unfold shaI; rw [if_neg (by rw [← HN.out]; exact h1)]
    clear HR HB
    go_enter Tryd.func67, Tryd.ntmps67
    go_wp2
    go_ret
    exact ⟨w.heap.size, 0, 0, by simp, by rw [HS.out]; rfl, Nat.le_refl _, by rw [HS.out]; exact R0.out, A0.out⟩
end Go.Proofs.YtpenhliaelhnoaaDoor.ShaS

namespace Go.Proofs.YtpenhliaelhnoaaDoor.AppAt
open Go.RowKit Go.Proofs.YtpenhliaelhnoaaDoor.Mem Go.Proofs.YtpenhliaelhnoaaDoor.App

set_option maxRecDepth 100000 in
theorem wpList_app_at (w : World) {ops : Array Oper} {rest : List Oper} {o : Oper} {a : Act} {Q : Exit → Act → World → Prop} (hgd : o.guard = none) (s x : Operand)
    (ho : o.op = .call { callee := .builtin .append, args := #[s, x], argTypes := #[22, 22] })
    (base g n cap : Nat) (l y : List Int) (hs : a.eval s = .slice (some ⟨g, 0, none⟩) n cap) (hn : n = l.length) (hrow : Row w g cap l) (hbg : base ≤ g)
    (ao : Option Addr) (m c : Nat) (hx : a.eval x = .slice ao m c) (hm : m = y.length) (hrd : Rd w ao y) (hnone : ao = none → c = 0) (hsum : l.length + y.length ≤ 100000000)
    (h : ∀ g' cap' w', Row w' g' cap' (l ++ y) → base ≤ g' → (g' = g ∨ w.heap.size ≤ g') → w.grownBy w' (some g) → wpList Tryd.prog ops Q rest (a.put o.dst (.slice (some ⟨g', 0, none⟩) (n + m) cap')) w') :
    wpList Tryd.prog ops Q (o :: rest) a w := by
  obtain ⟨i0, hi, hz0, hz1, hz2⟩ := info_parts info8
  subst hn hm
  have hlt := hrow.lt
  cases ao with
  | none =>
    have hy : y = [] := by
      cases y with
      | nil => rfl
      | cons z r => obtain ⟨_, _, e, _⟩ := hrd 0 (by simp); cases e
    subst hy
    have hc0 := hnone rfl
    subst hc0
    refine wpList_append_own_none hgd s x 22 ho base 5 i0 1 Tryd.underlying22 hi _ _ _ hs (hrow.owns hbg) hx ?_
    simpa using h g cap w (by simpa using hrow) hbg (.inl rfl) (World.grownBy.refl _ _)
  | some ad =>
    refine wpList_append_own_at w hgd s x 22 ho base 5 i0 (.int .u8 0) 1 1 Tryd.underlying22 hi hz0 hz1 hz2 rfl (by decide) _ _ _ hs (hrow.owns hbg) ad y.length c (y.map (Value.int .u8)) hx (by simp) (Rd.cells hrd) (ints_oneCell _ _) (by unfold maxLen; omega) (by omega) (by omega) ?_
    intro v' w' hown hgr hiff hat
    rcases hown.2 with ⟨hv, _⟩ | ⟨g', cap', cur, rfl, hb, hg', _⟩
    · exact absurd (hiff.1 hv).1 (by simp)
    · rw [← List.map_append] at hown
      obtain ⟨r1, r2, _, r4⟩ := Row.of hown
      refine h g' cap' w' r1 r2 ?_ hgr
      rcases hat with e | e
      · simp only [Value.ownBlock, Option.some.injEq] at e; exact .inl e
      · simp only [Value.ownBlock, Option.some.injEq] at e; exact .inr (by omega)
end Go.Proofs.YtpenhliaelhnoaaDoor.AppAt

namespace Go.Proofs.YtpenhliaelhnoaaDoor.MacS
open Go.RowKit Go.Proofs.YtpenhliaelhnoaaDoor.Mem Go.Proofs.YtpenhliaelhnoaaDoor.MemI Go.Proofs.YtpenhliaelhnoaaDoor.Blk Go.Proofs.YtpenhliaelhnoaaDoor.App Go.Proofs.YtpenhliaelhnoaaDoor.Get Go.Proofs.YtpenhliaelhnoaaDoor.ShaP Go.Proofs.YtpenhliaelhnoaaDoor.Cuts Go.Proofs.YtpenhliaelhnoaaDoor.Ends Go.Proofs.YtpenhliaelhnoaaDoor.ShaS Go.Proofs.YtpenhliaelhnoaaDoor.MacP Go.Proofs.YtpenhliaelhnoaaDoor.Pads Go.Proofs.YtpenhliaelhnoaaDoor.AppAt

set_option maxRecDepth 100000 in
theorem keyI_of (k : List Int) (h : k.length ≤ 1048576) : keyI k = short k ++ List.replicate (64 - (short k).length) 0 := by unfold keyI; rw [if_pos h]
set_option maxRecDepth 100000 in
theorem zeros_snoc (l : List Int) (j : Nat) : l ++ List.replicate j (0 : Int) ++ [0] = l ++ List.replicate (j + 1) 0 := by
  rw [List.append_assoc, List.replicate_succ']
set_option maxRecDepth 100000 in
theorem mix_take (p : Int) (l : List Int) (k : Nat) (h : k < l.length) : mix p (l.take (k + 1)) = mix p (l.take k) ++ [bits .xor .u8 (l.getD k 0) p] := by
  have e : l.getD k 0 = l[k] := by simp [List.getD, h]
  rw [List.take_succ_eq_append_getElem h, e]
  simp only [mix, List.map_append, List.map_cons, List.map_nil]

set_option maxRecDepth 100000 in
set_option maxHeartbeats 1600000 in
theorem specBlockKey (a : Option Addr) (n cap : Nat) (k : List Int) (w : World) (hn : n = k.length) (hr : Rd w a k) (na : a = none → cap = 0) (hb : Bytes k) (hl : n ≤ 2097152) :
    Calls Tryd.prog 66 #[.slice a n cap] w fun e w' =>
      ∃ g m c, e = .returned (.slice (some ⟨g, 0, none⟩) m c) ∧ m = (keyI k).length ∧ w.heap.size ≤ g ∧ Row w' g c (keyI k) ∧ Below w.heap.size w w' := by
  have HN : Hid (n = k.length) := hn
  have HR : Hid (Rd w a k) := hr
  have HB : Hid (Bytes k) := hb
  have A0 : Hid (Below w.heap.size w (w.alloc (.cells #[] 5))) := (Below.refl _ _).alloc (Nat.le_refl _) _
  have R0 : Hid (Row (w.alloc (.cells #[] 5)) w.heap.size 0 []) := row_new w [] (by simp)
  clear hn hr hb
  by_cases h1 : n ≤ 1048576
  · have HK : Hid (keyI k = short k ++ List.replicate (64 - (short k).length) 0) := keyI_of k (by rw [← HN.out]; exact h1)
    have HSL : Hid ((short k).length ≤ 64) := short_len k (by rw [← HN.out]; exact h1)
    have h1I : ¬ ((n : Int) > 1048576) := by omega
    by_cases h2 : n ≤ 64
    · have h2I : ¬ ((n : Int) > 64) := by omega
      have HSH : Hid (short k = k) := by show _ = _; unfold short; rw [if_pos (by rw [← HN.out]; exact h2)]
      go_enter Tryd.func66, Tryd.ntmps66
      go_wp2_with (at_builtin; refine wpList_app _ rfl (.tmp 8) (.tmp 9) rfl w.heap.size w.heap.size 0 0 [] k rfl rfl R0.out (Nat.le_refl _) a n cap rfl HN.out (HR.out.later A0.out (Nat.le_refl _)) na (by rw [← HN.out]; simp; omega) ?_; intro g1 c1 w1 r1 b1 l1 gr1; have R1 : Hid (Row w1 g1 c1 k) := (List.nil_append k) ▸ r1; have G1 : Hid (w.heap.size ≤ g1) := b1; have B1 : Hid (Below w.heap.size w w1) := A0.out.grown gr1 A0.out.size (fun k h => by cases h; exact Nat.le_refl _); clear r1 b1 l1 gr1)
      have EM : Hid (n = (short k).length) := by show _ = _; rw [HSH.out]; exact HN.out
      have R2 : Hid (Row w1 g1 c1 (short k)) := by show Row _ _ _ _; rw [HSH.out]; exact R1.out
      clear R1
      go_loopw [3] (fun v wr => ∃ j gg cc : Nat, n + j ≤ 64 ∧ v = .slice (some ⟨gg, 0, none⟩) (n + j) cc ∧ w.heap.size ≤ gg ∧ Row wr gg cc (short k ++ List.replicate j 0) ∧ Below w.heap.size w wr)
        (fun v _ => 64 - lenOf v)
      case atStart => exact ⟨0, g1, c1, by have := HSL.out; have := EM.out; omega, by simp, G1.out, by simpa using R2.out, B1.out⟩
      case round =>
        obtain ⟨j, gg, cc, hj, rfl, hgg, hRow, hbe⟩ := hrel
        have HRow : Hid (Row wr gg cc (short k ++ List.replicate j 0)) := hRow
        have HBe : Hid (Below w.heap.size w wr) := hbe
        clear R2 B1 hRow hbe
        by_cases hlt : n + j < 64
        · have hI : ((n + j : Nat) : Int) < 64 := by omega
          have HLN : Hid (n + j = (short k ++ List.replicate j (0 : Int)).length) := by show _ = _; rw [List.length_append, List.length_replicate, EM.out]
          have A1 : Hid (Below w.heap.size w (wr.alloc (.cells #[.int .u8 0] 5))) := HBe.out.alloc HBe.out.size _
          generalize hL : n + j = L at *
          go_wp2_with (at_builtin; refine wpList_app _ rfl (.tmp 19) (.tmp 20) rfl w.heap.size gg L cc (short k ++ List.replicate j 0) [0] rfl HLN.out (row_alloc HRow.out _) hgg (some ⟨wr.heap.size, 0, none⟩) 1 1 rfl rfl (rd_one wr 0) (by intro e; cases e) (by rw [← HLN.out]; simp; omega) ?_; intro g3 c3 w3 r3 k3 l3 gr3; have R3 : Hid (Row w3 g3 c3 (short k ++ List.replicate (j + 1) 0)) := (zeros_snoc (short k) j) ▸ r3; have G3 : Hid (w.heap.size ≤ g3) := k3; have B3 : Hid (Below w.heap.size w w3) := A1.out.grown gr3 A1.out.size (fun k h => by cases h; exact hgg); clear r3 k3 l3 gr3)
          go_roundw
          case rel => exact ⟨j + 1, g3, c3, by omega, by rw [← Nat.add_assoc, hL], G3.out, R3.out, B3.out⟩
          case measure => simp [lenOf]; omega
        · have hI : ¬ (((n + j : Nat) : Int) < 64) := by omega
          have HJ : Hid (j = 64 - (short k).length) := by show _ = _; have := EM.out; omega
          have HM : Hid (n + j = 64) := by show _ = _; omega
          go_wp2
          go_ret
          exact ⟨gg, n + j, cc, rfl, by rw [HK.out, HM.out, List.length_append, List.length_replicate]; have := HSL.out; omega, hgg, by rw [HK.out, ← HJ.out]; exact HRow.out, HBe.out⟩
    · have h2I : (n : Int) > 64 := by omega
      have HSH : Hid (short k = shaI k) := by show _ = _; unfold short; rw [if_neg (by rw [← HN.out]; exact h2)]
      go_enter Tryd.func66, Tryd.ntmps66
      go_wp2_with (at_builtin; refine wpList_app _ rfl (.tmp 8) (.tmp 9) rfl w.heap.size w.heap.size 0 0 [] k rfl rfl R0.out (Nat.le_refl _) a n cap rfl HN.out (HR.out.later A0.out (Nat.le_refl _)) na (by rw [← HN.out]; simp; omega) ?_; intro g1 c1 w1 r1 b1 l1 gr1; have R1 : Hid (Row w1 g1 c1 k) := (List.nil_append k) ▸ r1; have G1 : Hid (w.heap.size ≤ g1) := b1; have B1 : Hid (Below w.heap.size w w1) := A0.out.grown gr1 A0.out.size (fun k h => by cases h; exact Nat.le_refl _); clear r1 b1 l1 gr1)
      refine (specSha a n cap k w1 HN.out (HR.out.later B1.out (Nat.le_refl _)) na HB.out (by omega)).mono ?_
      rintro e w2 ⟨g2, m2, c2, rfl, e2, k2, r2, b2⟩
      have EM : Hid (m2 = (short k).length) := by show _ = _; rw [HSH.out]; exact e2
      have R2 : Hid (Row w2 g2 c2 (short k)) := by show Row _ _ _ _; rw [HSH.out]; exact r2
      have G2 : Hid (w.heap.size ≤ g2) := Nat.le_trans B1.out.size k2
      have B2 : Hid (Below w.heap.size w w2) := B1.out.trans (b2.mono B1.out.size)
      clear R1 e2 r2 k2 b2
      go_wp2
      go_loopw [3] (fun v wr => ∃ j gg cc : Nat, m2 + j ≤ 64 ∧ v = .slice (some ⟨gg, 0, none⟩) (m2 + j) cc ∧ w.heap.size ≤ gg ∧ Row wr gg cc (short k ++ List.replicate j 0) ∧ Below w.heap.size w wr)
        (fun v _ => 64 - lenOf v)
      case atStart => exact ⟨0, g2, c2, by have := HSL.out; have := EM.out; omega, by simp, G2.out, by simpa using R2.out, B2.out⟩
      case round =>
        obtain ⟨j, gg, cc, hj, rfl, hgg, hRow, hbe⟩ := hrel
        have HRow : Hid (Row wr gg cc (short k ++ List.replicate j 0)) := hRow
        have HBe : Hid (Below w.heap.size w wr) := hbe
        clear R2 B2 hRow hbe
        by_cases hlt : m2 + j < 64
        · have hI : ((m2 + j : Nat) : Int) < 64 := by omega
          have HLN : Hid (m2 + j = (short k ++ List.replicate j (0 : Int)).length) := by show _ = _; rw [List.length_append, List.length_replicate, EM.out]
          have A1 : Hid (Below w.heap.size w (wr.alloc (.cells #[.int .u8 0] 5))) := HBe.out.alloc HBe.out.size _
          generalize hL : m2 + j = L at *
          go_wp2_with (at_builtin; refine wpList_app _ rfl (.tmp 19) (.tmp 20) rfl w.heap.size gg L cc (short k ++ List.replicate j 0) [0] rfl HLN.out (row_alloc HRow.out _) hgg (some ⟨wr.heap.size, 0, none⟩) 1 1 rfl rfl (rd_one wr 0) (by intro e; cases e) (by rw [← HLN.out]; simp; omega) ?_; intro g3 c3 w3 r3 k3 l3 gr3; have R3 : Hid (Row w3 g3 c3 (short k ++ List.replicate (j + 1) 0)) := (zeros_snoc (short k) j) ▸ r3; have G3 : Hid (w.heap.size ≤ g3) := k3; have B3 : Hid (Below w.heap.size w w3) := A1.out.grown gr3 A1.out.size (fun k h => by cases h; exact hgg); clear r3 k3 l3 gr3)
          go_roundw
          case rel => exact ⟨j + 1, g3, c3, by omega, by rw [← Nat.add_assoc, hL], G3.out, R3.out, B3.out⟩
          case measure => simp [lenOf]; omega
        · have hI : ¬ (((m2 + j : Nat) : Int) < 64) := by omega
          have HJ : Hid (j = 64 - (short k).length) := by show _ = _; have := EM.out; omega
          have HM : Hid (m2 + j = 64) := by show _ = _; omega
          go_wp2
          go_ret
          exact ⟨gg, m2 + j, cc, rfl, by rw [HK.out, HM.out, List.length_append, List.length_replicate]; have := HSL.out; omega, hgg, by rw [HK.out, ← HJ.out]; exact HRow.out, HBe.out⟩
  · have HK : Hid (keyI k = []) := keyI_none k (by rw [← HN.out]; exact h1)
    have h1I : (n : Int) > 1048576 := by omega
    go_enter Tryd.func66, Tryd.ntmps66
    go_wp2
    go_ret
    exact ⟨w.heap.size, 0, 0, by simp, by rw [HK.out]; rfl, Nat.le_refl _, by rw [HK.out]; exact R0.out, A0.out⟩

set_option maxRecDepth 100000 in
set_option maxHeartbeats 3200000 in
theorem specHmac (a0 : Option Addr) (n0 c0 : Nat) (a1 : Option Addr) (n1 c1 : Nat) (k b : List Int) (w : World) (e0 : n0 = k.length) (e1 : n1 = b.length) (r0 : Rd w a0 k) (r1 : Rd w a1 b) (na0 : a0 = none → c0 = 0) (na1 : a1 = none → c1 = 0) (hb0 : Bytes k) (hb1 : Bytes b) (l0 : n0 ≤ 2097152) (l1 : n1 ≤ 2097152) :
    Calls Tryd.prog 55 #[.slice a0 n0 c0, .slice a1 n1 c1] w fun e w' =>
      ∃ g m c, e = .returned (.slice (some ⟨g, 0, none⟩) m c) ∧ m = (hmacI k b).length ∧ w.heap.size ≤ g ∧ Row w' g c (hmacI k b) ∧ Below w.heap.size w w' := by
  have HN0 : Hid (n0 = k.length) := e0
  have HN1 : Hid (n1 = b.length) := e1
  have HR0 : Hid (Rd w a0 k) := r0
  have HR1 : Hid (Rd w a1 b) := r1
  have HB0 : Hid (Bytes k) := hb0
  have HB1 : Hid (Bytes b) := hb1
  clear e0 e1 r0 r1 hb0 hb1
  by_cases h1 : n0 ≤ 1048576 ∧ n1 ≤ 1048512
  · have HL : Hid ((keyI k).length = 64) := keyI_len k (by rw [← HN0.out]; exact h1.1)
    have HH : Hid (hmacI k b = shaI (mix 92 (keyI k) ++ shaI (mix 54 (keyI k) ++ b))) := by
      show _ = _
      unfold hmacI; rw [if_pos ⟨by rw [← HN0.out]; exact h1.1, by rw [← HN1.out]; exact h1.2⟩]
    have HKB : Hid (Bytes (keyI k)) := keyI_bytes k HB0.out
    obtain ⟨h1a, h1b⟩ := h1
    have h1I : ¬ ((n0 : Int) > 1048576) := by omega
    have h2I : ¬ ((n1 : Int) > 1048512) := by omega
    go_enter Tryd.func55, Tryd.ntmps55
    go_wp2_with fail
    refine (specBlockKey a0 n0 c0 k w HN0.out HR0.out na0 HB0.out l0).mono ?_
    rintro e w1 ⟨gk, mk, ck, rfl, em, k1, r1, b1⟩
    have hm : mk = 64 := by rw [em, HL.out]
    subst hm
    have R1 : Hid (Row w1 gk ck (keyI k)) := r1
    have B1 : Hid (Below w.heap.size w w1) := b1
    obtain ⟨y, hy⟩ : ∃ y, keyI k = y := ⟨_, rfl⟩
    rw [hy] at HH HKB HL R1
    clear em k1 r1 b1 hy
    obtain ⟨w3, hw3⟩ : ∃ w3, (w1.alloc (.cells #[] 5)).alloc (.cells #[] 5) = w3 := ⟨_, rfl⟩
    have HW3 : Hid ((w1.alloc (.cells #[] 5)).alloc (.cells #[] 5) = w3) := hw3
    have RI3 : Hid (Row w3 w1.heap.size 0 (mix 54 (y.take 0))) := by rw [← hw3]; exact row_alloc (row_new w1 [] (by simp)) _
    have RO3 : Hid (Row w3 (w1.heap.size + 1) 0 (mix 92 (y.take 0))) := by
      have := row_new (w1.alloc (.cells #[] 5)) [] (by simp)
      rw [show (w1.alloc (.cells #[] 5)).heap.size = w1.heap.size + 1 by simp] at this
      rw [← hw3]; exact this
    have B3 : Hid (Below w.heap.size w w3) := by rw [← hw3]; exact (B1.out.alloc B1.out.size _).alloc (by simp; exact Nat.le_trans B1.out.size (Nat.le_succ _)) _
    have BK3 : Hid (Below w1.heap.size w1 w3) := by rw [← hw3]; exact ((Below.refl _ _).alloc (Nat.le_refl _) _).alloc (by simp) _
    have RK3 : Hid (Row w3 gk ck y) := R1.out.later BK3.out
    have HGK : Hid (gk < w1.heap.size) := R1.out.lt
    clear hw3 R1
    go_wp2
    rw [HW3.out]
    go_loopw [6, 7, 8] (fun v u i wr => ∃ j gi ci go co : Nat, j ≤ 64 ∧ i = .int .i64 j ∧ v = .slice (some ⟨gi, 0, none⟩) j ci ∧ u = .slice (some ⟨go, 0, none⟩) j co ∧ w1.heap.size ≤ gi ∧ w1.heap.size ≤ go ∧ gi ≠ go ∧ Row wr gi ci (mix 54 (y.take j)) ∧ Row wr go co (mix 92 (y.take j)) ∧ Below w1.heap.size w1 wr ∧ Row wr gk ck y)
      (fun _ _ i _ => 64 - (intOf i).toNat)
    case atStart => exact ⟨0, w1.heap.size, 0, w1.heap.size + 1, 0, by omega, rfl, rfl, rfl, Nat.le_refl _, by omega, by omega, RI3.out, RO3.out, BK3.out, RK3.out⟩
    case round =>
      obtain ⟨j, gi, ci, go, co, hj, rfl, rfl, rfl, hgi, hgo, hne, hRi, hRo, hbe, hK⟩ := hrel
      have HRi : Hid (Row wr gi ci (mix 54 (y.take j))) := hRi
      have HRo : Hid (Row wr go co (mix 92 (y.take j))) := hRo
      have HBe : Hid (Below w1.heap.size w1 wr) := hbe
      have HK : Hid (Row wr gk ck y) := hK
      have HNE : Hid (gi ≠ go) := hne
      clear RI3 RO3 B3 BK3 RK3 hRi hRo hbe hK hne
      have ML : ∀ p, j = (mix p (y.take j)).length := fun p => by rw [mix_length, List.length_take, HL.out]; omega
      have HML : Hid (∀ p, j = (mix p (y.take j)).length) := ML
      clear ML
      by_cases hlt : j < 64
      · have hc := HK.out.cell j (by rw [HL.out]; exact hlt)
        have T1 : Hid (∀ p, mix p (y.take (j + 1)) = mix p (y.take j) ++ [bits .xor .u8 (y.getD j 0) p]) := fun p => mix_take p y j (by rw [HL.out]; exact hlt)
        obtain ⟨z, hz⟩ : ∃ z, y.getD j 0 = z := ⟨_, rfl⟩
        have HZ : Hid (z = y.getD j 0) := hz.symm
        rw [hz] at hc T1
        clear hz
        go_wp2_with (first | (at_builtin; refine wpList_app_at _ rfl (.tmp 26) (.tmp 32) rfl w1.heap.size gi j ci (mix 54 (y.take j)) [bits .xor .u8 z 54] rfl (HML.out 54) (row_alloc HRi.out _) hgi (some ⟨wr.heap.size, 0, none⟩) 1 1 rfl rfl (rd_one wr _) (by intro e; cases e) (by rw [← HML.out 54, List.length_singleton]; omega) ?_; intro g4 c4 w4 r4 k4 l4 gr4; have RI4 : Hid (Row w4 g4 c4 (mix 54 (y.take (j + 1)))) := (by show Row _ _ _ _; rw [T1.out 54]; exact r4); have GI4 : Hid (w1.heap.size ≤ g4) := k4; have RO4 : Hid (Row w4 go co (mix 92 (y.take j))) := (row_alloc HRo.out _).keep (gr4.block go (row_alloc HRo.out _).lt (by simp only [ne_eq, Option.some.injEq]; exact Ne.symm HNE.out)); have NE4 : Hid (g4 ≠ go) := (by rcases l4 with rfl | h; exact HNE.out; exact Nat.ne_of_gt (Nat.lt_of_lt_of_le (row_alloc HRo.out _).lt h)); have HK4 : Hid (Row w4 gk ck y) := (row_alloc HK.out _).keep (gr4.block gk (row_alloc HK.out _).lt (by simp only [ne_eq, Option.some.injEq]; exact Nat.ne_of_lt (Nat.lt_of_lt_of_le HGK.out hgi))); have B4 : Hid (Below w1.heap.size w1 w4) := (HBe.out.alloc HBe.out.size _).grown gr4 (Below.size (HBe.out.alloc HBe.out.size _)) (fun k h => by cases h; exact hgi); have hc4 : w4.cell? ⟨gk, j, none⟩ = some (.int .u8 z) := (by rw [HZ.out]; exact HK4.out.cell j (by rw [HL.out]; exact hlt)); clear r4 k4 l4 gr4) | (at_builtin; refine wpList_app_at _ rfl (.tmp 34) (.tmp 40) rfl w1.heap.size go j co (mix 92 (y.take j)) [bits .xor .u8 z 92] rfl (HML.out 92) (row_alloc RO4.out _) hgo (some ⟨w4.heap.size, 0, none⟩) 1 1 rfl rfl (rd_one w4 _) (by intro e; cases e) (by rw [← HML.out 92, List.length_singleton]; omega) ?_; intro g5 c5 w5 r5 k5 l5 gr5; have RO5 : Hid (Row w5 g5 c5 (mix 92 (y.take (j + 1)))) := (by show Row _ _ _ _; rw [T1.out 92]; exact r5); have GO5 : Hid (w1.heap.size ≤ g5) := k5; have RI5 : Hid (Row w5 g4 c4 (mix 54 (y.take (j + 1)))) := (row_alloc RI4.out _).keep (gr5.block g4 (row_alloc RI4.out _).lt (by simp only [ne_eq, Option.some.injEq]; exact NE4.out)); have NE5 : Hid (g4 ≠ g5) := (by rcases l5 with rfl | h; exact NE4.out; exact Nat.ne_of_lt (Nat.lt_of_lt_of_le (row_alloc RI4.out _).lt h)); have HK5 : Hid (Row w5 gk ck y) := (row_alloc HK4.out _).keep (gr5.block gk (row_alloc HK4.out _).lt (by simp only [ne_eq, Option.some.injEq]; exact Nat.ne_of_lt (Nat.lt_of_lt_of_le HGK.out hgo))); have B5 : Hid (Below w1.heap.size w1 w5) := (B4.out.alloc B4.out.size _).grown gr5 (Below.size (B4.out.alloc B4.out.size _)) (fun k h => by cases h; exact hgo); clear r5 k5 l5 gr5))
        go_roundw
        case rel => exact ⟨j + 1, g4, c4, g5, c5, by omega, by go_num, rfl, rfl, GI4.out, GO5.out, NE5.out, RI5.out, RO5.out, B5.out, HK5.out⟩
        case measure => simp [intOf]; omega
      · obtain rfl : j = 64 := by omega
        have TY : Hid (y.take 64 = y) := by show _ = _; rw [List.take_of_length_le (by rw [HL.out]; exact Nat.le_refl _)]
        rw [TY.out] at HRi HRo HML
        have BW : Hid (Below w.heap.size w wr) := B1.out.trans (HBe.out.mono B1.out.size)
        go_wp2_with (first | (at_builtin; refine wpList_app_at _ rfl (.tmp 43) (.tmp 44) rfl w1.heap.size gi 64 ci (mix 54 y) b rfl (HML.out 54) HRi.out hgi a1 n1 c1 rfl HN1.out (HR1.out.later BW.out (Nat.le_refl _)) na1 (by rw [← HML.out 54, ← HN1.out]; omega) ?_; intro g6 c6 w6 r6 k6 l6 gr6; have R6 : Hid (Row w6 g6 c6 (mix 54 y ++ b)) := r6; have RO6 : Hid (Row w6 go co (mix 92 y)) := HRo.out.keep (gr6.block go HRo.out.lt (by simp only [ne_eq, Option.some.injEq]; exact Ne.symm HNE.out)); have B6 : Hid (Below w1.heap.size w1 w6) := HBe.out.grown gr6 HBe.out.size (fun k h => by cases h; exact hgi); clear r6 k6 l6 gr6) | fail)
        have BW6 : Hid (Below w.heap.size w w6) := B1.out.trans (B6.out.mono B1.out.size)
        have HL6 : Hid (64 + n1 = (mix 54 y ++ b).length) := by show _ = _; rw [List.length_append, ← HML.out 54, HN1.out]
        have HB6 : Hid (Bytes (mix 54 y ++ b)) := bytes_append (mix_bytes 54 _ HKB.out (by omega) (by omega)) HB1.out
        refine (specSha _ (64 + n1) c6 _ w6 HL6.out R6.out.rd (by intro e; cases e) HB6.out (by omega)).mono ?_
        rintro e w7 ⟨g7, m7, c7, rfl, em, k7, r7, b7⟩
        have HS7 : Hid ((shaI (mix 54 y ++ b)).length = 32) := shaI_len _ (by rw [← HL6.out]; omega)
        have hm7 : m7 = 32 := by rw [em, HS7.out]
        subst hm7
        have R7 : Hid (Row w7 g7 c7 (shaI (mix 54 y ++ b))) := r7
        have RO7 : Hid (Row w7 go co (mix 92 y)) := RO6.out.later b7
        have B7 : Hid (Below w1.heap.size w1 w7) := B6.out.trans (b7.mono B6.out.size)
        clear em k7 r7 b7 R6 RO6 B6 BW6
        go_wp2_with (first | (at_builtin; refine wpList_app_at _ rfl (.tmp 42) (.tmp 46) rfl w1.heap.size go 64 co (mix 92 y) (shaI (mix 54 y ++ b)) rfl (HML.out 92) RO7.out hgo (some ⟨g7, 0, none⟩) 32 c7 rfl HS7.out.symm R7.out.rd (by intro e; cases e) (by rw [← HML.out 92, HS7.out]; omega) ?_; intro g8 c8 w8 r8 k8 l8 gr8; have R8 : Hid (Row w8 g8 c8 (mix 92 y ++ shaI (mix 54 y ++ b))) := r8; have B8 : Hid (Below w1.heap.size w1 w8) := B7.out.grown gr8 B7.out.size (fun k h => by cases h; exact hgo); clear r8 k8 l8 gr8) | fail)
        have BW8 : Hid (Below w.heap.size w w8) := B1.out.trans (B8.out.mono B1.out.size)
        have HL8 : Hid (64 + 32 = (mix 92 y ++ shaI (mix 54 y ++ b)).length) := by show _ = _; rw [List.length_append, ← HML.out 92, HS7.out]
        have HB8 : Hid (Bytes (mix 92 y ++ shaI (mix 54 y ++ b))) := bytes_append (mix_bytes 92 _ HKB.out (by omega) (by omega)) (shaI_bytes _)
        refine (specSha _ (64 + 32) c8 _ w8 HL8.out R8.out.rd (by intro e; cases e) HB8.out (by omega)).mono ?_
        rintro e w9 ⟨g9, m9, c9, rfl, em, k9, r9, b9⟩
        have EM : Hid (m9 = (hmacI k b).length) := by show _ = _; rw [HH.out]; exact em
        have K9 : Hid (w.heap.size ≤ g9) := Nat.le_trans BW8.out.size k9
        have R9 : Hid (Row w9 g9 c9 (hmacI k b)) := by show Row _ _ _ _; rw [HH.out]; exact r9
        have B9 : Hid (Below w.heap.size w w9) := BW8.out.trans (b9.mono BW8.out.size)
        clear em k9 r9 b9
        go_wp2
        go_ret
        exact ⟨g9, m9, c9, rfl, EM.out, K9.out, R9.out, B9.out⟩
  · have HH : Hid (hmacI k b = []) := hmacI_none k b (by rw [← HN0.out, ← HN1.out]; exact h1)
    have A0 : Hid (Below w.heap.size w (w.alloc (.cells #[] 5))) := (Below.refl _ _).alloc (Nat.le_refl _) _
    have R0 : Hid (Row (w.alloc (.cells #[] 5)) w.heap.size 0 []) := row_new w [] (by simp)
    by_cases h2 : n0 ≤ 1048576
    · have h1I : ¬ ((n0 : Int) > 1048576) := by omega
      have h2I : (n1 : Int) > 1048512 := by omega
      clear h1
      go_enter Tryd.func55, Tryd.ntmps55
      go_wp2
      go_ret
      exact ⟨w.heap.size, 0, 0, by simp, by rw [HH.out]; rfl, Nat.le_refl _, by rw [HH.out]; exact R0.out, A0.out⟩
    · have h1I : (n0 : Int) > 1048576 := by omega
      clear h1
      go_enter Tryd.func55, Tryd.ntmps55
      go_wp2
      go_ret
      exact ⟨w.heap.size, 0, 0, by simp, by rw [HH.out]; rfl, Nat.le_refl _, by rw [HH.out]; exact R0.out, A0.out⟩

set_option maxRecDepth 100000 in
set_option maxHeartbeats 800000 in
theorem specTag (a0 : Option Addr) (n0 c0 : Nat) (a1 : Option Addr) (n1 c1 : Nat) (k b : List Int) (w : World) (e0 : n0 = k.length) (e1 : n1 = b.length) (r0 : Rd w a0 k) (r1 : Rd w a1 b) (na0 : a0 = none → c0 = 0) (na1 : a1 = none → c1 = 0) (hb0 : Bytes k) (hb1 : Bytes b) (l0 : n0 ≤ 2097152) (l1 : n1 ≤ 2097152) :
    Calls Tryd.prog 43 #[.slice a0 n0 c0, .slice a1 n1 c1] w fun e w' =>
      ∃ g m c, e = .returned (.slice (some ⟨g, 0, none⟩) m c) ∧ m = (tagI k b).length ∧ w.heap.size ≤ g ∧ Row w' g c (tagI k b) ∧ Below w.heap.size w w' := by
  have HN0 : Hid (n0 = k.length) := e0
  have HN1 : Hid (n1 = b.length) := e1
  have HR0 : Hid (Rd w a0 k) := r0
  have HR1 : Hid (Rd w a1 b) := r1
  have HB0 : Hid (Bytes k) := hb0
  have HB1 : Hid (Bytes b) := hb1
  clear e0 e1 r0 r1 hb0 hb1
  go_enter Tryd.func43, Tryd.ntmps43
  go_wp2_with fail
  refine (specHmac a0 n0 c0 a1 n1 c1 k b w HN0.out HN1.out HR0.out HR1.out na0 na1 HB0.out HB1.out l0 l1).mono ?_
  rintro e w1 ⟨g, m, c, rfl, em, k1, r1, b1⟩
  have EM : Hid (m = (hmacI k b).length) := em
  have R1 : Hid (Row w1 g c (hmacI k b)) := r1
  have B1 : Hid (Below w.heap.size w w1) := b1
  have hm : m = 32 ∨ m = 0 := by
    rw [em]
    by_cases h : k.length ≤ 1048576 ∧ b.length ≤ 1048512
    · exact .inl (hmacI_len k b h.1 h.2)
    · exact .inr (by rw [hmacI_none k b h]; rfl)
  have hmc : m ≤ c := by rw [em]; exact r1.1
  have A1 : Hid (Below w.heap.size w (w1.alloc (.cells #[] 5))) := B1.out.alloc B1.out.size _
  have N1 : Hid (Row (w1.alloc (.cells #[] 5)) w1.heap.size 0 []) := row_new w1 [] (by simp)
  clear em k1 r1 b1
  rcases hm with rfl | rfl
  · have hcI : (32 : Int) ≤ (c : Int) := by omega
    have TL : Hid (16 = (tagI k b).length) := by show _ = _; unfold tagI; rw [List.length_take, ← EM.out]; rfl
    have RT : Hid (Rd (w1.alloc (.cells #[] 5)) (some ⟨g, 0, none⟩) (tagI k b)) := by
      have h1 := (row_alloc R1.out (.cells #[] 5)).rd
      show Rd _ _ _
      intro i hi
      rw [← TL.out] at hi
      obtain ⟨x, off, e, hx, hh⟩ := h1 i (by rw [← EM.out]; omega)
      refine ⟨x, off, e, hx, ?_⟩
      rw [hh]
      unfold tagI
      simp [List.getD, hi]
    go_wp2_with (at_builtin; refine wpList_app _ rfl (.tmp 13) (.tmp 15) rfl w.heap.size w1.heap.size 0 0 [] (tagI k b) rfl rfl N1.out B1.out.size (some ⟨g, 0, none⟩) 16 c rfl TL.out RT.out (by intro e; cases e) (by rw [← TL.out]; simp) ?_; intro g2 c2 w2 r2 k2 l2 gr2; have R2 : Hid (Row w2 g2 c2 (tagI k b)) := (List.nil_append (tagI k b)) ▸ r2; have G2 : Hid (w.heap.size ≤ g2) := k2; have B2 : Hid (Below w.heap.size w w2) := A1.out.grown gr2 A1.out.size (fun k h => by cases h; exact B1.out.size); clear r2 k2 l2 gr2)
    go_ret
    exact ⟨g2, 16, c2, rfl, TL.out, G2.out, R2.out, B2.out⟩
  · have HT : Hid (tagI k b = []) := by
      show _ = _
      have : hmacI k b = [] := List.eq_nil_of_length_eq_zero EM.out.symm
      unfold tagI; rw [this]; rfl
    go_wp2
    go_ret
    exact ⟨w1.heap.size, 0, 0, by simp, by rw [HT.out]; rfl, B1.out.size, by rw [HT.out]; exact N1.out, A1.out⟩
end Go.Proofs.YtpenhliaelhnoaaDoor.MacS

namespace Go.Proofs.YtpenhliaelhnoaaDoor.KdfS
open Go.RowKit Go.Proofs.YtpenhliaelhnoaaDoor.Mem Go.Proofs.YtpenhliaelhnoaaDoor.App Go.Proofs.YtpenhliaelhnoaaDoor.AppAt Go.Proofs.YtpenhliaelhnoaaDoor.ShaP Go.Proofs.YtpenhliaelhnoaaDoor.Words Go.Proofs.YtpenhliaelhnoaaDoor.MacP Go.Proofs.YtpenhliaelhnoaaDoor.MacS Go.Proofs.YtpenhliaelhnoaaDoor.KdfP Go.Proofs.YtpenhliaelhnoaaDoor.Str

set_option maxRecDepth 100000 in
theorem specExtract (a0 : Option Addr) (n0 c0 : Nat) (a1 : Option Addr) (n1 c1 : Nat) (k b : List Int) (w : World) (e0 : n0 = k.length) (e1 : n1 = b.length) (r0 : Rd w a0 k) (r1 : Rd w a1 b) (na0 : a0 = none → c0 = 0) (na1 : a1 = none → c1 = 0) (hb0 : Bytes k) (hb1 : Bytes b) (l0 : n0 ≤ 2097152) (l1 : n1 ≤ 2097152) :
    Calls Tryd.prog 41 #[.slice a0 n0 c0, .slice a1 n1 c1] w fun e w' =>
      ∃ g m c, e = .returned (.slice (some ⟨g, 0, none⟩) m c) ∧ m = (hmacI k b).length ∧ w.heap.size ≤ g ∧ Row w' g c (hmacI k b) ∧ Below w.heap.size w w' := by
  have HN0 : Hid (n0 = k.length) := e0
  have HN1 : Hid (n1 = b.length) := e1
  clear e0 e1
  go_enter Tryd.func41, Tryd.ntmps41
  go_wp2_with fail
  refine (specHmac a0 n0 c0 a1 n1 c1 k b w HN0.out HN1.out r0 r1 na0 na1 hb0 hb1 l0 l1).mono ?_
  rintro e w1 ⟨g, m, c, rfl, em, k1, r1, b1⟩
  have EM : Hid (m = (hmacI k b).length) := em
  clear em
  go_wp2
  go_ret
  exact ⟨g, m, c, rfl, EM.out, k1, r1, b1⟩

set_option maxRecDepth 100000 in
set_option maxHeartbeats 4000000 in
theorem specExpand (a0 : Option Addr) (n0 c0 : Nat) (a1 : Option Addr) (n1 c1 : Nat) (k f : List Int) (n : Int) (w : World) (e0 : n0 = k.length) (e1 : n1 = f.length) (r0 : Rd w a0 k) (r1 : Rd w a1 f) (na0 : a0 = none → c0 = 0) (na1 : a1 = none → c1 = 0) (hb0 : Bytes k) (hb1 : Bytes f) (l0 : n0 ≤ 2097152) (l1 : n1 ≤ 2097152) :
    Calls Tryd.prog 54 #[.slice a0 n0 c0, .slice a1 n1 c1, .int .i64 n] w fun e w' =>
      ∃ g m c, e = .returned (.tuple #[.slice (some ⟨g, 0, none⟩) m c, .bool (mayExp k f n)]) ∧ m = (expI k f n).length ∧ w.heap.size ≤ g ∧ Row w' g c (expI k f n) ∧ Below w.heap.size w w' := by
  have HN0 : Hid (n0 = k.length) := e0
  have HN1 : Hid (n1 = f.length) := e1
  have HR0 : Hid (Rd w a0 k) := r0
  have HR1 : Hid (Rd w a1 f) := r1
  have HB0 : Hid (Bytes k) := hb0
  have HB1 : Hid (Bytes f) := hb1
  clear e0 e1 r0 r1 hb0 hb1
  cases hm : mayExp k f n with
  | false =>
    have HE : Hid (expI k f n = []) := expI_no k f n hm
    have hno : ¬ (0 ≤ n ∧ n ≤ 8160 ∧ n1 ≤ 100 ∧ n0 ≤ 1048576) := by
      intro h; rw [HN0.out, HN1.out] at h; rw [(mayExp_iff k f n).2 h] at hm; cases hm
    have A0 : Hid (Below w.heap.size w (w.alloc (.cells #[] 5))) := (Below.refl _ _).alloc (Nat.le_refl _) _
    have R0 : Hid (Row (w.alloc (.cells #[] 5)) w.heap.size 0 []) := row_new w [] (by simp)
    clear hm
    by_cases h1 : 0 ≤ n ∧ n ≤ 8160
    · have hi : isIn n 0 8160 = true := by simp [isIn]; omega
      by_cases h2 : n1 ≤ 100
      · have q1 : ¬ ((n1 : Int) > 100) := by omega
        have q2 : (n0 : Int) > 1048576 := by omega
        clear hno
        go_enter Tryd.func54, Tryd.ntmps54
        go_wp2_with fail
        refine (l1In n 0 8160 w).mono ?_
        rintro e w1 ⟨rfl, rfl⟩
        rw [hi]
        go_wp2
        go_ret2
        exact ⟨w.heap.size, 0, 0, by simp, by rw [HE.out]; rfl, Nat.le_refl _, by rw [HE.out]; exact R0.out, A0.out⟩
      · have q1 : (n1 : Int) > 100 := by omega
        clear hno
        go_enter Tryd.func54, Tryd.ntmps54
        go_wp2_with fail
        refine (l1In n 0 8160 w).mono ?_
        rintro e w1 ⟨rfl, rfl⟩
        rw [hi]
        go_wp2
        go_ret2
        exact ⟨w.heap.size, 0, 0, by simp, by rw [HE.out]; rfl, Nat.le_refl _, by rw [HE.out]; exact R0.out, A0.out⟩
    · have hi : isIn n 0 8160 = false := by simp [isIn]; omega
      clear hno
      go_enter Tryd.func54, Tryd.ntmps54
      go_wp2_with fail
      refine (l1In n 0 8160 w).mono ?_
      rintro e w1 ⟨rfl, rfl⟩
      rw [hi]
      go_wp2
      go_ret2
      exact ⟨w.heap.size, 0, 0, by simp, by rw [HE.out]; rfl, Nat.le_refl _, by rw [HE.out]; exact R0.out, A0.out⟩
  | true =>
    obtain ⟨h0, h1, h2, h3⟩ := (mayExp_iff k f n).1 hm
    obtain ⟨N, rfl⟩ := Int.eq_ofNat_of_zero_le h0
    have HE : Hid (expI k f (N : Int) = (blks k f ((N + 31) / 32)).take N) := by show _ = _; rw [expI_yes k f _ hm, Int.toNat_natCast]
    have HEL : Hid (N = (expI k f (N : Int)).length) := (expI_len k f N hm).symm
    have HK3 : Hid (k.length ≤ 1048576) := h3
    have HF2 : Hid (f.length ≤ 100) := h2
    have hN : N ≤ 8160 := by omega
    rw [← HN1.out] at h2
    rw [← HN0.out] at h3
    have hi : isIn (N : Int) 0 8160 = true := by simp [isIn]; omega
    have q1 : ¬ ((n1 : Int) > 100) := by omega
    have q2 : ¬ ((n0 : Int) > 1048576) := by omega
    clear hm h0 h1
    obtain ⟨w2, hw2⟩ : ∃ w2, (w.alloc (.cells #[] 5)).alloc (.cells #[] 5) = w2 := ⟨_, rfl⟩
    have HW2 : Hid ((w.alloc (.cells #[] 5)).alloc (.cells #[] 5) = w2) := hw2
    have RO : Hid (Row w2 w.heap.size 0 (blks k f 0)) := by rw [← hw2]; exact row_alloc (row_new w [] (by simp)) _
    have RT : Hid (Row w2 (w.heap.size + 1) 0 (blk k f 0)) := by
      have := row_new (w.alloc (.cells #[] 5)) [] (by simp)
      rw [show (w.alloc (.cells #[] 5)).heap.size = w.heap.size + 1 by simp] at this
      rw [← hw2]; exact this
    have B2 : Hid (Below w.heap.size w w2) := by rw [← hw2]; exact ((Below.refl _ _).alloc (Nat.le_refl _) _).alloc (by simp) _
    clear hw2
    go_enter Tryd.func54, Tryd.ntmps54
    go_wp2_with fail
    refine (l1In (N : Int) 0 8160 w).mono ?_
    rintro e w1 ⟨rfl, rfl⟩
    rw [hi]
    go_wp2
    rw [HW2.out]
    go_loopw [8, 9, 10] (fun v u i wr => ∃ q go co gt mt ct : Nat, q ≤ 256 ∧ 32 * q < N + 32 ∧ i = .int .i64 ((q : Int) + 1) ∧ v = .slice (some ⟨go, 0, none⟩) (32 * q) co ∧ u = .slice (some ⟨gt, 0, none⟩) mt ct ∧ mt = (blk k f q).length ∧ w.heap.size ≤ go ∧ w.heap.size ≤ gt ∧ go ≠ gt ∧ Row wr go co (blks k f q) ∧ Row wr gt ct (blk k f q) ∧ Below w.heap.size w wr)
      (fun _ _ i _ => 10000 - (intOf i).toNat)
    case atStart => exact ⟨0, w.heap.size, 0, w.heap.size + 1, 0, 0, by omega, by omega, rfl, rfl, rfl, rfl, Nat.le_refl _, by omega, by omega, RO.out, RT.out, B2.out⟩
    case round =>
      obtain ⟨q, go, co, gt, mt, ct, hq, hqN, rfl, rfl, rfl, emt, hgo, hgt, hne, hRo, hRt, hbe⟩ := hrel
      have HRo : Hid (Row wr go co (blks k f q)) := hRo
      have HRt : Hid (Row wr gt ct (blk k f q)) := hRt
      have HBe : Hid (Below w.heap.size w wr) := hbe
      have HNE : Hid (go ≠ gt) := hne
      have EMT : Hid (mt = (blk k f q).length) := emt
      have hmt : mt ≤ 32 := by rw [emt]; exact blk_le k f q
      have HOL : Hid (32 * q = (blks k f q).length) := (blks_len k f HK3.out HF2.out q).symm
      clear RO RT B2 hRo hRt hbe hne emt
      by_cases hlt : 32 * q < N
      · have hltI : ((32 * q : Nat) : Int) < (N : Int) := by omega
        have hwi : IntKind.u8.wrap ((q : Int) + 1) = ((q + 1 : Nat) : Int) % 256 := by rw [IntKind.wrap_u8']; rfl
        have HT1 : Hid (blk k f (q + 1) = hmacI k (blk k f q ++ f ++ [((q + 1 : Nat) : Int) % 256])) := rfl
        have HO1 : Hid (blks k f (q + 1) = blks k f q ++ blk k f (q + 1)) := rfl
        have H32 : Hid ((blk k f (q + 1)).length = 32) := blk_len k f HK3.out HF2.out q
        obtain ⟨x, hx⟩ : ∃ x, ((q + 1 : Nat) : Int) % 256 = x := ⟨_, rfl⟩
        have xb : 0 ≤ x ∧ x ≤ 255 := by omega
        rw [hx] at hwi HT1
        have A1 : Hid (Below wr.heap.size wr (wr.alloc (.cells #[] 5))) := (Below.refl _ _).alloc (Nat.le_refl _) _
        have E1 : Hid (Row (wr.alloc (.cells #[] 5)) wr.heap.size 0 []) := row_new wr [] (by simp)
        have HR1w : Hid (Rd wr a1 f) := HR1.out.later HBe.out (Nat.le_refl _)
        have HR0w : Hid (Rd wr a0 k) := HR0.out.later HBe.out (Nat.le_refl _)
        clear hx
        go_wp2_with (first
          | (at_builtin; refine wpList_app_at _ rfl (.tmp 34) (.tmp 35) rfl wr.heap.size wr.heap.size 0 0 [] (blk k f q) rfl rfl E1.out (Nat.le_refl _) (some ⟨gt, 0, none⟩) mt ct rfl EMT.out (row_alloc HRt.out _).rd (by intro e; cases e) (by rw [← EMT.out, List.length_nil]; omega) ?_; intro g3 c3 w3 r3 k3 l3 gr3; have R3 : Hid (Row w3 g3 c3 (blk k f q)) := (List.nil_append (blk k f q)) ▸ r3; have G3 : Hid (wr.heap.size ≤ g3) := k3; have B3 : Hid (Below wr.heap.size wr w3) := A1.out.grown gr3 A1.out.size (fun k h => by cases h; exact Nat.le_refl _); clear r3 k3 l3 gr3)
          | (at_builtin; refine wpList_app_at _ rfl (.tmp 36) (.tmp 37) rfl wr.heap.size g3 mt c3 (blk k f q) f rfl EMT.out R3.out G3.out a1 n1 c1 rfl HN1.out (HR1w.out.later B3.out (Nat.le_refl _)) na1 (by rw [← EMT.out, ← HN1.out]; omega) ?_; intro g4 c4 w4 r4 k4 l4 gr4; have R4 : Hid (Row w4 g4 c4 (blk k f q ++ f)) := r4; have G4 : Hid (wr.heap.size ≤ g4) := k4; have B4 : Hid (Below wr.heap.size wr w4) := B3.out.grown gr4 B3.out.size (fun k h => by cases h; exact G3.out); have L4 : Hid (mt + n1 = (blk k f q ++ f).length) := (by show _ = _; rw [List.length_append, ← EMT.out, ← HN1.out]); clear r4 k4 l4 gr4)
          | (at_builtin; refine wpList_app_at _ rfl (.tmp 38) (.tmp 41) rfl wr.heap.size g4 (mt + n1) c4 (blk k f q ++ f) [x] rfl L4.out (row_alloc R4.out _) G4.out (some ⟨w4.heap.size, 0, none⟩) 1 1 rfl rfl (rd_one w4 x) (by intro e; cases e) (by rw [← L4.out, List.length_singleton]; omega) ?_; intro g5 c5 w5 r5 k5 l5 gr5; have R5 : Hid (Row w5 g5 c5 (blk k f q ++ f ++ [x])) := r5; have B5 : Hid (Below wr.heap.size wr w5) := (B4.out.alloc B4.out.size _).grown gr5 (Below.size (B4.out.alloc B4.out.size _)) (fun k h => by cases h; exact G4.out); clear r5 k5 l5 gr5))
        have L5 : Hid (mt + n1 + 1 = (blk k f q ++ f ++ [x]).length) := by show _ = _; rw [List.length_append, ← L4.out]; rfl
        have Y5 : Hid (Bytes (blk k f q ++ f ++ [x])) := bytes_append (bytes_append (blk_bytes k f q) HB1.out) (fun z hz => by simp at hz; omega)
        refine (specHmac a0 n0 c0 (some ⟨g5, 0, none⟩) (mt + n1 + 1) c5 k (blk k f q ++ f ++ [x]) w5 HN0.out L5.out (HR0w.out.later B5.out (Nat.le_refl _)) R5.out.rd na0 (by intro e; cases e) HB0.out Y5.out l0 (by omega)).mono ?_
        rw [← HT1.out]
        rintro e w6 ⟨g6, m6, c6, rfl, e6, k6, r6, b6⟩
        obtain rfl : m6 = 32 := by rw [e6, H32.out]
        have R6 : Hid (Row w6 g6 c6 (blk k f (q + 1))) := r6
        have B6 : Hid (Below wr.heap.size wr w6) := B5.out.trans (b6.mono B5.out.size)
        have G6 : Hid (wr.heap.size ≤ g6) := Nat.le_trans B5.out.size k6
        have RO6 : Hid (Row w6 go co (blks k f q)) := HRo.out.later B6.out
        have NE6 : Hid (go ≠ g6) := Nat.ne_of_lt (Nat.lt_of_lt_of_le HRo.out.lt G6.out)
        have BW6 : Hid (Below w.heap.size w w6) := HBe.out.trans (B6.out.mono HBe.out.size)
        clear e6 k6 r6 b6 R3 R4 R5 B3 B4 B5
        go_wp2_with (at_builtin; refine wpList_app_at _ rfl (.tmp 44) (.tmp 45) rfl w.heap.size go (32 * q) co (blks k f q) (blk k f (q + 1)) rfl HOL.out RO6.out hgo (some ⟨g6, 0, none⟩) 32 c6 rfl H32.out.symm R6.out.rd (by intro e; cases e) (by rw [← HOL.out, H32.out]; omega) ?_; intro g7 c7 w7 r7 k7 l7 gr7; have R7 : Hid (Row w7 g7 c7 (blks k f (q + 1))) := r7; have G7 : Hid (w.heap.size ≤ g7) := k7; have RT7 : Hid (Row w7 g6 c6 (blk k f (q + 1))) := R6.out.keep (gr7.block g6 R6.out.lt (by simp only [ne_eq, Option.some.injEq]; exact Ne.symm NE6.out)); have NE7 : Hid (g7 ≠ g6) := (by rcases l7 with rfl | h; exact NE6.out; exact Nat.ne_of_gt (Nat.lt_of_lt_of_le R6.out.lt h)); have B7 : Hid (Below w.heap.size w w7) := BW6.out.grown gr7 BW6.out.size (fun k h => by cases h; exact hgo); clear r7 k7 l7 gr7)
        go_roundw
        case rel => exact ⟨q + 1, g7, c7, g6, 32, c6, by omega, by omega, by go_num, by (congr 1), rfl, H32.out.symm, G7.out, Nat.le_trans HBe.out.size G6.out, NE7.out, R7.out, RT7.out, B7.out⟩
        case measure => simp [intOf]; omega
      · have hltI : ¬ (((32 * q : Nat) : Int) < (N : Int)) := by omega
        have hco : 32 * q ≤ co := by have := HRo.out.1; rw [← HOL.out] at this; exact this
        have i1 : (N : Int) ≤ (co : Int) := by omega
        have i0 : (0 : Int) ≤ (N : Int) := by omega
        have HQ : Hid ((N + 31) / 32 = q) := by show _ = _; omega
        have A1 : Hid (Below w.heap.size w (wr.alloc (.cells #[] 5))) := HBe.out.alloc HBe.out.size _
        have E1 : Hid (Row (wr.alloc (.cells #[] 5)) wr.heap.size 0 []) := row_new wr [] (by simp)
        have RX : Hid (Rd (wr.alloc (.cells #[] 5)) (some ⟨go, 0, none⟩) (expI k f (N : Int))) := by
          show Rd _ _ _
          rw [HE.out, HQ.out]
          have h1 := (row_alloc HRo.out (.cells #[] 5)).rd
          intro i hi
          rw [List.length_take] at hi
          obtain ⟨b', off, e, hb', hh⟩ := h1 i (by omega)
          refine ⟨b', off, e, hb', ?_⟩
          rw [hh]
          have : i < N := by omega
          simp [List.getD, this]
        go_wp2_with (at_builtin; refine wpList_app _ rfl (.tmp 47) (.tmp 50) rfl w.heap.size wr.heap.size 0 0 [] (expI k f (N : Int)) rfl rfl E1.out HBe.out.size (some ⟨go, 0, none⟩) N co rfl HEL.out RX.out (by intro e; cases e) (by rw [← HEL.out, List.length_nil]; omega) ?_; intro g8 c8 w8 r8 k8 l8 gr8; have R8 : Hid (Row w8 g8 c8 (expI k f (N : Int))) := (List.nil_append (expI k f (N : Int))) ▸ r8; have G8 : Hid (w.heap.size ≤ g8) := k8; have B8 : Hid (Below w.heap.size w w8) := A1.out.grown gr8 A1.out.size (fun k h => by cases h; exact HBe.out.size); clear r8 k8 l8 gr8)
        go_ret2
        exact ⟨g8, N, c8, rfl, HEL.out, G8.out, R8.out, B8.out⟩

set_option maxRecDepth 100000 in
set_option maxHeartbeats 800000 in
theorem specDerive (a0 : Option Addr) (n0 c0 : Nat) (k : List Int) (t : ByteArray) (w : World) (e0 : n0 = k.length) (r0 : Rd w a0 k) (na0 : a0 = none → c0 = 0) (hb0 : Bytes k) (l0 : n0 ≤ 2097152) (l1 : t.size ≤ 2097152) :
    Calls Tryd.prog 40 #[.slice a0 n0 c0, .string t] w fun e w' =>
      ∃ g m c, e = .returned (.slice (some ⟨g, 0, none⟩) m c) ∧ m = (derI k (bs t)).length ∧ w.heap.size ≤ g ∧ Row w' g c (derI k (bs t)) ∧ Below w.heap.size w w' := by
  have HN0 : Hid (n0 = k.length) := e0
  have HR0 : Hid (Rd w a0 k) := r0
  have HB0 : Hid (Bytes k) := hb0
  clear e0 r0 hb0
  obtain ⟨W, cB, hrun, rdW, beW⟩ := bytes_made w t
  have RW : Hid (Rd W (some ⟨w.heap.size, 0, none⟩) (bs t)) := rdW
  have BW : Hid (Below w.heap.size w W) := beW
  clear rdW beW
  go_enter Tryd.func40, Tryd.ntmps40
  go_wp2_with fail
  refine (specExpand a0 n0 c0 (some ⟨w.heap.size, 0, none⟩) t.size cB k (bs t) 32 W HN0.out (bs_length t).symm (HR0.out.later BW.out (Nat.le_refl _)) RW.out na0 (by intro e; cases e) HB0.out (bs_bytes t) l0 l1).mono ?_
  rintro e w1 ⟨g, m, c, rfl, em, k1, r1, b1⟩
  have EM : Hid (m = (derI k (bs t)).length) := em
  have K1 : Hid (w.heap.size ≤ g) := Nat.le_trans BW.out.size k1
  have R1 : Hid (Row w1 g c (derI k (bs t))) := r1
  have B1 : Hid (Below w.heap.size w w1) := BW.out.trans (b1.mono BW.out.size)
  clear em k1 r1 b1
  go_wp2
  go_ret
  exact ⟨g, m, c, rfl, EM.out, K1.out, R1.out, B1.out⟩

set_option maxRecDepth 100000 in
set_option maxHeartbeats 1600000 in
theorem specChain (a0 : Option Addr) (n0 c0 : Nat) (k : List Int) (n : Int) (w : World) (e0 : n0 = k.length) (r0 : Rd w a0 k) (na0 : a0 = none → c0 = 0) (hb0 : Bytes k) (l0 : n0 ≤ 1048576) :
    Calls Tryd.prog 33 #[.slice a0 n0 c0, .int .i64 n] w fun e w' =>
      ∃ g m c, e = .returned (.slice (some ⟨g, 0, none⟩) m c) ∧ m = (chnI k n).length ∧ w.heap.size ≤ g ∧ Row w' g c (chnI k n) ∧ Below w.heap.size w w' := by
  have HN0 : Hid (n0 = k.length) := e0
  have HR0 : Hid (Rd w a0 k) := r0
  have HB0 : Hid (Bytes k) := hb0
  have A0 : Hid (Below w.heap.size w (w.alloc (.cells #[] 5))) := (Below.refl _ _).alloc (Nat.le_refl _) _
  have R0 : Hid (Row (w.alloc (.cells #[] 5)) w.heap.size 0 []) := row_new w [] (by simp)
  clear e0 r0 hb0
  by_cases h1 : 0 ≤ n ∧ n ≤ 64
  · obtain ⟨N, rfl⟩ := Int.eq_ofNat_of_zero_le h1.1
    have hN : N ≤ 64 := by omega
    have hi : isIn (N : Int) 0 64 = true := by simp [isIn]; omega
    have HC : Hid (chnI k (N : Int) = chn k N) := by show _ = _; unfold chnI; rw [if_pos h1, Int.toNat_natCast]
    clear h1
    go_enter Tryd.func33, Tryd.ntmps33
    go_wp2_with fail
    refine (l1In (N : Int) 0 64 w).mono ?_
    rintro e w1 ⟨rfl, rfl⟩
    rw [hi]
    go_wp2_with (at_builtin; refine wpList_app _ rfl (.tmp 11) (.tmp 12) rfl w.heap.size w.heap.size 0 0 [] k rfl rfl R0.out (Nat.le_refl _) a0 n0 c0 rfl HN0.out (HR0.out.later A0.out (Nat.le_refl _)) na0 (by rw [← HN0.out, List.length_nil]; omega) ?_; intro g1 c1 w1 r1 b1 l1 gr1; have R1 : Hid (Row w1 g1 c1 (chn k 0)) := (List.nil_append k) ▸ r1; have G1 : Hid (w.heap.size ≤ g1) := b1; have B1 : Hid (Below w.heap.size w w1) := A0.out.grown gr1 A0.out.size (fun k h => by cases h; exact Nat.le_refl _); clear r1 b1 l1 gr1)
    go_loopw [5, 6] (fun v i wr => ∃ q g m c : Nat, q ≤ N ∧ i = .int .i64 q ∧ v = .slice (some ⟨g, 0, none⟩) m c ∧ m = (chn k q).length ∧ w.heap.size ≤ g ∧ Row wr g c (chn k q) ∧ Below w.heap.size w wr)
      (fun _ i _ => N - (intOf i).toNat)
    case atStart => exact ⟨0, g1, n0, c1, by omega, rfl, rfl, HN0.out, G1.out, R1.out, B1.out⟩
    case round =>
      obtain ⟨q, g, m, c, hq, rfl, rfl, em, hg, hR, hbe⟩ := hrel
      have EM : Hid (m = (chn k q).length) := em
      have HR : Hid (Row wr g c (chn k q)) := hR
      have HBe : Hid (Below w.heap.size w wr) := hbe
      have hm : m ≤ 2097152 := by have := chn_le k q; rw [← em, ← HN0.out] at this; omega
      clear R1 B1 em hR hbe
      by_cases hlt : q < N
      · have hltI : (q : Int) < (N : Int) := by omega
        have HY : Hid (Bytes (chn k q)) := chn_bytes k HB0.out q
        have HT : Hid (derI (chn k q) (bs ⟨#[114, 101, 107, 101, 121]⟩) = chn k (q + 1)) := rfl
        go_wp2_with fail
        refine (specDerive (some ⟨g, 0, none⟩) m c (chn k q) ⟨#[114, 101, 107, 101, 121]⟩ wr EM.out HR.out.rd (by intro e; cases e) HY.out hm (by decide)).mono ?_
        rw [HT.out]
        rintro e w2 ⟨g2, m2, c2, rfl, e2, k2, r2, b2⟩
        have E2 : Hid (m2 = (chn k (q + 1)).length) := e2
        have K2 : Hid (w.heap.size ≤ g2) := Nat.le_trans HBe.out.size k2
        have R2 : Hid (Row w2 g2 c2 (chn k (q + 1))) := r2
        have B2 : Hid (Below w.heap.size w w2) := HBe.out.trans (b2.mono HBe.out.size)
        clear e2 k2 r2 b2
        go_wp2
        go_roundw
        case rel => exact ⟨q + 1, g2, m2, c2, by omega, by go_num, rfl, E2.out, K2.out, R2.out, B2.out⟩
        case measure => simp [intOf]; omega
      · obtain rfl : q = N := by omega
        go_wp2
        go_ret
        exact ⟨g, m, c, rfl, by rw [HC.out]; exact EM.out, hg, by rw [HC.out]; exact HR.out, HBe.out⟩
  · have HC : Hid (chnI k n = []) := by show _ = _; unfold chnI; rw [if_neg h1]
    have hi : isIn n 0 64 = false := by simp [isIn]; omega
    clear h1
    go_enter Tryd.func33, Tryd.ntmps33
    go_wp2_with fail
    refine (l1In n 0 64 w).mono ?_
    rintro e w1 ⟨rfl, rfl⟩
    rw [hi]
    go_wp2
    go_ret
    exact ⟨w.heap.size, 0, 0, by simp, by rw [HC.out]; rfl, Nat.le_refl _, by rw [HC.out]; exact R0.out, A0.out⟩
end Go.Proofs.YtpenhliaelhnoaaDoor.KdfS

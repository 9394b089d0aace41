/-
  What spec's HashEnd answers at every hash whose lists are of at most 1,048,576.
-/
import Derived.Test.YtippfkoondknkaaDoorHashE
import Derived.Deep.RegionHeld3
import Derived.Deep.RegionLaw
namespace Go.Proofs.YtippfkoondknkaaDoor.HashD
open Go.RowKit Go.Proofs.YtippfkoondknkaaDoor.Mem Go.Proofs.YtippfkoondknkaaDoor.MemI Go.Proofs.YtippfkoondknkaaDoor.Blk Go.Proofs.YtippfkoondknkaaDoor.App Go.Proofs.YtippfkoondknkaaDoor.Get Go.Proofs.YtippfkoondknkaaDoor.ShaP Go.Proofs.YtippfkoondknkaaDoor.Sched Go.Proofs.YtippfkoondknkaaDoor.Words Go.Proofs.YtippfkoondknkaaDoor.WordsOf Go.Proofs.YtippfkoondknkaaDoor.Start Go.Proofs.YtippfkoondknkaaDoor.Comp Go.Proofs.YtippfkoondknkaaDoor.CompS Go.Proofs.YtippfkoondknkaaDoor.Cuts Go.Proofs.YtippfkoondknkaaDoor.Hashs Go.Proofs.YtippfkoondknkaaDoor.HashH Go.Proofs.YtippfkoondknkaaDoor.HashO Go.Proofs.YtippfkoondknkaaDoor.HashS Go.Proofs.YtippfkoondknkaaDoor.HashE Go.Proofs.YtippfkoondknkaaDoor.Pads Go.Proofs.YtippfkoondknkaaDoor.Adds Go.Proofs.YtippfkoondknkaaDoor.Ends Go.Proofs.YtippfkoondknkaaDoor.ShaS

theorem bstep_app {ops : Array Oper} {o : Oper} {a : Act} {w : World} {K : Act → World → Prop} {Q : Exit → Act → World → Prop} {E : Prop}
    (hgd : o.guard = none) (s x : Operand) (hop : o.op = .call { callee := .builtin .append, args := #[s, x], argTypes := #[22, 22] })
    (base g n cap : Nat) (l y : List Int) (hs : a.eval s = .slice (some ⟨g, 0, none⟩) n cap) (hn : n = l.length) (hrow : Row w g cap l) (hbg : base ≤ g)
    (ad : Addr) (m c : Nat) (hx : a.eval x = .slice (some ad) m c) (hm : m = y.length) (hrd : Rd w (some ad) y) (hsum : l.length + y.length ≤ 100000000)
    (hK : ∀ g' cap' w', Row w' g' cap' (l ++ y) → base ≤ g' → g' < w'.heap.size → w.grownBy w' (some g) → K (a.put o.dst (.slice (some ⟨g', 0, none⟩) (n + m) cap')) w') :
    if Region.wanted o (yielded ops a.tmps) = true then Oper.wp Tryd.prog o a w K Q else E := by
  have hw : Region.wanted o (yielded ops a.tmps) = true := by simp [Region.wanted, hgd]
  rw [if_pos hw]
  obtain ⟨i0, hi, hz0, hz1, hz2⟩ := info_parts info8
  subst hn hm
  have hlt := hrow.lt
  refine wp_append_own w s x 22 hop base 5 i0 (.int .u8 0) 1 1 Tryd.underlying22 hi hz0 hz1 hz2 rfl (by decide) _ _ _ hs (hrow.owns hbg) ad y.length c (y.map (Value.int .u8)) hx (by simp) (Rd.cells hrd) (ints_oneCell _ _) (by unfold maxLen; omega) (by omega) (by omega) ?_
  intro v' w' hown hgr hiff
  rcases hown.2 with ⟨hv, _⟩ | ⟨g', cap', cur, rfl, hb, hg', _⟩
  · exact absurd (hiff.1 hv).1 (by simp)
  · rw [← List.map_append] at hown
    obtain ⟨r1, r2, _, r4⟩ := Row.of hown
    exact hK g' cap' w' r1 r2 r4 hgr


set_option maxHeartbeats 2000000 in
theorem specHashEnd (a0 : Option Addr) (n0 c0 : Nat) (b : Addr) (n1 c1 : Nat) (N : Int) (h held : List Int) (w : World) (e0 : n0 = h.length) (e1 : n1 = held.length) (r0 : IRd w a0 h) (na : a0 = none → c0 = 0) (r1 : Rd w (some b) held) (hb : Bytes held) (l0 : n0 ≤ 1048576) (l1 : n1 ≤ 1048576) :
    Calls Tryd.prog 47 #[hashV a0 n0 c0 (some b) n1 c1 N] w fun e w' =>
      ∃ g m c, e = .returned (.slice (some ⟨g, 0, none⟩) m c) ∧ m = (endI h held N).length ∧ w.heap.size ≤ g ∧ Row w' g c (endI h held N) ∧ Below w.heap.size w w' := by
  have E0 : Hid (n0 = h.length) := e0
  have E1 : Hid (n1 = held.length) := e1
  have R0 : Hid (IRd w a0 h) := r0
  have R1 : Hid (Rd w (some b) held) := r1
  have HB : Hid (Bytes held) := hb
  obtain ⟨w0, hw0⟩ : ∃ w0, w.alloc (.cells #[.slice a0 n0 c0, .slice (some b) n1 c1, .int .i64 N] 27) = w0 := ⟨_, rfl⟩
  have HW0 : Hid (w.alloc (.cells #[.slice a0 n0 c0, .slice (some b) n1 c1, .int .i64 N] 27) = w0) := hw0
  have A0 : Hid (Below w.heap.size w w0) := by rw [← hw0]; exact (Below.refl _ _).alloc (Nat.le_refl _) _
  have K0 : Hid (Blk w0 w.heap.size 27 [.slice a0 n0 c0, .slice (some b) n1 c1, .int .i64 N]) := by rw [← hw0]; exact Blk.new w 27 [.slice a0 n0 c0, .slice (some b) n1 c1, .int .i64 N]
  clear e0 e1 r0 r1 hb hw0
  unfold hashV
  go_enter Tryd.func47, Tryd.ntmps47
  go_wp2_with fail
  rw [HW0.out]
  refine (specHashOk a0 n0 c0 (some b) n1 c1 N h _ E0.out (R0.out.later A0.out (Nat.le_refl _)) (by omega) (by omega)).mono ?_
  rintro e w1 ⟨rfl, b1⟩
  have B1 : Hid (Below w.heap.size w w1) := A0.out.trans (b1.mono A0.out.size)
  have K1 : Hid (Blk w1 w.heap.size 27 [.slice a0 n0 c0, .slice (some b) n1 c1, .int .i64 N]) := K0.out.later b1
  clear b1
  cases hk : okH h n1 N with
  | false =>
    have HE : Hid (endI h held N = []) := by show _ = _; unfold endI; rw [if_neg (by rw [← E1.out, hk]; simp)]
    clear hk
    go_wp2
    go_ret
    exact ⟨w1.heap.size, 0, 0, by simp, by rw [HE.out]; rfl, B1.out.size, by rw [HE.out]; exact row_new w1 [] (by simp), B1.out.alloc B1.out.size _⟩
  | true =>
    obtain ⟨p1, p2, p3⟩ := okH_parts hk
    obtain ⟨M, rfl⟩ := Int.eq_ofNat_of_zero_le p2.1
    have hM : M ≤ 1048576 := by omega
    have hn64 : n1 < 64 := by omega
    have HMOD : Hid (n1 = M % 64) := by show _ = _; omega
    have HH8 : Hid (h.length = 8) := ((okw_iff h).1 p1).1
    have HHW : Hid (Wds h) := ((okw_iff h).1 p1).2
    have HE : Hid (endI h held (M : Int) = endOf h held M) := by show _ = _; unfold endI; rw [if_pos (by rw [← E1.out]; exact hk), Int.toNat_natCast]
    have HPD : Hid (padI (M : Int) = padOf M) := padI_nat M hM
    have HPL : Hid ((padI (M : Int)).length = 9 + (64 - (M + 9) % 64) % 64) := by show _ = _; rw [HPD.out, padOf_length]
    have s1 := K1.out.cell 1 rfl
    have s2 := K1.out.cell 2 rfl
    have HR1 : Hid (Rd w1.drew (some b) held) := Rd.drewN (R1.out.later B1.out (Nat.le_refl _)) 1
    have HB1 : Hid (Below w.heap.size w w1.drew) := B1.out.drew
    clear hk p1 p2 p3
    go_wp2
    have HWL : Hid (w.heap.size < w1.heap.size) := K1.out.lt
    go_region_held3 (fun w' => w'.cell? ⟨w.heap.size, 1, none⟩ = some (.slice (some b) n1 c1) ∧ w'.cell? ⟨w.heap.size, 2, none⟩ = some (.int .i64 M)) (first | exact ⟨s5, s6⟩ | exact ⟨s7, s8⟩ | exact ⟨s3, s4⟩ | exact ⟨s1, s2⟩ | go_keep)
      (first
        | (go_at_call 59; refine (specPad (M : Int) _).mono ?_; rintro e wp ⟨gp, mp, cp, rfl, ep, kp, rp, bp⟩; have EP : Hid (mp = (padI (M : Int)).length) := ep; have RP : Hid (Row wp gp cp (padI (M : Int))) := rp; have BP : Hid (Below w.heap.size w wp) := Below.trans BW.out (bp.mono (Below.size BW.out)); have KP : Hid (Blk wp w.heap.size 27 [.slice a0 n0 c0, .slice (some b) n1 c1, .int .i64 M]) := Blk.later KB.out bp; have RA : Hid (Row wp g2 c2 held) := RA.out.later bp; have s3 := KP.out.cell 1 rfl; have s4 := KP.out.cell 2 rfl; clear ep rp bp kp)
        | (go_at_call 59; refine (specPad (M : Int) _).mono ?_; rintro e wp ⟨gp, mp, cp, rfl, ep, kp, rp, bp⟩; have EP : Hid (mp = (padI (M : Int)).length) := ep; have RP : Hid (Row wp gp cp (padI (M : Int))) := rp; have BP : Hid (Below w.heap.size w wp) := Below.trans (HB1.out.alloc HB1.out.size (.cells #[] 5)) (bp.mono (Below.size (HB1.out.alloc HB1.out.size (.cells #[] 5)))); have KP : Hid (Blk wp w.heap.size 27 [.slice a0 n0 c0, .slice (some b) n1 c1, .int .i64 M]) := Blk.later (Blk.alloc (w := w1.drew) K1.out (.cells #[] 5)) bp; have SP : Hid (w1.heap.size ≤ wp.heap.size) := Nat.le_trans (by simp) bp.size; have AL : Hid (Row wp w1.heap.size 0 []) := Row.later (w := w1.drew.alloc (.cells #[] 5)) ((row_new w1 [] (by simp)).keep rfl) bp; have GP : Hid (w1.heap.size < gp) := Nat.lt_of_lt_of_le (by simp) kp; have s3 := KP.out.cell 1 rfl; have s4 := KP.out.cell 2 rfl; clear ep rp bp kp)
        | (go_at_call 59; refine (specPad (M : Int) _).mono ?_; rintro e wp ⟨gp, mp, cp, rfl, ep, kp, rp, bp⟩; have EP : Hid (mp = (padI (M : Int)).length) := ep; have RP : Hid (Row wp gp cp (padI (M : Int))) := rp; have BP : Hid (Below w.heap.size w wp) := Below.trans HB1.out (bp.mono (Below.size HB1.out)); have KP : Hid (Blk wp w.heap.size 27 [.slice a0 n0 c0, .slice (some b) n1 c1, .int .i64 M]) := Blk.later (blk_drew K1.out) bp; have SP : Hid (w1.heap.size ≤ wp.heap.size) := bp.size; have s3 := KP.out.cell 1 rfl; have s4 := KP.out.cell 2 rfl; clear ep rp bp kp)
        | (refine bstep_app rfl (.tmp 10) (.tmp 12) rfl w1.heap.size w1.heap.size 0 0 [] held (by simp [Act.eval]) rfl (by exact (row_new w1 [] (by simp)).keep rfl) (Nat.le_refl _) b n1 c1 (by simp [Act.eval]) E1.out (by exact rd_alloc (w := w1.drew) HR1.out (.cells #[] 5)) (by rw [← E1.out]; simp; omega) ?_; intro g2 c2 w2 r2 k2 l2 gr2; have RA : Hid (Row w2 g2 c2 held) := (List.nil_append held) ▸ r2; have KA : Hid (w1.heap.size ≤ g2) := k2; have BW : Hid (Below w.heap.size w w2) := Below.grown (HB1.out.alloc HB1.out.size (.cells #[] 5)) gr2 (Below.size (HB1.out.alloc HB1.out.size (.cells #[] 5))) (fun k h => by cases h; exact B1.out.size); have KB : Hid (Blk w2 w.heap.size 27 [.slice a0 n0 c0, .slice (some b) n1 c1, .int .i64 M]) := Blk.keep (Blk.alloc (w := w1.drew) K1.out (.cells #[] 5)) (gr2.block _ (Blk.lt (Blk.alloc (w := w1.drew) K1.out (.cells #[] 5))) (by simp only [ne_eq, Option.some.injEq]; exact Nat.ne_of_lt (Nat.lt_of_lt_of_le HWL.out (Nat.le_refl _)))); have s7 := KB.out.cell 1 rfl; have s8 := KB.out.cell 2 rfl; clear r2 gr2 l2)
        | (refine bstep_app rfl (.tmp 10) (.tmp 12) rfl w1.heap.size w1.heap.size 0 0 [] held (by simp [Act.eval]) rfl AL.out (Nat.le_refl _) b n1 c1 (by simp [Act.eval]) E1.out (by exact R1.out.later BP.out (Nat.le_refl _)) (by rw [← E1.out]; simp; omega) ?_; intro g2 c2 w2 r2 k2 l2 gr2; have RA : Hid (Row w2 g2 c2 held) := (List.nil_append held) ▸ r2; have KA : Hid (w1.heap.size ≤ g2) := k2; have BW : Hid (Below w.heap.size w w2) := Below.grown BP.out gr2 (Below.size BP.out) (fun k h => by cases h; exact B1.out.size); have KB : Hid (Blk w2 w.heap.size 27 [.slice a0 n0 c0, .slice (some b) n1 c1, .int .i64 M]) := Blk.keep KP.out (gr2.block _ (Blk.lt KP.out) (by simp only [ne_eq, Option.some.injEq]; exact Nat.ne_of_lt (Nat.lt_of_lt_of_le HWL.out (Nat.le_refl _)))); have RP : Hid (Row w2 gp cp (padI (M : Int))) := RP.out.keep (gr2.block _ RP.out.lt (by simp only [ne_eq, Option.some.injEq]; exact Nat.ne_of_gt GP.out)); have s7 := KB.out.cell 1 rfl; have s8 := KB.out.cell 2 rfl; clear r2 gr2 l2)
        | (refine bstep_app rfl (.tmp 10) (.tmp 12) rfl w1.heap.size wp.heap.size 0 0 [] held (by simp [Act.eval]) rfl (by exact row_new wp [] (by simp)) SP.out b n1 c1 (by simp [Act.eval]) E1.out (by exact rd_alloc (R1.out.later BP.out (Nat.le_refl _)) (.cells #[] 5)) (by rw [← E1.out]; simp; omega) ?_; intro g2 c2 w2 r2 k2 l2 gr2; have RA : Hid (Row w2 g2 c2 held) := (List.nil_append held) ▸ r2; have KA : Hid (w1.heap.size ≤ g2) := k2; have BW : Hid (Below w.heap.size w w2) := Below.grown (BP.out.alloc BP.out.size (.cells #[] 5)) gr2 (Below.size (BP.out.alloc BP.out.size (.cells #[] 5))) (fun k h => by cases h; exact BP.out.size); have KB : Hid (Blk w2 w.heap.size 27 [.slice a0 n0 c0, .slice (some b) n1 c1, .int .i64 M]) := Blk.keep (KP.out.alloc (.cells #[] 5)) (gr2.block _ (Blk.lt (KP.out.alloc (.cells #[] 5))) (by simp only [ne_eq, Option.some.injEq]; exact Nat.ne_of_lt (Nat.lt_of_lt_of_le HWL.out SP.out))); have RP : Hid (Row w2 gp cp (padI (M : Int))) := (row_alloc RP.out (.cells #[] 5)).keep (gr2.block _ (row_alloc RP.out (.cells #[] 5)).lt (by simp only [ne_eq, Option.some.injEq]; exact Nat.ne_of_lt RP.out.lt)); have s7 := KB.out.cell 1 rfl; have s8 := KB.out.cell 2 rfl; clear r2 gr2 l2)
        | (refine bstep_app rfl (.tmp 13) (.tmp 16) rfl w1.heap.size g2 n1 c2 held (padI (M : Int)) (by simp [Act.eval]) E1.out RA.out KA.out ⟨gp, 0, none⟩ mp cp (by simp [Act.eval]) EP.out RP.out.rd (by rw [← E1.out, HPL.out]; omega) ?_; intro g3 c3 w3 r3 k3 l3 gr3; have R3 : Hid (Row w3 g3 c3 (held ++ padI (M : Int))) := r3; have B3 : Hid (Below w.heap.size w w3) := BP.out.grown gr3 BP.out.size (fun k h => by cases h; exact Nat.le_trans B1.out.size KA.out); have K3 : Hid (Blk w3 w.heap.size 27 [.slice a0 n0 c0, .slice (some b) n1 c1, .int .i64 M]) := KP.out.keep (gr3.block _ KP.out.lt (by simp only [ne_eq, Option.some.injEq]; exact Nat.ne_of_lt (Nat.lt_of_lt_of_le HWL.out KA.out))); have s5 := K3.out.cell 1 rfl; have s6 := K3.out.cell 2 rfl; clear r3 gr3 l3)
        | (refine bstep_app rfl (.tmp 13) (.tmp 16) rfl w1.heap.size g2 n1 c2 held (padI (M : Int)) (by simp [Act.eval]) E1.out RA.out KA.out ⟨gp, 0, none⟩ mp cp (by simp [Act.eval]) EP.out RP.out.rd (by rw [← E1.out, HPL.out]; omega) ?_; intro g3 c3 w3 r3 k3 l3 gr3; have R3 : Hid (Row w3 g3 c3 (held ++ padI (M : Int))) := r3; have B3 : Hid (Below w.heap.size w w3) := BW.out.grown gr3 BW.out.size (fun k h => by cases h; exact Nat.le_trans B1.out.size KA.out); have K3 : Hid (Blk w3 w.heap.size 27 [.slice a0 n0 c0, .slice (some b) n1 c1, .int .i64 M]) := KB.out.keep (gr3.block _ KB.out.lt (by simp only [ne_eq, Option.some.injEq]; exact Nat.ne_of_lt (Nat.lt_of_lt_of_le HWL.out KA.out))); have s5 := K3.out.cell 1 rfl; have s6 := K3.out.cell 2 rfl; clear r3 gr3 l3))
    clear s1 s2 s3 s4 s5 s6 s7 s8
    obtain ⟨x, hx⟩ : ∃ x, held ++ padI (M : Int) = x := ⟨_, rfl⟩
    rw [hx] at R3
    obtain ⟨L, hL⟩ : ∃ L, n1 + mp = L := ⟨_, rfl⟩
    have HL : Hid (x.length = L) := by rw [← hx, ← hL, List.length_append, ← E1.out, ← EP.out]; simp [Hid]
    obtain ⟨Q, hQ⟩ : ∃ Q, L = 64 * Q := ⟨L / 64, by have := HPL.out; have := EP.out; have := HMOD.out; omega⟩
    subst hQ
    have HXB : Hid (Bytes x) := by
      rw [← hx]
      exact fun z hz => (List.mem_append.1 hz).elim (HB.out z) (padI_bytes _ z)
    have hQm : 64 * Q ≤ 4194304 := by have := HPL.out; have := EP.out; omega
    have HS : Hid (endI h held (M : Int) = outB (run h x (x.length / 64))) := by
      show _ = _
      rw [HE.out, ← hx, HPD.out]; rfl
    rw [hL]
    clear hL hx
    have x0 := K3.out.cell 0 rfl
    have A3 : Hid (Below w.heap.size w (w3.alloc (.cells #[] 3))) := B3.out.alloc B3.out.size _
    have N3 : Hid (IRow (w3.alloc (.cells #[] 3)) w3.heap.size 0 []) := irow_new w3 [] (by simp)
    have kx0 := (K3.out.alloc (.cells #[] 3)).cell 0 rfl
    go_wp2_with (at_builtin; refine iwpList_app _ rfl (.tmp 18) (.tmp 20) rfl w.heap.size w3.heap.size 0 0 [] h rfl rfl N3.out B3.out.size a0 n0 c0 rfl E0.out (R0.out.later A3.out (Nat.le_refl _)) na (by rw [← E0.out]; simp; omega) ?_; intro g4 c4 w4 r4 k4 l4 gr4; have RH : Hid (IRow w4 g4 c4 (run h x 0)) := (List.nil_append h) ▸ r4; have KH : Hid (w.heap.size ≤ g4) := k4; have BX : Hid (Below w.heap.size w w4) := A3.out.grown gr4 A3.out.size (fun k h => by cases h; exact B3.out.size); have RX : Hid (Row w4 g3 c3 x) := (row_alloc R3.out _).keep (gr4.block _ (row_alloc R3.out _).lt (by simp only [ne_eq, Option.some.injEq]; exact Nat.ne_of_lt R3.out.lt)); clear r4 k4 l4 gr4)
    obtain rfl : n0 = 8 := by rw [E0.out, HH8.out]
    go_loopw [4, 5] (fun v i wr => ∃ q gh ch : Nat, q ≤ Q ∧ i = .int .i64 (64 * (q : Int)) ∧ v = .slice (some ⟨gh, 0, none⟩) 8 ch ∧ w.heap.size ≤ gh ∧ IRow wr gh ch (run h x q) ∧ Row wr g3 c3 x ∧ Below w.heap.size w wr)
      (fun _ i _ => 64 * Q - (intOf i).toNat)
    case atStart => exact ⟨0, g4, c4, Nat.zero_le _, rfl, rfl, KH.out, RH.out, RX.out, BX.out⟩
    case round =>
      obtain ⟨q, gh, ch, hq, rfl, rfl, hgh, hH, hX, hbe⟩ := hrel
      have HH : Hid (IRow wr gh ch (run h x q)) := hH
      have HX : Hid (Row wr g3 c3 x) := hX
      have HBe : Hid (Below w.heap.size w wr) := hbe
      have HRL : Hid ((run h x q).length = 8) := run_length h x q HH8.out
      have HRW : Hid (Wds (run h x q)) := run_wds h x q HHW.out
      have hc3 : 64 * Q ≤ c3 := by have := hX.1; rw [HL.out] at this; exact this
      clear hH hX hbe KH RH RX BX
      by_cases hlt : q < Q
      · have HPL2 : Hid ((piece x (64 * q) 64).length = 64) := piece_length x (64 * q) 64 (by rw [HL.out]; omega)
        have HP : Hid (Rd wr (some ⟨g3, 64 * q, none⟩) (piece x (64 * q) 64)) := by
          have := rd_piece HX.out.rd (64 * q) 64 (by rw [HL.out]; omega)
          rwa [Nat.zero_add] at this
        have HPB : Hid (Bytes (piece x (64 * q) 64)) := piece_bytes HXB.out _ _
        have HCI : Hid (compI (run h x q) (piece x (64 * q) 64) = run h x (q + 1)) := compI_ok _ _ HRL.out HRW.out HPL2.out
        have i1 : (64 * (q : Int)) < 64 * (Q : Int) := by omega
        have i2 : (64 * (q : Int)) + 64 ≤ 64 * (Q : Int) := by omega
        go_wp2_with fail
        refine (specCompress (some ⟨gh, 0, none⟩) 8 ch (run h x q) (some ⟨g3, 64 * q, none⟩) _ _ (piece x (64 * q) 64) wr HRL.out.symm HH.out.rd (by intro e; cases e) (by omega) (by rw [HPL2.out]) HP.out HPB.out (by omega)).mono ?_
        rintro e w5 ⟨g5, m5, c5, rfl, e5, k5, r5, b5⟩
        rw [HCI.out] at e5 r5
        obtain rfl : m5 = 8 := by rw [e5, run_length h x (q + 1) HH8.out]
        have R5 : Hid (IRow w5 g5 c5 (run h x (q + 1))) := r5
        have K5 : Hid (w.heap.size ≤ g5) := Nat.le_trans HBe.out.size k5
        have B5 : Hid (Below w.heap.size w w5) := HBe.out.trans (b5.mono HBe.out.size)
        have X5 : Hid (Row w5 g3 c3 x) := HX.out.later b5
        clear r5 e5 k5 b5 HCI HPB HP HPL2
        go_wp2
        go_roundw
        case rel => exact ⟨q + 1, g5, c5, by omega, by go_num, rfl, K5.out, R5.out, X5.out, B5.out⟩
        case measure => simp [intOf]; omega
      · obtain rfl : q = Q := by omega
        have i3 : ¬ (64 * (q : Int) < 64 * (q : Int)) := by omega
        go_wp2_with fail
        refine (l2Out gh ch (run h x q) wr HRL.out HH.out).mono ?_
        rintro e w6 ⟨g6, c6, rfl, k6, r6, b6⟩
        have HE : Hid (endI h held (M : Int) = outB (run h x q)) := by
          show _ = _
          rw [HS.out, HL.out, Nat.mul_div_cancel_left q (by omega)]
        have HE2 : Hid ((endI h held (M : Int)).length = 32) := by show _ = _; rw [HE.out, outB_length, HRL.out]
        have K6 : Hid (w.heap.size ≤ g6) := Nat.le_trans HBe.out.size k6
        have R6 : Hid (Row w6 g6 c6 (endI h held (M : Int))) := by show Row _ _ _ _; rw [HE.out]; exact r6
        have B6 : Hid (Below w.heap.size w w6) := HBe.out.trans (b6.mono HBe.out.size)
        clear r6 k6 b6
        go_wp2
        go_ret
        exact ⟨g6, 32, c6, rfl, HE2.out.symm, K6.out, R6.out, B6.out⟩
end Go.Proofs.YtippfkoondknkaaDoor.HashD

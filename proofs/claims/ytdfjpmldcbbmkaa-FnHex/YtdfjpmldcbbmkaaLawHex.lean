/-
  The walk of the law FnHex: at every slice of bytes it answers true, and nothing that was there is written.
-/
import Derived.Test.YtdfjpmldcbbmkaaDrawHex
import Derived.Test.YtdfjpmldcbbmkaaLawHexM
import Derived.Test.YtdfjpmldcbbmkaaParseI
namespace Go.Proofs.Ytdfjpmldcbbmkaa.LawHex
open Go.RowKit Go.Proofs.Ytdfjpmldcbbmkaa.Mem Go.Proofs.Ytdfjpmldcbbmkaa.App Go.Proofs.Ytdfjpmldcbbmkaa.Draw Go.Proofs.Ytdfjpmldcbbmkaa.DrawsW Go.Proofs.Ytdfjpmldcbbmkaa.Get Go.Proofs.Ytdfjpmldcbbmkaa.Cuts Go.Proofs.Ytdfjpmldcbbmkaa.HexT Go.Proofs.Ytdfjpmldcbbmkaa.Parse Go.Proofs.Ytdfjpmldcbbmkaa.DrawHex Go.Proofs.Ytdfjpmldcbbmkaa.LawHexM

theorem same_yes (g c n g2 c2 n2 : Nat) (x : List Int) (w : World) (hn : n = x.length) (hn2 : n2 = x.length) (h1 : Rd w (some ⟨g, 0, none⟩) x) (h2 : Rd w (some ⟨g2, 0, none⟩) x) :
    Calls Try.prog 32 #[.slice (some ⟨g, 0, none⟩) n c, .slice (some ⟨g2, 0, none⟩) n2 c2] w fun e w' => e = .returned (.bool true) ∧ w = w' := by
  have cv1 := convert_row (c := c) hn h1
  have cv2 := convert_row (c := c2) hn2 h2
  clear h1 h2 hn hn2
  generalize strOfNums x = s at *
  go_enter Try.func32, Try.ntmps32
  go_wp2
  go_ret
  exact ⟨by simp, rfl⟩

theorem wpList_app_on (w : World) {ops : Array Oper} {rest : List Oper} {o : Oper} {a : Act} {Q : Exit → Act → World → Prop} (s x : Operand)
    (hop : o.op = .call { callee := .builtin .append, args := #[s, x], argTypes := #[22, 22] }) (hw : Region.wanted o (yielded ops a.tmps) = true)
    (base g n cap : Nat) (l y : List Int) (hs : a.eval s = .slice (some ⟨g, 0, none⟩) n cap) (hn : n = l.length) (hrow : Row w g cap l) (hbg : base ≤ g)
    (ad : Addr) (m c : Nat) (hx : a.eval x = .slice (some ad) m c) (hm : m = y.length) (hrd : Rd w (some ad) y) (hsum : l.length + y.length ≤ 100000000)
    (h : ∀ g' cap' w', Row w' g' cap' (l ++ y) → base ≤ g' → g' < w'.heap.size → w.grownBy w' (some g) → wpList Try.prog ops Q rest (a.put o.dst (.slice (some ⟨g', 0, none⟩) (n + m) cap')) w') :
    wpList Try.prog ops Q (o :: rest) a w := by
  refine wpList_step fun K hK => ?_
  rw [if_pos hw]
  obtain ⟨i0, hi, hz0, hz1, hz2⟩ := info_parts info8
  subst hn hm
  have hlt := hrow.lt
  refine wp_append_own w s x 22 hop base 5 i0 (.int .u8 0) 1 1 Try.underlying22 hi hz0 hz1 hz2 rfl (by decide) _ _ _ hs (hrow.owns hbg) ad y.length c (y.map (Value.int .u8)) hx (by simp) (Rd.cells hrd) (ints_oneCell _ _) (by unfold maxLen; omega) (by omega) (by omega) ?_
  intro v' w' hown hgr hiff
  rcases hown.2 with ⟨hv, _⟩ | ⟨g', cap', cur, rfl, hb, hg', _⟩
  · exact absurd (hiff.1 hv).1 (by simp)
  · rw [← List.map_append] at hown
    obtain ⟨r1, r2, _, r4⟩ := Row.of hown
    exact hK _ _ (h g' cap' w' r1 r2 r4 hgr)

theorem cuts_both (r : List Int) (mb : Nat) (q : Int) (hm : mb = r.length) (h0 : 0 ≤ q) (h1 : q ≤ mb) : cutOf r 0 q ++ cutOf r q ((mb : Int) - q) = r := by
  subst hm
  obtain ⟨Q, rfl⟩ := Int.eq_ofNat_of_zero_le h0
  unfold cutOf
  rw [if_pos (there_yes (by omega)), if_pos (there_yes (by omega)), Int.toNat_natCast, show (0 : Int).toNat = 0 from rfl, show ((r.length : Int) - (Q : Int)).toNat = r.length - Q by omega]
  exact both_pieces r Q

set_option maxHeartbeats 3200000 in
theorem small (a : Option Addr) (len cap : Nat) (l : List Int) (w : World) (hl : len = l.length) (hr : Rd w a l) (hb : Bytes l) (hlen : len ≤ 1048576) :
    Calls Try.prog 5 #[.slice a len cap] w fun e w' => e = .returned (.bool true) ∧ Below w.heap.size w w' := by
  have HR : Hid (Rd w a l) := hr
  have HY : Hid (Bytes l) := hb
  have HL : Hid (len = l.length) := hl
  clear hr hb hl
  go_enter Try.func5, Try.ntmps5
  go_wp2_with fail
  refine (big_no a len cap w hlen).mono ?_
  rintro e w0 ⟨rfl, rfl⟩
  go_wp2_with fail
  refine (drawHexText a len cap l w HL.out HR.out HY.out hlen).mono ?_
  rintro e w1 ⟨gb, mb, cb, r, rfl, e1, m1, mc1, y1, g1, row1, b1⟩
  have B1 : Hid (Below w.heap.size w w1) := b1
  have Q1 : Hid (Row w1 gb cb r) := row1
  have EB : Hid (mb = r.length) := e1
  have YB : Hid (Bytes r) := y1
  clear b1 row1 e1 y1
  go_wp2_with fail
  refine (implHexText _ mb cb r w1 EB.out Q1.out.rd YB.out (by omega)).mono ?_
  rintro e w2 ⟨rfl, b2⟩
  have Q2 : Hid (Row w2 gb cb r) := Q1.out.later b2
  have B2 : Hid (Below w.heap.size w w2) := B1.out.trans (b2.mono B1.out.size)
  clear b2 Q1 B1
  have HK := back YB.out (by have := EB.out; omega)
  have HK1 : Hid (good (bs (strOfNums (hexOf r))) = true) := HK.1
  have HK2 : Hid (parsed (bs (strOfNums (hexOf r))) = r) := HK.2
  have HZ : Hid ((strOfNums (hexOf r)).size ≤ 400) := by show _ ≤ _; rw [strOfNums_size, hexOf_length, ← EB.out]; omega
  clear HK
  generalize strOfNums (hexOf r) = s at *
  go_wp2_with fail
  refine (implParseHex s w2 (by have := HZ.out; omega)).mono ?_
  rw [HK1.out, HK2.out]
  rintro e w3 ⟨gc, mc, cc, rfl, e3, h3, r3, b3⟩
  have EC : Hid (mc = r.length) := e3
  have C3 : Hid (Row w3 gc cc r) := r3
  have Q3 : Hid (Row w3 gb cb r) := Q2.out.later b3
  have B3 : Hid (Below w.heap.size w w3) := B2.out.trans (b3.mono B2.out.size)
  clear e3 r3 b3 Q2 B2
  go_wp2_with fail
  refine (drawParseHex a len cap l w3 HL.out (HR.out.later B3.out (Nat.le_refl _)) HY.out hlen).mono ?_
  rintro e w4 ⟨t, rfl, ht, b4⟩
  have C4 : Hid (Row w4 gc cc r) := C3.out.later b4
  have Q4 : Hid (Row w4 gb cb r) := Q3.out.later b4
  have B4 : Hid (Below w.heap.size w w4) := B3.out.trans (b4.mono B3.out.size)
  clear b4 C3 Q3 B3
  have HT : Hid (good (bs t) = true → strOfNums (hexOf (parsed (bs t))) = t) := forth t
  have YD : Hid (Bytes (parsed (bs t))) := parsed_bytes _
  have LD : Hid ((parsed (bs t)).length ≤ 200) := parsed_length _
  have CI := fun w => implParseHex t w (by omega)
  have CS := fun w => specParseHex t w (by omega)
  generalize good (bs t) = ok at *
  generalize parsed (bs t) = d at *
  go_wp2_with fail
  refine (CI _).mono ?_
  rintro e w5 ⟨gd, md, cd, rfl, e5, h5, r5, b5⟩
  have ED : Hid (md = d.length) := e5
  have D5 : Hid (Row w5 gd cd d) := r5
  have C5 : Hid (Row w5 gc cc r) := C4.out.later b5
  have Q5 : Hid (Row w5 gb cb r) := Q4.out.later b5
  have B5 : Hid (Below w.heap.size w w5) := B4.out.trans (b5.mono B4.out.size)
  clear e5 r5 b5 C4 Q4 B4
  go_wp2_with fail
  refine (CS _).mono ?_
  rintro e w6 ⟨gs, ms, cs, rfl, e6, h6, r6, b6⟩
  have D6 : Hid (Row w6 gd cd d) := D5.out.later b6
  have C6 : Hid (Row w6 gc cc r) := C5.out.later b6
  have Q6 : Hid (Row w6 gb cb r) := Q5.out.later b6
  have B6 : Hid (Below w.heap.size w w6) := B5.out.trans (b6.mono B5.out.size)
  clear e6 r6 b6 C5 Q5 B5 D5 CI CS
  by_cases hmb : 0 < mb
  · have hmbI : (0 : Int) < (mb : Int) := by omega
    go_wp2_with fail
    refine (at2 a len cap l w6 HL.out (HR.out.later B6.out (Nat.le_refl _)) HY.out hlen).mono ?_
    rintro e w7 ⟨x, rfl, x0, x1, rfl⟩
    have q0 : 0 ≤ x % ((mb : Int) + 1) := Int.emod_nonneg _ (by omega)
    have q1 : x % ((mb : Int) + 1) ≤ (mb : Int) := by have := Int.emod_lt_of_pos x (show (0 : Int) < (mb : Int) + 1 by omega); omega
    have hne : (((mb : Int) + 1) == 0) = false := by rw [beq_eq_false_iff_ne]; omega
    go_wp2_with fail
    generalize x % ((mb : Int) + 1) = q at *
    have T1 : Hid (there mb 0 q = true) := there_yes (by omega)
    have T2 : Hid (there mb q ((mb : Int) - q) = true) := there_yes (by omega)
    have T3 : Hid (there mb q (((mb : Int) - q) + 1) = false) := there_no (by omega)
    refine (implCut gb 0 mb cb r 0 q w6 EB.out Q6.out.rd mc1 (by omega) (by omega)).mono ?_
    rw [T1.out]
    rintro e w7 ⟨gx, mx, cx, rfl, e7, h7, r7, b7⟩
    have EX : Hid (mx = (cutOf r 0 q).length) := e7
    have X7 : Hid (Row w7 gx cx (cutOf r 0 q)) := r7
    have D7 : Hid (Row w7 gd cd d) := D6.out.later b7
    have C7 : Hid (Row w7 gc cc r) := C6.out.later b7
    have Q7 : Hid (Row w7 gb cb r) := Q6.out.later b7
    have B7 : Hid (Below w.heap.size w w7) := B6.out.trans (b7.mono B6.out.size)
    clear e7 r7 b7 C6 Q6 B6 D6
    go_wp2_with fail
    refine (implCut gb 0 mb cb r q ((mb : Int) - q) w7 EB.out Q7.out.rd mc1 (by omega) (by omega)).mono ?_
    rw [T2.out]
    rintro e w8 ⟨gy, my, cy, rfl, e8, h8, r8, b8⟩
    have EY : Hid (my = (cutOf r q ((mb : Int) - q)).length) := e8
    have Y8 : Hid (Row w8 gy cy (cutOf r q ((mb : Int) - q))) := r8
    have X8 : Hid (Row w8 gx cx (cutOf r 0 q)) := X7.out.later b8
    have D8 : Hid (Row w8 gd cd d) := D7.out.later b8
    have C8 : Hid (Row w8 gc cc r) := C7.out.later b8
    have Q8 : Hid (Row w8 gb cb r) := Q7.out.later b8
    have B8 : Hid (Below w.heap.size w w8) := B7.out.trans (b8.mono B7.out.size)
    clear e8 r8 b8 C7 Q7 B7 D7 X7
    go_wp2_with fail
    refine (implCut gb 0 mb cb r q (((mb : Int) - q) + 1) w8 EB.out Q8.out.rd mc1 (by omega) (by omega)).mono ?_
    rw [T3.out]
    rintro e w9 ⟨gz, mz, cz, rfl, e9, h9, r9, b9⟩
    have Y9 : Hid (Row w9 gy cy (cutOf r q ((mb : Int) - q))) := Y8.out.later b9
    have X9 : Hid (Row w9 gx cx (cutOf r 0 q)) := X8.out.later b9
    have D9 : Hid (Row w9 gd cd d) := D8.out.later b9
    have C9 : Hid (Row w9 gc cc r) := C8.out.later b9
    have Q9 : Hid (Row w9 gb cb r) := Q8.out.later b9
    have B9 : Hid (Below w.heap.size w w9) := B8.out.trans (b9.mono B8.out.size)
    clear e9 r9 b9 C8 Q8 B8 D8 X8 Y8
    have HXY : Hid (cutOf r 0 q ++ cutOf r q ((mb : Int) - q) = r) := cuts_both r mb q EB.out (by omega) (by omega)
    have LX : Hid ((cutOf r 0 q).length ≤ 200) := Nat.le_trans (cutOf_length _ _ _) (by have := EB.out; omega)
    have LY : Hid ((cutOf r q ((mb : Int) - q)).length ≤ 200) := Nat.le_trans (cutOf_length _ _ _) (by have := EB.out; omega)
    clear T1 T2 T3
    generalize cutOf r 0 q = xx at *
    generalize cutOf r q ((mb : Int) - q) = yy at *
    go_wp2_with fail
    refine (same_yes gc cc mc gb cb mb r w9 EC.out EB.out C9.out.rd Q9.out.rd).mono ?_
    rintro e w10 ⟨rfl, rfl⟩
    have HA : Hid (Below w9.heap.size w9 (w9.alloc (.cells #[] 5))) := (Below.refl _ _).alloc (Nat.le_refl _) _
    cases ok
    · go_wp2_with (first | (at_builtin; refine wpList_app_on _ (.tmp 110) (.tmp 111) rfl (by rfl) w9.heap.size w9.heap.size 0 0 [] xx rfl rfl (row_new w9 [] (by simp)) (Nat.le_refl _) ⟨gx, 0, none⟩ mx cx rfl EX.out (X9.out.rd.later HA.out (Nat.le_refl _)) (by have := LX.out; simp; omega) ?_; intro ga ca wa ra ba la gra; have RA : Hid (Row wa ga ca ([] ++ xx)) := ra; have BA : Hid (Below w9.heap.size w9 wa) := HA.out.grown gra HA.out.size (fun k h => by cases h; exact Nat.le_refl _); have YA : Hid (Row wa gy cy yy) := Y9.out.later BA.out; clear ra gra la) | (at_builtin; refine wpList_app_on _ (.tmp 112) (.tmp 113) rfl (by rfl) w9.heap.size ga mx ca ([] ++ xx) yy rfl EX.out RA.out ba ⟨gy, 0, none⟩ my cy rfl EY.out YA.out.rd (by have := LX.out; have := LY.out; simp; omega) ?_; intro ge ce we re be le gre; have RE : Hid (Row we ge ce ([] ++ xx ++ yy)) := re; have BE : Hid (Below w9.heap.size w9 we) := BA.out.grown gre BA.out.size (fun k h => by cases h; exact ba); clear re gre le))
      refine (same_yes ge ce (mx + my) gb cb mb r we (by rw [← HXY.out, List.length_append, ← EX.out, ← EY.out]) EB.out (by have := RE.out.rd; rw [List.nil_append, HXY.out] at this; exact this) (Q9.out.later BE.out).rd).mono ?_
      rintro e w10 ⟨rfl, rfl⟩
      go_wp2
      go_ret
      exact ⟨rfl, B9.out.trans (BE.out.mono B9.out.size)⟩
    · have HDT : Hid (strOfNums (hexOf d) = t) := HT.out rfl
      go_wp2_with fail
      refine (implHexText _ md cd d w9 ED.out D9.out.rd YD.out (by have := LD.out; have := ED.out; omega)).mono ?_
      rw [HDT.out]
      rintro e w11 ⟨rfl, b11⟩
      have Y11 : Hid (Row w11 gy cy yy) := Y9.out.later b11
      have X11 : Hid (Row w11 gx cx xx) := X9.out.later b11
      have Q11 : Hid (Row w11 gb cb r) := Q9.out.later b11
      have B11 : Hid (Below w.heap.size w w11) := B9.out.trans (b11.mono B9.out.size)
      have HE : Hid (Below w11.heap.size w11 (w11.alloc (.cells #[] 5))) := (Below.refl _ _).alloc (Nat.le_refl _) _
      have htt : (t.toList == t.toList) = true := by simp
      clear b11 Y9 X9 Q9 B9 D9 C9 HA
      go_wp2_with (first | (at_builtin; refine wpList_app_on _ (.tmp 110) (.tmp 111) rfl (by rfl) w11.heap.size w11.heap.size 0 0 [] xx rfl rfl (row_new w11 [] (by simp)) (Nat.le_refl _) ⟨gx, 0, none⟩ mx cx rfl EX.out (X11.out.rd.later HE.out (Nat.le_refl _)) (by have := LX.out; simp; omega) ?_; intro ga ca wa ra ba la gra; have RA : Hid (Row wa ga ca ([] ++ xx)) := ra; have BA : Hid (Below w11.heap.size w11 wa) := HE.out.grown gra HE.out.size (fun k h => by cases h; exact Nat.le_refl _); have YA : Hid (Row wa gy cy yy) := Y11.out.later BA.out; clear ra gra la) | (at_builtin; refine wpList_app_on _ (.tmp 112) (.tmp 113) rfl (by rfl) w11.heap.size ga mx ca ([] ++ xx) yy rfl EX.out RA.out ba ⟨gy, 0, none⟩ my cy rfl EY.out YA.out.rd (by have := LX.out; have := LY.out; simp; omega) ?_; intro ge ce we re be le gre; have RE : Hid (Row we ge ce ([] ++ xx ++ yy)) := re; have BE : Hid (Below w11.heap.size w11 we) := BA.out.grown gre BA.out.size (fun k h => by cases h; exact ba); clear re gre le))
      refine (same_yes ge ce (mx + my) gb cb mb r we (by rw [← HXY.out, List.length_append, ← EX.out, ← EY.out]) EB.out (by have := RE.out.rd; rw [List.nil_append, HXY.out] at this; exact this) (Q11.out.later BE.out).rd).mono ?_
      rintro e w10 ⟨rfl, rfl⟩
      go_wp2
      go_ret
      exact ⟨rfl, B11.out.trans (BE.out.mono B11.out.size)⟩
  · have hmbI : ¬ ((0 : Int) < (mb : Int)) := by omega
    go_wp2_with fail
    have T1 : Hid (there mb 0 0 = true) := there_yes (by omega)
    have T2 : Hid (there mb 0 (mb : Int) = true) := there_yes (by omega)
    have T3 : Hid (there mb 0 ((mb : Int) + 1) = false) := there_no (by omega)
    refine (implCut gb 0 mb cb r 0 0 w6 EB.out Q6.out.rd mc1 (by omega) (by omega)).mono ?_
    rw [T1.out]
    rintro e w7 ⟨gx, mx, cx, rfl, e7, h7, r7, b7⟩
    have EX : Hid (mx = (cutOf r 0 0).length) := e7
    have X7 : Hid (Row w7 gx cx (cutOf r 0 0)) := r7
    have D7 : Hid (Row w7 gd cd d) := D6.out.later b7
    have C7 : Hid (Row w7 gc cc r) := C6.out.later b7
    have Q7 : Hid (Row w7 gb cb r) := Q6.out.later b7
    have B7 : Hid (Below w.heap.size w w7) := B6.out.trans (b7.mono B6.out.size)
    clear e7 r7 b7 C6 Q6 B6 D6
    go_wp2_with fail
    refine (implCut gb 0 mb cb r 0 (mb : Int) w7 EB.out Q7.out.rd mc1 (by omega) (by omega)).mono ?_
    rw [T2.out]
    rintro e w8 ⟨gy, my, cy, rfl, e8, h8, r8, b8⟩
    have EY : Hid (my = (cutOf r 0 (mb : Int)).length) := e8
    have Y8 : Hid (Row w8 gy cy (cutOf r 0 (mb : Int))) := r8
    have X8 : Hid (Row w8 gx cx (cutOf r 0 0)) := X7.out.later b8
    have D8 : Hid (Row w8 gd cd d) := D7.out.later b8
    have C8 : Hid (Row w8 gc cc r) := C7.out.later b8
    have Q8 : Hid (Row w8 gb cb r) := Q7.out.later b8
    have B8 : Hid (Below w.heap.size w w8) := B7.out.trans (b8.mono B7.out.size)
    clear e8 r8 b8 C7 Q7 B7 D7 X7
    go_wp2_with fail
    refine (implCut gb 0 mb cb r 0 ((mb : Int) + 1) w8 EB.out Q8.out.rd mc1 (by omega) (by omega)).mono ?_
    rw [T3.out]
    rintro e w9 ⟨gz, mz, cz, rfl, e9, h9, r9, b9⟩
    have Y9 : Hid (Row w9 gy cy (cutOf r 0 (mb : Int))) := Y8.out.later b9
    have X9 : Hid (Row w9 gx cx (cutOf r 0 0)) := X8.out.later b9
    have D9 : Hid (Row w9 gd cd d) := D8.out.later b9
    have C9 : Hid (Row w9 gc cc r) := C8.out.later b9
    have Q9 : Hid (Row w9 gb cb r) := Q8.out.later b9
    have B9 : Hid (Below w.heap.size w w9) := B8.out.trans (b9.mono B8.out.size)
    clear e9 r9 b9 C8 Q8 B8 D8 X8 Y8
    have HXY : Hid (cutOf r 0 0 ++ cutOf r 0 (mb : Int) = r) := (by have := cuts_both r mb 0 EB.out (by omega) (by omega); rw [Int.sub_zero] at this; exact this)
    have LX : Hid ((cutOf r 0 0).length ≤ 200) := Nat.le_trans (cutOf_length _ _ _) (by have := EB.out; omega)
    have LY : Hid ((cutOf r 0 (mb : Int)).length ≤ 200) := Nat.le_trans (cutOf_length _ _ _) (by have := EB.out; omega)
    clear T1 T2 T3
    generalize cutOf r 0 0 = xx at *
    generalize cutOf r 0 (mb : Int) = yy at *
    go_wp2_with fail
    refine (same_yes gc cc mc gb cb mb r w9 EC.out EB.out C9.out.rd Q9.out.rd).mono ?_
    rintro e w10 ⟨rfl, rfl⟩
    have HA : Hid (Below w9.heap.size w9 (w9.alloc (.cells #[] 5))) := (Below.refl _ _).alloc (Nat.le_refl _) _
    cases ok
    · go_wp2_with (first | (at_builtin; refine wpList_app_on _ (.tmp 110) (.tmp 111) rfl (by rfl) w9.heap.size w9.heap.size 0 0 [] xx rfl rfl (row_new w9 [] (by simp)) (Nat.le_refl _) ⟨gx, 0, none⟩ mx cx rfl EX.out (X9.out.rd.later HA.out (Nat.le_refl _)) (by have := LX.out; simp; omega) ?_; intro ga ca wa ra ba la gra; have RA : Hid (Row wa ga ca ([] ++ xx)) := ra; have BA : Hid (Below w9.heap.size w9 wa) := HA.out.grown gra HA.out.size (fun k h => by cases h; exact Nat.le_refl _); have YA : Hid (Row wa gy cy yy) := Y9.out.later BA.out; clear ra gra la) | (at_builtin; refine wpList_app_on _ (.tmp 112) (.tmp 113) rfl (by rfl) w9.heap.size ga mx ca ([] ++ xx) yy rfl EX.out RA.out ba ⟨gy, 0, none⟩ my cy rfl EY.out YA.out.rd (by have := LX.out; have := LY.out; simp; omega) ?_; intro ge ce we re be le gre; have RE : Hid (Row we ge ce ([] ++ xx ++ yy)) := re; have BE : Hid (Below w9.heap.size w9 we) := BA.out.grown gre BA.out.size (fun k h => by cases h; exact ba); clear re gre le))
      refine (same_yes ge ce (mx + my) gb cb mb r we (by rw [← HXY.out, List.length_append, ← EX.out, ← EY.out]) EB.out (by have := RE.out.rd; rw [List.nil_append, HXY.out] at this; exact this) (Q9.out.later BE.out).rd).mono ?_
      rintro e w10 ⟨rfl, rfl⟩
      go_wp2
      go_ret
      exact ⟨rfl, B9.out.trans (BE.out.mono B9.out.size)⟩
    · have HDT : Hid (strOfNums (hexOf d) = t) := HT.out rfl
      go_wp2_with fail
      refine (implHexText _ md cd d w9 ED.out D9.out.rd YD.out (by have := LD.out; have := ED.out; omega)).mono ?_
      rw [HDT.out]
      rintro e w11 ⟨rfl, b11⟩
      have Y11 : Hid (Row w11 gy cy yy) := Y9.out.later b11
      have X11 : Hid (Row w11 gx cx xx) := X9.out.later b11
      have Q11 : Hid (Row w11 gb cb r) := Q9.out.later b11
      have B11 : Hid (Below w.heap.size w w11) := B9.out.trans (b11.mono B9.out.size)
      have HE : Hid (Below w11.heap.size w11 (w11.alloc (.cells #[] 5))) := (Below.refl _ _).alloc (Nat.le_refl _) _
      have htt : (t.toList == t.toList) = true := by simp
      clear b11 Y9 X9 Q9 B9 D9 C9 HA
      go_wp2_with (first | (at_builtin; refine wpList_app_on _ (.tmp 110) (.tmp 111) rfl (by rfl) w11.heap.size w11.heap.size 0 0 [] xx rfl rfl (row_new w11 [] (by simp)) (Nat.le_refl _) ⟨gx, 0, none⟩ mx cx rfl EX.out (X11.out.rd.later HE.out (Nat.le_refl _)) (by have := LX.out; simp; omega) ?_; intro ga ca wa ra ba la gra; have RA : Hid (Row wa ga ca ([] ++ xx)) := ra; have BA : Hid (Below w11.heap.size w11 wa) := HE.out.grown gra HE.out.size (fun k h => by cases h; exact Nat.le_refl _); have YA : Hid (Row wa gy cy yy) := Y11.out.later BA.out; clear ra gra la) | (at_builtin; refine wpList_app_on _ (.tmp 112) (.tmp 113) rfl (by rfl) w11.heap.size ga mx ca ([] ++ xx) yy rfl EX.out RA.out ba ⟨gy, 0, none⟩ my cy rfl EY.out YA.out.rd (by have := LX.out; have := LY.out; simp; omega) ?_; intro ge ce we re be le gre; have RE : Hid (Row we ge ce ([] ++ xx ++ yy)) := re; have BE : Hid (Below w11.heap.size w11 we) := BA.out.grown gre BA.out.size (fun k h => by cases h; exact ba); clear re gre le))
      refine (same_yes ge ce (mx + my) gb cb mb r we (by rw [← HXY.out, List.length_append, ← EX.out, ← EY.out]) EB.out (by have := RE.out.rd; rw [List.nil_append, HXY.out] at this; exact this) (Q11.out.later BE.out).rd).mono ?_
      rintro e w10 ⟨rfl, rfl⟩
      go_wp2
      go_ret
      exact ⟨rfl, B11.out.trans (BE.out.mono B11.out.size)⟩

theorem walk (a : Option Addr) (len cap : Nat) (z : List Int) (w : World) (h : IsRow .u8 w a len cap z) :
    Calls Try.prog 5 #[.slice a len cap] w fun e w' => e = .returned (.bool true) ∧ Below w.heap.size w w' := by
  obtain ⟨l, h1, h2, _, h4⟩ := h.read
  by_cases hl : len ≤ 1048576
  · exact small a len cap l w h1 h2 h4 hl
  · clear h h1 h2 h4
    go_enter Try.func5, Try.ntmps5
    go_wp2_with fail
    refine (big_yes a len cap w (by omega)).mono ?_
    rintro e w0 ⟨rfl, rfl⟩
    go_wp2
    go_ret
    exact ⟨rfl, Below.refl _ _⟩
end Go.Proofs.Ytdfjpmldcbbmkaa.LawHex

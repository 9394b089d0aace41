/-
  laws.FnBlocks answers true at every slice of bytes, where the table of round words holds what the program's text lays into it; nothing that was there is written into.
-/
import Derived.Test.YtippfkoondknkaaDoorDrawS
import Derived.Test.YtippfkoondknkaaDoorShaS
import Derived.Test.YtippfkoondknkaaDoorWord
namespace Go.Proofs.YtippfkoondknkaaDoor.LawBlocks
open Go.RowKit Go.Proofs.YtippfkoondknkaaDoor.Mem Go.Proofs.YtippfkoondknkaaDoor.MemI Go.Proofs.YtippfkoondknkaaDoor.Blk Go.Proofs.YtippfkoondknkaaDoor.App Go.Proofs.YtippfkoondknkaaDoor.Get Go.Proofs.YtippfkoondknkaaDoor.ShaP Go.Proofs.YtippfkoondknkaaDoor.Sched Go.Proofs.YtippfkoondknkaaDoor.Sched2 Go.Proofs.YtippfkoondknkaaDoor.SchedS Go.Proofs.YtippfkoondknkaaDoor.Words Go.Proofs.YtippfkoondknkaaDoor.Comp Go.Proofs.YtippfkoondknkaaDoor.CompS Go.Proofs.YtippfkoondknkaaDoor.CompI Go.Proofs.YtippfkoondknkaaDoor.Start Go.Proofs.YtippfkoondknkaaDoor.Pads Go.Proofs.YtippfkoondknkaaDoor.Ends Go.Proofs.YtippfkoondknkaaDoor.ShaS Go.Proofs.YtippfkoondknkaaDoor.Draw Go.Proofs.YtippfkoondknkaaDoor.DrawS

set_option maxHeartbeats 400000 in
theorem sameInts (a b : Option Addr) (na ca nb cb : Nat) (x y : List Int) (w : World) (ha : na = x.length) (hb : nb = y.length) (hx : IRd w a x) (hy : IRd w b y) (_lx : x.length ≤ 4194304) (ly : y.length ≤ 4194304) :
    Calls Tryd.prog 24 #[.slice a na ca, .slice b nb cb] w fun e w' => e = .returned (.bool (decide (x = y))) ∧ ∃ m, w' = w.drewN m := by
  subst ha hb
  by_cases hl : x.length = y.length
  · have hne : ((x.length : Int) != (y.length : Int)) = false := by simp [hl]
    have HL : Hid (x.length = y.length) := hl
    have hl1 : x.length ≤ y.length := by omega
    clear hl
    go_enter Tryd.func24, Tryd.ntmps24
    go_wp2
    go_loopw [5] (fun i wr => ∃ k m : Nat, k ≤ x.length ∧ i = .int .i64 k ∧ x.take k = y.take k ∧ wr = w.drewN m) (fun i _ => x.length - (intOf i).toNat)
    case atStart => exact ⟨0, 0, Nat.zero_le _, rfl, rfl, rfl⟩
    case round =>
      obtain ⟨k, m, hk, rfl, hs, rfl⟩ := hrel
      have HS : Hid (x.take k = y.take k) := hs
      clear hs
      by_cases hlt : k < x.length
      · obtain ⟨b1, o1, rfl, _, c1⟩ := hx k hlt
        obtain ⟨b2, o2, rfl, _, c2⟩ := hy k (by omega)
        have hlt2 : (k : Int) < (y.length : Int) := by omega
        by_cases he : x.getD k 0 = y.getD k 0
        · have HT : Hid (x.take (k + 1) = y.take (k + 1)) := take_eq_succ hlt (by omega) HS.out he
          rw [he] at c1
          clear hx hy he
          generalize y.getD k 0 = z at *
          go_wp2
          go_quiet (fail)
          go_wp2
          go_roundw
          case rel => exact ⟨k + 1, _, by omega, by go_num, HT.out, rfl⟩
          case measure => simp [intOf]; omega
        · have HD : Hid (decide (x = y) = false) := dec_ne he
          clear hx hy
          generalize x.getD k 0 = z1 at *
          generalize y.getD k 0 = z2 at *
          have hbe : (z1 != z2) = true := by simpa using he
          clear he
          go_wp2
          go_quiet (fail)
          go_wp2
          go_ret
          exact ⟨by rw [HD.out]; rfl, _, World.drewN_drewN _ _ _⟩
      · have HD : Hid (decide (x = y) = true) := dec_eq hlt HL.out HS.out
        clear hx hy
        go_wp2
        go_ret
        exact ⟨by rw [HD.out]; rfl, _, rfl⟩
  · have hne : ((x.length : Int) != (y.length : Int)) = true := by simp; omega
    have HD : Hid (decide (x = y) = false) := by
      show decide (x = y) = false
      simp only [decide_eq_false_iff_not]; rintro rfl; exact hl rfl
    clear hl
    go_enter Tryd.func24, Tryd.ntmps24
    go_wp2
    go_ret
    exact ⟨by rw [HD.out]; rfl, 0, rfl⟩


theorem convRow {w : World} {g n c : Nat} {x : List Int} (hn : n = x.length) (h : Rd w (some ⟨g, 0, none⟩) x) :
    (convert 22 9 (.slice (some ⟨g, 0, none⟩) n c)).run Tryd.prog w = .ok (.string (strOfNums x)) w :=
  run_convert_bytes_arg (P := Tryd.prog) w 22 5 Tryd.underlying22 Tryd.underlying5 g 0 n c x hn.symm (fun i hi => by
    obtain ⟨b, off, e, _, hc⟩ := h i (by omega)
    simp only [Option.some.injEq, Addr.mk.injEq, and_true] at e
    obtain ⟨rfl, rfl⟩ := e
    exact hc) 9 Tryd.underlying9
theorem same_yes (g c n g2 c2 n2 : Nat) (x : List Int) (w : World) (hn : n = x.length) (hn2 : n2 = x.length) (h1 : Rd w (some ⟨g, 0, none⟩) x) (h2 : Rd w (some ⟨g2, 0, none⟩) x) :
    Calls Tryd.prog 16 #[.slice (some ⟨g, 0, none⟩) n c, .slice (some ⟨g2, 0, none⟩) n2 c2] w fun e w' => e = .returned (.bool true) ∧ w = w' := by
  have cv1 := convRow (c := c) hn h1
  have cv2 := convRow (c := c2) hn2 h2
  clear h1 h2 hn hn2
  generalize strOfNums x = s at *
  go_enter Tryd.func16, Tryd.ntmps16
  go_wp2
  go_ret
  exact ⟨by simp, rfl⟩

set_option maxHeartbeats 800000 in
theorem drawCompress (a : Option Addr) (len cap : Nat) (l : List Int) (w : World) (hl : len = l.length) (hr : Rd w a l) (hb : Bytes l) (hlen : len ≤ 1048576) :
    Calls Tryd.prog 22 #[.slice a len cap] w fun e w' =>
      ∃ (gh mh ch : Nat) (h : List Int) (g m c : Nat) (r : List Int), e = .returned (.tuple #[.slice (some ⟨gh, 0, none⟩) mh ch, .slice (some ⟨g, 0, none⟩) m c]) ∧ mh = h.length ∧ mh ≤ 8 ∧ m = r.length ∧ m ≤ 1000 ∧ Bytes r ∧ IRow w' gh ch h ∧ Row w' g c r ∧ Below w.heap.size w w' := by
  have HR : Hid (Rd w a l) := hr
  have HB : Hid (Bytes l) := hb
  have HL : Hid (len = l.length) := hl
  clear hr hb hl
  go_enter Tryd.func22, Tryd.ntmps22
  go_wp2_with fail
  refine (newCur a len cap l w HL.out HR.out HB.out hlen).mono ?_
  rintro e w1 ⟨p, rfl, r1⟩
  have R1 : Hid (Ready w a len cap l p w1) := r1
  clear r1 HR HB HL
  go_wp2_with fail
  refine (l2H R1.out).mono ?_
  rintro e w2 ⟨gh, mh, ch, h, rfl, eh, lh, kh, rh, r2, _⟩
  have EH : Hid (mh = h.length) := eh
  have RH : Hid (IRow w2 gh ch h) := rh
  have R2 : Hid (Ready w a len cap l p w2) := r2
  have HNE : Hid (gh ≠ p) := Nat.ne_of_gt (Nat.lt_of_lt_of_le R1.out.hc.lt kh)
  clear eh rh r2 kh
  go_wp2_with fail
  refine (intOfList (R2.out.alloc _) w2.heap.size 6 [64, 64, 64, 64, 63, 65] rfl (ints_new w2 _) (by have := R2.out.hc.lt; omega) (by omega) (by omega)).mono ?_
  rintro e w3 ⟨x, rfl, hx, r3, t3⟩
  have hx : 0 ≤ x ∧ x ≤ 1000 := by simp at hx; omega
  obtain ⟨X, rfl⟩ := Int.eq_ofNat_of_zero_le hx.1
  have hX : X ≤ 1000 := by omega
  have R3 : Hid (Ready w a len cap l p w3) := r3
  have RH3 : Hid (IRow w3 gh ch h) := irow_but (irow_alloc RH.out _) t3 HNE.out
  clear r3 t3 hx
  go_wp2_with fail
  refine (bytesOf R3.out X hX).mono ?_
  rintro e w4 ⟨g, c, r, rfl, hr1, hr2, hg, row, rdy, t4⟩
  have RH4 : Hid (IRow w4 gh ch h) := irow_but RH3.out t4 HNE.out
  have B4 : Hid (Below w.heap.size w w4) := rdy.hB
  have HE : Hid (X = r.length) := hr1
  have HY : Hid (Bytes r) := hr2
  have HRow : Hid (Row w4 g c r) := row
  clear rdy hg hr1 hr2 row t4
  go_wp2
  go_ret2
  exact ⟨gh, mh, ch, h, g, X, c, r, rfl, EH.out, lh, HE.out, hX, HY.out, RH4.out, HRow.out, B4.out⟩

theorem two_blocks (b : List Int) (hb : b.length = 64) : shaI b = outB (comp (comp start8 b) (padOf 64)) := by
  have hp : (padOf 64).length = 64 := by rw [padOf_length]
  unfold shaI
  rw [if_pos (by omega)]
  unfold shaOf endOf
  rw [hb, List.length_append, hb, hp]
  have e1 : piece (b ++ padOf 64) (64 * 0) 64 = b := by
    rw [piece_left _ _ _ _ (by omega)]
    unfold piece
    rw [Nat.mul_zero, List.drop_zero, List.take_of_length_le (by omega)]
  have e2 : piece (b ++ padOf 64) (64 * 1) 64 = padOf 64 := by
    unfold piece
    rw [List.drop_append, show 64 * 1 - b.length = 0 by omega, List.drop_of_length_le (by omega), List.nil_append, List.drop_zero, List.take_of_length_le (by omega)]
  show outB (comp (comp start8 (piece (b ++ padOf 64) (64 * 0) 64)) (piece (b ++ padOf 64) (64 * 1) 64)) = _
  rw [e1, e2]

set_option maxHeartbeats 3000000 in
theorem small (a : Option Addr) (len cap : Nat) (l : List Int) (w : World) (hT : Tab w) (hl : len = l.length) (hr : Rd w a l) (hb : Bytes l) (hlen : len ≤ 1048576) :
    Calls Tryd.prog 4 #[.slice a len cap] w fun e w' => e = .returned (.bool true) ∧ Below w.heap.size w w' := by
  have HR : Hid (Rd w a l) := hr
  have HY : Hid (Bytes l) := hb
  have HL : Hid (len = l.length) := hl
  have HT : Hid (Tab w) := hT
  clear hr hb hl hT
  go_enter Tryd.func4, Tryd.ntmps4
  go_wp2_with fail
  refine (bigNo a len cap w hlen).mono ?_
  rintro e w0 ⟨rfl, rfl⟩
  go_wp2_with fail
  refine (drawSchedule a len cap l w HL.out HR.out HY.out hlen).mono ?_
  rintro e w1 ⟨gb, mb, cb, b, rfl, e1, lb, y1, k1, r1, b1⟩
  have E1 : Hid (mb = b.length) := e1
  have Y1 : Hid (Bytes b) := y1
  have R1 : Hid (Row w1 gb cb b) := r1
  have B1 : Hid (Below w.heap.size w w1) := b1
  have HC1 : Hid (mb ≤ cb) := by show _ ≤ _; rw [e1]; exact r1.1
  clear e1 y1 k1 r1 b1
  go_wp2_with fail
  refine (implSchedule _ mb cb b w1 E1.out R1.out.rd Y1.out HC1.out (by omega)).mono ?_
  rintro e w2 ⟨gw, mw, cw, rfl, e2, k2, r2, b2⟩
  have E2 : Hid (mw = (schedI b).length) := e2
  have R2 : Hid (IRow w2 gw cw (schedI b)) := r2
  have R12 : Hid (Row w2 gb cb b) := R1.out.later b2
  have B2 : Hid (Below w.heap.size w w2) := B1.out.trans (b2.mono B1.out.size)
  clear e2 k2 r2 b2 R1 B1
  go_wp2_with fail
  refine (drawCompress a len cap l w2 HL.out (HR.out.later B2.out (Nat.le_refl _)) HY.out hlen).mono ?_
  rintro e w3 ⟨gh, mh, ch, h, gc, mc, cc, c, rfl, eh, lh, ec, lc, yc, rh, rc, b3⟩
  have EH : Hid (mh = h.length) := eh
  have EC : Hid (mc = c.length) := ec
  have YC : Hid (Bytes c) := yc
  have RH3 : Hid (IRow w3 gh ch h) := rh
  have RC3 : Hid (Row w3 gc cc c) := rc
  have RB3 : Hid (Row w3 gb cb b) := R12.out.later b3
  have RW3 : Hid (IRow w3 gw cw (schedI b)) := R2.out.later b3
  have B3 : Hid (Below w.heap.size w w3) := B2.out.trans (b3.mono B2.out.size)
  have HCC : Hid (mc ≤ cc) := by show _ ≤ _; rw [ec]; exact rc.1
  clear eh ec yc rh rc b3 R12 R2 B2
  go_wp2_with fail
  refine (implCompress _ mh ch h _ mc cc c w3 (HT.out.later B3.out) EH.out RH3.out.rd (by intro e; cases e) (by omega) EC.out RC3.out.rd YC.out (by omega) HCC.out).mono ?_
  rintro e w4 ⟨gx, mx, cx, rfl, ex, kx, rx, b4⟩
  have HCL : Hid ((compI h c).length = h.length) := compI_length h c
  have EX : Hid (mx = (compI h c).length) := ex
  have RX4 : Hid (IRow w4 gx cx (compI h c)) := rx
  have RH4 : Hid (IRow w4 gh ch h) := RH3.out.later b4
  have RC4 : Hid (Row w4 gc cc c) := RC3.out.later b4
  have RB4 : Hid (Row w4 gb cb b) := RB3.out.later b4
  have RW4 : Hid (IRow w4 gw cw (schedI b)) := RW3.out.later b4
  have B4 : Hid (Below w.heap.size w w4) := B3.out.trans (b4.mono B3.out.size)
  clear ex kx rx b4 RH3 RC3 RB3 RW3 B3
  go_wp2_with fail
  refine (specSchedule _ mb cb b w4 E1.out RB4.out.rd Y1.out (by omega)).mono ?_
  rintro e w5 ⟨gs, ms, csd, rfl, es, ks, rs, b5⟩
  have HSL : Hid ((schedI b).length ≤ 64) := schedI_length b
  have ES : Hid (ms = (schedI b).length) := es
  have RS5 : Hid (IRow w5 gs csd (schedI b)) := rs
  have RX5 : Hid (IRow w5 gx cx (compI h c)) := RX4.out.later b5
  have RH5 : Hid (IRow w5 gh ch h) := RH4.out.later b5
  have RC5 : Hid (Row w5 gc cc c) := RC4.out.later b5
  have RB5 : Hid (Row w5 gb cb b) := RB4.out.later b5
  have RW5 : Hid (IRow w5 gw cw (schedI b)) := RW4.out.later b5
  have B5 : Hid (Below w.heap.size w w5) := B4.out.trans (b5.mono B4.out.size)
  clear es ks rs b5 RX4 RH4 RC4 RB4 RW4 B4
  go_wp2_with fail
  refine (sameInts _ _ mw cw ms csd (schedI b) (schedI b) w5 E2.out ES.out RW5.out.rd RS5.out.rd (by have := HSL.out; omega) (by have := HSL.out; omega)).mono ?_
  rintro e _ ⟨rfl, q5, rfl⟩
  have hdec : decide (schedI b = schedI b) = true := by simp
  have RX5' : Hid (IRow (w5.drewN q5) gx cx (compI h c)) := RX5.out
  have RH5' : Hid (IRow (w5.drewN q5) gh ch h) := RH5.out
  have RC5' : Hid (Row (w5.drewN q5) gc cc c) := RC5.out
  have RB5' : Hid (Row (w5.drewN q5) gb cb b) := RB5.out
  have RW5' : Hid (IRow (w5.drewN q5) gw cw (schedI b)) := RW5.out
  have B5' : Hid (Below w.heap.size w (w5.drewN q5)) := below_drewN B5.out q5
  clear RS5 RX5 RH5 RC5 RB5 RW5 B5
  generalize w5.drewN q5 = v5 at *
  go_wp2_with fail
  refine (specCompress _ mh ch h _ mc cc c v5 EH.out RH5'.out.rd (by intro e; cases e) (by omega) EC.out RC5'.out.rd YC.out (by omega)).mono ?_
  rintro e w6 ⟨gy, my, cy, rfl, ey, ky, ry, b6⟩
  have EY : Hid (my = (compI h c).length) := ey
  have RY6 : Hid (IRow w6 gy cy (compI h c)) := ry
  have RX6 : Hid (IRow w6 gx cx (compI h c)) := RX5'.out.later b6
  have RB6 : Hid (Row w6 gb cb b) := RB5'.out.later b6
  have RW6 : Hid (IRow w6 gw cw (schedI b)) := RW5'.out.later b6
  have B6 : Hid (Below w.heap.size w w6) := B5'.out.trans (b6.mono B5'.out.size)
  have hlx : (compI h c).length ≤ 8 := by rw [HCL.out, ← EH.out]; exact lh
  have HLX : Hid ((compI h c).length ≤ 8) := hlx
  clear ey ky ry b6 RX5' RH5' RC5' RB5' RW5' B5' hlx
  go_wp2_with fail
  refine (sameInts _ _ mx cx my cy (compI h c) (compI h c) w6 EX.out EY.out RX6.out.rd RY6.out.rd (by have := HLX.out; omega) (by have := HLX.out; omega)).mono ?_
  rintro e _ ⟨rfl, q6, rfl⟩
  have hdec2 : decide (compI h c = compI h c) = true := by simp
  have RB7 : Hid (Row (w6.drewN q6) gb cb b) := RB6.out
  have RW7 : Hid (IRow (w6.drewN q6) gw cw (schedI b)) := RW6.out
  have B7 : Hid (Below w.heap.size w (w6.drewN q6)) := below_drewN B6.out q6
  clear RY6 RX6 RB6 RW6 B6
  generalize w6.drewN q6 = v6 at *
  by_cases h64 : mb = 64
  · subst h64
    have HB64 : Hid (b.length = 64) := E1.out.symm
    have HSI : Hid (schedI b = sched b) := by show _ = _; unfold schedI; rw [if_pos HB64.out]
    have HMW : mw = 64 := by rw [E2.out, HSI.out, sched_length]
    subst HMW
    have HCW : Hid (∀ i, i < 16 → v6.cell? ⟨gw, i, none⟩ = some (.int .i64 (val (piece b (4 * i) 4)))) := by
      intro i hi
      have := RW7.out.cell i (by rw [HSI.out, sched_length]; omega)
      rw [HSI.out, sched_first b i hi] at this
      exact this
    go_wp2
    go_loop [8] (fun i => ∃ k : Nat, k ≤ 16 ∧ i = .int .i64 k) (fun i => 16 - (intOf i).toNat)
    case atStart => exact ⟨0, Nat.zero_le _, rfl⟩
    case round =>
      obtain ⟨k, hk, rfl⟩ := hrel
      by_cases hlt : k < 16
      · have hG : gotN b (4 * (k : Int)) 4 = .tuple #[.int .i64 (val (piece b (4 * k) 4)), .int .i64 (4 * (k : Int) + 4), .bool true] := by
          unfold gotN
          rw [if_pos ⟨(isSize_iff 4).2 (by omega), there_yes (by rw [HB64.out]; omega)⟩]
          rw [show (4 * (k : Int)).toNat = 4 * k by omega]; rfl
        have hc := HCW.out k hlt
        generalize val (piece b (4 * k) 4) = z at *
        have hzz : (z != z) = false := by simp
        go_wp2_with fail
        refine (implGetN _ 64 cb b (4 * (k : Int)) 4 v6 HB64.out.symm RB7.out.rd Y1.out HC1.out (by omega) (by omega)).mono ?_
        rintro e w1 ⟨rfl, rfl⟩
        rw [hG]
        have hk64 : (k : Int) < 64 := by omega
        go_wp2
        go_round
        case rel => exact ⟨k + 1, by omega, by go_num⟩
        case measure => simp [intOf]; omega
      · go_wp2_with fail
        refine (implStart v6).mono ?_
        rintro e w8 ⟨gt, ct, rfl, kt, rt, b8⟩
        have RT8 : Hid (IRow w8 gt ct start8) := rt
        have RB8 : Hid (Row w8 gb cb b) := RB7.out.later b8
        have B8 : Hid (Below w.heap.size w w8) := B7.out.trans (b8.mono B7.out.size)
        clear kt rt b8
        obtain ⟨y1, hy1⟩ : ∃ y1, compI start8 b = y1 := ⟨_, rfl⟩
        have HY1 : Hid (comp start8 b = y1) := by rw [← hy1]; exact (compI_ok start8 b rfl start8_wds HB64.out).symm
        have HY1l : Hid (y1.length = 8) := by rw [← HY1.out]; exact comp_length _ _
        have HY1w : Hid (Wds y1) := by rw [← HY1.out]; exact comp_wds _ _
        have HC8 : Hid (compI start8 b = y1) := hy1
        clear hy1
        obtain ⟨pd, hpd⟩ : ∃ pd, padI 64 = pd := ⟨_, rfl⟩
        have HPD : Hid (padI 64 = pd) := hpd
        have HP64 : Hid (padOf 64 = pd) := by rw [← hpd]; exact (padI_nat 64 (by omega)).symm
        have HPL : Hid (pd.length = 64) := by rw [← HP64.out]; show _ = _; rw [padOf_length]
        have HPB : Hid (Bytes pd) := by rw [← hpd]; exact padI_bytes 64
        clear hpd
        obtain ⟨y2, hy2⟩ : ∃ y2, compI y1 pd = y2 := ⟨_, rfl⟩
        have HC10 : Hid (compI y1 pd = y2) := hy2
        have HY2 : Hid (comp y1 pd = y2) := by rw [← hy2]; exact (compI_ok y1 pd HY1l.out HY1w.out HPL.out).symm
        clear hy2
        go_wp2_with fail
        refine (implCompress _ 8 ct start8 _ 64 cb b w8 (HT.out.later B8.out) rfl RT8.out.rd (by intro e; cases e) (by omega) HB64.out.symm RB8.out.rd Y1.out (by omega) HC1.out).mono ?_
        rw [HC8.out]
        rintro e w9 ⟨g9, m9, c9, rfl, e9, k9, r9, b9⟩
        obtain rfl : m9 = 8 := by rw [e9, HY1l.out]
        have E9 : Hid (8 = y1.length) := e9
        have R9 : Hid (IRow w9 g9 c9 y1) := r9
        have RB9 : Hid (Row w9 gb cb b) := RB8.out.later b9
        have B9 : Hid (Below w.heap.size w w9) := B8.out.trans (b9.mono B8.out.size)
        clear e9 k9 r9 b9
        go_wp2_with fail
        refine (implPad 64 w9).mono ?_
        rw [HPD.out]
        rintro e w10 ⟨gp, mp, cp, rfl, ep, kp, rp, b10⟩
        obtain rfl : mp = 64 := by rw [ep, HPL.out]
        have EP : Hid (64 = pd.length) := ep
        have RP : Hid (Row w10 gp cp pd) := rp
        have R10 : Hid (IRow w10 g9 c9 y1) := R9.out.later b10
        have RB10 : Hid (Row w10 gb cb b) := RB9.out.later b10
        have B10 : Hid (Below w.heap.size w w10) := B9.out.trans (b10.mono B9.out.size)
        have HCP : Hid (64 ≤ cp) := by show _ ≤ _; rw [ep]; exact rp.1
        clear ep kp rp b10
        go_wp2_with fail
        refine (implCompress _ 8 c9 y1 _ 64 cp pd w10 (HT.out.later B10.out) E9.out R10.out.rd (by intro e; cases e) (by omega) EP.out RP.out.rd HPB.out (by omega) HCP.out).mono ?_
        rw [HC10.out]
        rintro e w11 ⟨g11, m11, c11, rfl, e11, k11, r11, b11⟩
        obtain ⟨y, hy⟩ : ∃ y, y2 = y := ⟨_, rfl⟩
        subst hy
        have HYC : Hid (comp (comp start8 b) (padOf 64) = y2) := by show _ = _; rw [HY1.out, HP64.out, HY2.out]
        have hy8 : y2.length = 8 := by rw [← HY2.out]; exact comp_length _ _
        have HY8 : Hid (y2.length = 8) := hy8
        obtain rfl : m11 = 8 := by rw [e11, hy8]
        have R11 : Hid (IRow w11 g11 c11 y2) := r11
        have RB11 : Hid (Row w11 gb cb b) := RB10.out.later b11
        have B11 : Hid (Below w.heap.size w w11) := B10.out.trans (b11.mono B10.out.size)
        have A11 : Hid (Below w.heap.size w (w11.alloc (.cells #[] 5))) := B11.out.alloc B11.out.size _
        have RO11 : Hid (Row (w11.alloc (.cells #[] 5)) w11.heap.size 0 (outB (y2.take 0))) := row_new w11 [] (by simp)
        have R11a : Hid (IRow (w11.alloc (.cells #[] 5)) g11 c11 y2) := irow_alloc R11.out _
        have RB11a : Hid (Row (w11.alloc (.cells #[] 5)) gb cb b) := row_alloc RB11.out _
        clear e11 k11 r11 b11 hy8
        go_wp2
        go_loopw [13, 14] (fun v i wr => ∃ k gg cc : Nat, k ≤ 8 ∧ i = .int .i64 k ∧ v = .slice (some ⟨gg, 0, none⟩) (4 * k) cc ∧ Row wr gg cc (outB (y2.take k)) ∧ IRow wr g11 c11 y2 ∧ Row wr gb cb b ∧ Below w.heap.size w wr)
          (fun _ i _ => 8 - (intOf i).toNat)
        case atStart => exact ⟨0, w11.heap.size, 0, Nat.zero_le _, rfl, rfl, RO11.out, R11a.out, RB11a.out, A11.out⟩
        case round =>
          obtain ⟨k, gg, cc', hk8, rfl, rfl, hRow, hY, hBb, hbe⟩ := hrel
          have HRow : Hid (Row wr gg cc' (outB (y2.take k))) := hRow
          have HYr : Hid (IRow wr g11 c11 y2) := hY
          have HBr : Hid (Row wr gb cb b) := hBb
          have HBe : Hid (Below w.heap.size w wr) := hbe
          clear RO11 R11a RB11a A11 hRow hY hBb hbe
          by_cases hlt8 : k < 8
          · have hc := HYr.out.cell k (by rw [HY8.out]; exact hlt8)
            have HT1 : Hid (outB (y2.take (k + 1)) = outB (y2.take k) ++ putN (y2.getD k 0) 4) := by
              show _ = _
              rw [List.take_succ_eq_append_getElem (by rw [HY8.out]; exact hlt8), outB_snoc, putN4]
              simp [List.getD, HY8.out, hlt8]
            have HOL : Hid (4 * k = (outB (y2.take k)).length) := by show _ = _; rw [outB_length, List.length_take, HY8.out]; omega
            generalize y2.getD k 0 = z at *
            go_wp2_with fail
            refine (implPutN _ (4 * k) cc' _ z 4 wr HOL.out HRow.out.rd (by intro e; cases e) (by rw [← HOL.out]; omega)).mono ?_
            rintro e w2' ⟨g2, m2, c2, rfl, e2, k2, r2, b2⟩
            have HM : Hid (m2 = 4 * (k + 1)) := by show _ = _; rw [e2, List.length_append, ← HOL.out, putN4, num_length]; omega
            have R2' : Hid (Row w2' g2 c2 (outB (y2.take k) ++ putN z 4)) := r2
            have Y2' : Hid (IRow w2' g11 c11 y2) := HYr.out.later b2
            have B2' : Hid (Row w2' gb cb b) := HBr.out.later b2
            have BB2 : Hid (Below w.heap.size w w2') := HBe.out.trans (b2.mono HBe.out.size)
            clear e2 k2 r2 b2
            go_wp2
            go_roundw
            case rel => exact ⟨k + 1, g2, c2, by omega, by go_num, by rw [HM.out], by rw [HT1.out]; exact R2'.out, Y2'.out, B2'.out, BB2.out⟩
            case measure => simp [intOf]; omega
          · obtain rfl : k = 8 := by omega
            have HO8 : Hid (shaI b = outB (y2.take 8)) := by
              show _ = _
              rw [two_blocks b HB64.out, HYC.out, List.take_of_length_le (by rw [HY8.out]; exact Nat.le_refl _)]
            have HOL : Hid (4 * 8 = (outB (y2.take 8)).length) := by show _ = _; rw [outB_length, List.length_take, HY8.out]; rfl
            go_wp2_with fail
            refine (implSha _ 64 cb b wr (HT.out.later HBe.out) HB64.out.symm HBr.out.rd (by intro e; cases e) Y1.out (by omega)).mono ?_
            rw [HO8.out]
            rintro e w12 ⟨g12, m12, c12, rfl, e12, k12, r12, b12⟩
            have E12 : Hid (m12 = (outB (y2.take 8)).length) := e12
            have R12' : Hid (Row w12 g12 c12 (outB (y2.take 8))) := r12
            have RO12 : Hid (Row w12 gg cc' (outB (y2.take 8))) := HRow.out.later b12
            have B12 : Hid (Below w.heap.size w w12) := HBe.out.trans (b12.mono HBe.out.size)
            clear e12 k12 r12 b12
            go_wp2_with fail
            refine (same_yes gg cc' _ g12 c12 m12 (outB (y2.take 8)) w12 HOL.out E12.out RO12.out.rd R12'.out.rd).mono ?_
            rintro e w13 ⟨rfl, rfl⟩
            go_wp2
            go_ret
            exact ⟨rfl, B12.out⟩
  · have HSI : Hid (schedI b = []) := by show _ = _; unfold schedI; rw [if_neg (by rw [← E1.out]; exact h64)]
    have HMW : mw = 0 := by rw [E2.out, HSI.out]; rfl
    subst HMW
    have hne : ((mb : Int) != 64) = true := by simp; omega
    clear h64
    go_wp2
    go_ret
    exact ⟨by simp, B7.out⟩

theorem walk (a : Option Addr) (len cap : Nat) (z : List Int) (w : World) (hT : Tab w) (h : IsRow .u8 w a len cap z) :
    Calls Tryd.prog 4 #[.slice a len cap] w fun e w' => e = .returned (.bool true) ∧ Below w.heap.size w w' := by
  obtain ⟨l, h1, h2, _, h4⟩ := h.read
  by_cases hl : len ≤ 1048576
  · exact small a len cap l w hT h1 h2 h4 hl
  · clear h h1 h2 h4 hT
    go_enter Tryd.func4, Tryd.ntmps4
    go_wp2_with fail
    refine (bigYes a len cap w (by omega)).mono ?_
    rintro e w0 ⟨rfl, rfl⟩
    go_wp2
    go_ret
    exact ⟨rfl, Below.refl _ _⟩
end Go.Proofs.YtippfkoondknkaaDoor.LawBlocks

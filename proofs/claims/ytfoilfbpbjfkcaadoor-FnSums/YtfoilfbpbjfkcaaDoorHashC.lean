/-
  What impl's copyHash and HashAdd answer at every hash and every slice of bytes whose lists are of at most 1,048,576, where the table of round words holds what the program's text lays into it.
-/
import Derived.Test.YtfoilfbpbjfkcaaDoorHashD
namespace Go.Proofs.YtfoilfbpbjfkcaaDoor.HashC
open Go.RowKit Go.Proofs.YtfoilfbpbjfkcaaDoor.Mem Go.Proofs.YtfoilfbpbjfkcaaDoor.MemI Go.Proofs.YtfoilfbpbjfkcaaDoor.Blk Go.Proofs.YtfoilfbpbjfkcaaDoor.App Go.Proofs.YtfoilfbpbjfkcaaDoor.Get Go.Proofs.YtfoilfbpbjfkcaaDoor.ShaP Go.Proofs.YtfoilfbpbjfkcaaDoor.Sched Go.Proofs.YtfoilfbpbjfkcaaDoor.SchedS Go.Proofs.YtfoilfbpbjfkcaaDoor.Words Go.Proofs.YtfoilfbpbjfkcaaDoor.WordsOf Go.Proofs.YtfoilfbpbjfkcaaDoor.Start Go.Proofs.YtfoilfbpbjfkcaaDoor.Comp Go.Proofs.YtfoilfbpbjfkcaaDoor.Hashs Go.Proofs.YtfoilfbpbjfkcaaDoor.HashH Go.Proofs.YtfoilfbpbjfkcaaDoor.HashO Go.Proofs.YtfoilfbpbjfkcaaDoor.HashS Go.Proofs.YtfoilfbpbjfkcaaDoor.HashE Go.Proofs.YtfoilfbpbjfkcaaDoor.HashD Go.Proofs.YtfoilfbpbjfkcaaDoor.Pads Go.Proofs.YtfoilfbpbjfkcaaDoor.Adds Go.Proofs.YtfoilfbpbjfkcaaDoor.Ends

set_option maxRecDepth 100000 in
set_option maxHeartbeats 2000000 in
theorem copyHash (a0 : Addr) (n0 c0 : Nat) (a1 : Option Addr) (n1 c1 : Nat) (N : Int) (h held : List Int) (w : World) (e0 : n0 = h.length) (e1 : n1 = held.length) (r0 : IRd w (some a0) h) (r1 : Rd w a1 held) (na : a1 = none → c1 = 0) (l0 : n0 ≤ 1048576) (l1 : n1 ≤ 1048576) :
    Calls Tryd.prog 49 #[hashV (some a0) n0 c0 a1 n1 c1 N] w (NewHash w h held N) := by
  have E0 : Hid (n0 = h.length) := e0
  have E1 : Hid (n1 = held.length) := e1
  have R0 : Hid (IRd w (some a0) h) := r0
  have R1 : Hid (Rd w a1 held) := r1
  obtain ⟨w0, hw0⟩ : ∃ w0, (w.alloc (.cells #[.slice (some a0) n0 c0, .slice a1 n1 c1, .int .i64 N] 27)).alloc (.cells #[.slice none 0 0, .slice none 0 0, .int .i64 0] 27) = w0 := ⟨_, rfl⟩
  have HW0 : Hid ((w.alloc (.cells #[.slice (some a0) n0 c0, .slice a1 n1 c1, .int .i64 N] 27)).alloc (.cells #[.slice none 0 0, .slice none 0 0, .int .i64 0] 27) = w0) := hw0
  have HSZ : Hid (w0.heap.size = w.heap.size + 1 + 1) := by rw [← hw0]; show _ = _; simp
  have B0 : Hid (Below w.heap.size w w0) := by rw [← hw0]; exact ((Below.refl _ _).alloc (Nat.le_refl _) _).alloc (by simp) _
  have K0 : Hid (Blk w0 w.heap.size 27 [.slice (some a0) n0 c0, .slice a1 n1 c1, .int .i64 N]) := by rw [← hw0]; exact (Blk.new w 27 [.slice (some a0) n0 c0, .slice a1 n1 c1, .int .i64 N]).alloc _
  have K1 : Hid (Blk w0 (w.heap.size + 1) 27 [.slice none 0 0, .slice none 0 0, .int .i64 0]) := by
    rw [← hw0]
    have := Blk.new (w.alloc (.cells #[.slice (some a0) n0 c0, .slice a1 n1 c1, .int .i64 N] 27)) 27 [.slice none 0 0, .slice none 0 0, .int .i64 0]
    rw [alloc_size] at this
    exact this
  have s0 := K0.out.cell 0 rfl
  have s1 := K0.out.cell 1 rfl
  have s2 := K0.out.cell 2 rfl
  have HNI : Hid (IRow (w0.drew.alloc (.cells #[] 3)) w0.heap.size 0 []) := (irow_new w0 [] (by simp)).keep rfl
  have BA : Hid (Below w.heap.size w (w0.drew.alloc (.cells #[] 3))) := B0.out.drew.alloc B0.out.size _
  have KA0 : Hid (Blk (w0.drew.alloc (.cells #[] 3)) w.heap.size 27 [.slice (some a0) n0 c0, .slice a1 n1 c1, .int .i64 N]) := Blk.alloc (w := w0.drew) K0.out _
  have KA1 : Hid (Blk (w0.drew.alloc (.cells #[] 3)) (w.heap.size + 1) 27 [.slice none 0 0, .slice none 0 0, .int .i64 0]) := Blk.alloc (w := w0.drew) K1.out _
  clear e0 e1 r0 r1 hw0
  unfold hashV
  go_enter Tryd.func49, Tryd.ntmps49
  go_wp2
  rw [HW0.out]
  go_region_held3 (fun w' => w'.cell? ⟨w.heap.size, 0, none⟩ = some (.slice (some a0) n0 c0) ∧ w'.cell? ⟨w.heap.size, 1, none⟩ = some (.slice a1 n1 c1) ∧ w'.cell? ⟨w.heap.size, 2, none⟩ = some (.int .i64 N)) (first | exact ⟨s6, s7, s8⟩ | exact ⟨s3, s4, s5⟩ | exact ⟨s0, s1, s2⟩ | go_keep)
    (first
      | (refine istep_app rfl (.tmp 3) (.tmp 5) rfl w0.heap.size w0.heap.size 0 0 [] h (by simp [Act.eval]) rfl HNI.out (Nat.le_refl _) a0 n0 c0 (by simp [Act.eval]) E0.out (R0.out.later BA.out (Nat.le_refl _)) (by rw [← E0.out]; simp; omega) ?_; intro g2 c2 w2 r2 k2 l2 gr2; have RH : Hid (IRow w2 g2 c2 h) := (List.nil_append h) ▸ r2; have KH : Hid (w0.heap.size ≤ g2) := k2; have B2 : Hid (Below w.heap.size w w2) := BA.out.grown gr2 BA.out.size (fun k h => by cases h; exact B0.out.size); have K02 : Hid (Blk w2 w.heap.size 27 [.slice (some a0) n0 c0, .slice a1 n1 c1, .int .i64 N]) := KA0.out.keep (gr2.block _ KA0.out.lt (by simp only [ne_eq, Option.some.injEq]; exact Nat.ne_of_lt K0.out.lt)); have K12 : Hid (Blk w2 (w.heap.size + 1) 27 [.slice none 0 0, .slice none 0 0, .int .i64 0]) := KA1.out.keep (gr2.block _ KA1.out.lt (by simp only [ne_eq, Option.some.injEq]; exact Nat.ne_of_lt K1.out.lt)); have s3 := K02.out.cell 0 rfl; have s4 := K02.out.cell 1 rfl; have s5 := K02.out.cell 2 rfl; clear r2 k2 l2 gr2)
      | (go_at_call 62; refine (putBytes a1 none n1 c1 0 0 held [] w2 E1.out rfl (R1.out.later B2.out (Nat.le_refl _)) (by intro i hi; cases hi) na (fun _ => rfl) (by rw [← E1.out]; omega) (by simp)).mono ?_; rintro e w3 ⟨rfl, r3, b3⟩; have RB : Hid (Row w3 w2.heap.size (n1 + 0) (held ++ [])) := r3; have RH3 : Hid (IRow w3 g2 c2 h) := RH.out.later b3; have HLT : Hid (g2 < w2.heap.size) := RH.out.lt; have B3 : Hid (Below w.heap.size w w3) := B2.out.trans (b3.mono B2.out.size); have K03 : Hid (Blk w3 w.heap.size 27 [.slice (some a0) n0 c0, .slice a1 n1 c1, .int .i64 N]) := K02.out.later b3; have K13 : Hid (Blk w3 (w.heap.size + 1) 27 [.slice none 0 0, .slice none 0 0, .int .i64 0]) := K12.out.later b3; have s6 := K03.out.cell 0 rfl; have s7 := K03.out.cell 1 rfl; have s8 := K03.out.cell 2 rfl; have y0 := K13.out.cell 0 rfl; have y1 := K13.out.cell 1 rfl; have y2 := K13.out.cell 2 rfl; have f0 := K13.out.frozen 0; have f1 := K13.out.frozen 1; have f2 := K13.out.frozen 2; clear r3 b3))
  go_wp2
  have L3 := laid3 (w := w) K13.out RH3.out RB.out (by have := HSZ.out; have := KH.out; omega) (by have := HSZ.out; have := KH.out; have := HLT.out; omega) B3.out (by omega) (.slice (some ⟨g2, 0, none⟩) n0 c2) (.slice (some ⟨w2.heap.size, 0, none⟩) n1 n1) (.int .i64 N)
  refine bodyPost_ret (v := hashV (some ⟨g2, 0, none⟩) n0 c2 (some ⟨w2.heap.size, 0, none⟩) n1 n1 N) (results_cell_row rfl _ _ (w.heap.size + 1) 27 _ (0, 0) _ rfl L3.1 Tryd.underlying27 rfl infoHash) rfl ⟨g2, n0, c2, w2.heap.size, n1, n1, rfl, E0.out, E1.out, Nat.le_trans B0.out.size KH.out, B2.out.size, Nat.ne_of_lt HLT.out, L3.2.1, (List.append_nil held) ▸ L3.2.2.1, L3.2.2.2⟩

theorem may_parts {h held : List Int} {N : Int} {b : List Int} (e : mayAdd h held N b = true) : okH h held.length N = true ∧ (b.length : Int) ≤ 1048576 - N := by
  simp only [mayAdd, Bool.and_eq_true, decide_eq_true_eq] at e; exact e
theorem may_no1 {h held : List Int} {N : Int} {b : List Int} (e : okH h held.length N = false) : mayAdd h held N b = false := by simp [mayAdd, e]
theorem may_no2 {h held : List Int} {N : Int} {b : List Int} (e : ¬ (b.length : Int) ≤ 1048576 - N) : mayAdd h held N b = false := by
  unfold mayAdd; rw [decide_eq_false e, Bool.and_false]
theorem may_yes {h held : List Int} {N : Int} {b : List Int} (e : okH h held.length N = true) (e2 : (b.length : Int) ≤ 1048576 - N) : mayAdd h held N b = true := by
  unfold mayAdd; rw [e, decide_eq_true e2]; rfl

set_option maxRecDepth 100000 in
set_option maxHeartbeats 2000000 in
theorem implHashAdd (a0 : Addr) (n0 c0 : Nat) (a1 : Option Addr) (n1 c1 : Nat) (N : Int) (h held : List Int) (ab : Option Addr) (nb cb : Nat) (b : List Int) (w : World) (hT : Tab w) (e0 : n0 = h.length) (e1 : n1 = held.length) (r0 : IRd w (some a0) h) (r1 : Rd w a1 held) (na : a1 = none → c1 = 0) (hb : Bytes held) (l0 : n0 ≤ 1048576) (l1 : n1 ≤ 1048576)
    (eb : nb = b.length) (rb : Rd w ab b) (nab : ab = none → cb = 0) (hbb : Bytes b) (lb : nb ≤ 1048576) :
    Calls Tryd.prog 13 #[hashV (some a0) n0 c0 a1 n1 c1 N, .slice ab nb cb] w (NewHash w (addW h held N b) (addB h held N b) (addN h held N b)) := by
  have HT : Hid (Tab w) := hT
  have E0 : Hid (n0 = h.length) := e0
  have E1 : Hid (n1 = held.length) := e1
  have R0 : Hid (IRd w (some a0) h) := r0
  have R1 : Hid (Rd w a1 held) := r1
  have HB : Hid (Bytes held) := hb
  have EB : Hid (nb = b.length) := eb
  have RB : Hid (Rd w ab b) := rb
  have HBB : Hid (Bytes b) := hbb
  obtain ⟨w0, hw0⟩ : ∃ w0, (w.alloc (.cells #[.slice (some a0) n0 c0, .slice a1 n1 c1, .int .i64 N] 27)).alloc (.cells #[.slice none 0 0, .slice none 0 0, .int .i64 0] 27) = w0 := ⟨_, rfl⟩
  have HW0 : Hid ((w.alloc (.cells #[.slice (some a0) n0 c0, .slice a1 n1 c1, .int .i64 N] 27)).alloc (.cells #[.slice none 0 0, .slice none 0 0, .int .i64 0] 27) = w0) := hw0
  have HSZ : Hid (w0.heap.size = w.heap.size + 1 + 1) := by rw [← hw0]; show _ = _; simp
  have B0 : Hid (Below w.heap.size w w0) := by rw [← hw0]; exact ((Below.refl _ _).alloc (Nat.le_refl _) _).alloc (by simp) _
  have K0 : Hid (Blk w0 w.heap.size 27 [.slice (some a0) n0 c0, .slice a1 n1 c1, .int .i64 N]) := by rw [← hw0]; exact (Blk.new w 27 [.slice (some a0) n0 c0, .slice a1 n1 c1, .int .i64 N]).alloc _
  have K1 : Hid (Blk w0 (w.heap.size + 1) 27 [.slice none 0 0, .slice none 0 0, .int .i64 0]) := by
    rw [← hw0]
    have := Blk.new (w.alloc (.cells #[.slice (some a0) n0 c0, .slice a1 n1 c1, .int .i64 N] 27)) 27 [.slice none 0 0, .slice none 0 0, .int .i64 0]
    rw [alloc_size] at this
    exact this
  clear hT e0 e1 r0 r1 hb eb rb hbb hw0
  unfold hashV
  go_enter Tryd.func13, Tryd.ntmps13
  go_wp2_with fail
  rw [HW0.out]
  refine (sumOf (some a0) n0 c0 a1 n1 c1 N h w0 E0.out (R0.out.later B0.out (Nat.le_refl _)) (by omega) (by omega)).mono ?_
  rintro e w1 ⟨p, rfl, hyes, hno, b1⟩
  have B1 : Hid (Below w.heap.size w w1) := B0.out.trans (b1.mono B0.out.size)
  have K01 : Hid (Blk w1 w.heap.size 27 [.slice (some a0) n0 c0, .slice a1 n1 c1, .int .i64 N]) := K0.out.later b1
  have K11 : Hid (Blk w1 (w.heap.size + 1) 27 [.slice none 0 0, .slice none 0 0, .int .i64 0]) := K1.out.later b1
  have S1 : Hid (w.heap.size + 1 < w1.heap.size) := K11.out.lt
  clear b1
  by_cases hm : mayAdd h held N b = true
  · obtain ⟨m1, m2⟩ := may_parts hm
    rw [← E1.out] at m1
    obtain ⟨g, rfl, kg, k1⟩ := hyes m1
    obtain ⟨p1, p2, p3⟩ := okH_parts m1
    obtain ⟨M, rfl⟩ := Int.eq_ofNat_of_zero_le p2.1
    have HG : Hid (w0.heap.size ≤ g) := kg
    have HG0 : Hid (0 < g) := by show _ < _; have := HSZ.out; omega
    have KS : Hid (Blk w1 g 57 (sumCells h a1 n1 c1 M)) := k1
    have HW : Hid (h.length = 8 ∧ Wds h) := (okw_iff h).1 p1
    have c9 := sum_at9 k1 HW.out.1
    have hle : (nb : Int) ≤ 1048576 - (M : Int) := by rw [EB.out]; exact m2
    have HAW : Hid (addW h held (M : Int) b = run h (held ++ b) ((held ++ b).length / 64)) := by show _ = _; unfold addW; rw [if_pos hm]
    have HAB : Hid (addB h held (M : Int) b = (held ++ b).drop (64 * ((held ++ b).length / 64))) := by show _ = _; unfold addB; rw [if_pos hm]
    have HAN : Hid (addN h held (M : Int) b = M + nb) := by show _ = _; unfold addN; rw [if_pos hm, EB.out]
    have hM : M ≤ 1048576 := by omega
    clear hyes hno hm m2 p1 p2 p3 kg k1
    go_wp2_with fail
    refine (add g h a1 n1 c1 M held ab nb cb b w1 KS.out HG0.out HW.out.1 HW.out.2 (HT.out.later B1.out) E1.out (R1.out.later B1.out (Nat.le_refl _)) na HB.out (by omega) EB.out (RB.out.later B1.out (Nat.le_refl _)) nab HBB.out (by omega) (by omega) (by omega)).mono ?_
    rintro e w2 ⟨a2, m2, c2, rfl, k2, e2, x2, n2, g2⟩
    rw [← HAW.out] at k2
    rw [← HAB.out] at e2 x2
    rw [← HAN.out] at k2
    have HWL : Hid ((addW h held (M : Int) b).length = 8) := by show _ = _; rw [addW_length, HW.out.1]
    have K2 : Hid (Blk w2 g 57 (sumCells (addW h held (M : Int) b) a2 m2 c2 (addN h held (M : Int) b))) := k2
    have X2 : Hid (Rd w2 a2 (addB h held (M : Int) b)) := x2
    have E2 : Hid (m2 = (addB h held (M : Int) b).length) := e2
    have B2 : Hid (Below w.heap.size w w2) := B1.out.grown g2 B1.out.size (fun k h => by cases h; exact Nat.le_trans B0.out.size HG.out)
    have K12 : Hid (Blk w2 (w.heap.size + 1) 27 [.slice none 0 0, .slice none 0 0, .int .i64 0]) := K11.out.keep (g2.block _ K11.out.lt (by simp only [ne_eq, Option.some.injEq]; have := HG.out; have := HSZ.out; omega))
    have hm2 : m2 ≤ 2097152 := by rw [e2]; have := addB_length h held (M : Int) b; rw [← E1.out] at this; omega
    have S2 : Hid (w.heap.size + 1 < w2.heap.size) := K12.out.lt
    clear k2 e2 x2 g2 c9
    go_wp2_with fail
    refine (hashOf g (addW h held (M : Int) b) a2 m2 c2 (addN h held (M : Int) b) (addB h held (M : Int) b) w2 K2.out HWL.out E2.out X2.out n2 hm2).mono ?_
    rintro e w3 ⟨gh, ch, gb, cb', rfl, g1, g2', ne, rh, rb', b3⟩
    have K13 : Hid (Blk w3 (w.heap.size + 1) 27 [.slice none 0 0, .slice none 0 0, .int .i64 0]) := K12.out.later b3
    have B3 : Hid (Below w.heap.size w w3) := B2.out.trans (b3.mono B2.out.size)
    have L3 := laid3 (w := w) K13.out rh rb' (by have := S2.out; omega) (by have := S2.out; omega) B3.out (by omega) (.slice (some ⟨gh, 0, none⟩) 8 ch) (.slice (some ⟨gb, 0, none⟩) m2 cb') (.int .i64 (addN h held (M : Int) b))
    have HL3 : Hid _ := L3
    have HG1 : Hid (w.heap.size ≤ gh) := Nat.le_trans B2.out.size g1
    have HG2 : Hid (w.heap.size ≤ gb) := Nat.le_trans B2.out.size g2'
    have NE : Hid (gh ≠ gb) := ne
    have y0 := K13.out.cell 0 rfl
    have y1 := K13.out.cell 1 rfl
    have y2 := K13.out.cell 2 rfl
    have f0 := K13.out.frozen 0
    have f1 := K13.out.frozen 1
    have f2 := K13.out.frozen 2
    clear L3 g1 g2' ne rh rb' b3
    unfold hashV
    generalize addN h held (M : Int) b = NN at *
    go_wp2
    exact bodyPost_ret (v := hashV (some ⟨gh, 0, none⟩) 8 ch (some ⟨gb, 0, none⟩) m2 cb' NN) (results_cell_row rfl _ _ (w.heap.size + 1) 27 _ (0, 0) _ rfl HL3.out.1 Tryd.underlying27 rfl infoHash) rfl ⟨gh, 8, ch, gb, m2, cb', rfl, HWL.out.symm, E2.out, HG1.out, HG2.out, NE.out, HL3.out.2.1, HL3.out.2.2.1, HL3.out.2.2.2⟩
  · have HAW : Hid (addW h held N b = h) := by show _ = _; unfold addW; rw [if_neg hm]
    have HAB : Hid (addB h held N b = held) := by show _ = _; unfold addB; rw [if_neg hm]
    have HAN : Hid (addN h held N b = N) := by show _ = _; unfold addN; rw [if_neg hm]
    have hd : okH h n1 N = false ∨ (okH h n1 N = true ∧ ¬ (nb : Int) ≤ 1048576 - N) := by
      cases hk : okH h n1 N with
      | false => exact .inl rfl
      | true => exact .inr ⟨rfl, fun e => hm (may_yes (by rw [← E1.out]; exact hk) (by rw [← EB.out]; exact e))⟩
    have x0 := K01.out.cell 0 rfl
    have x1 := K01.out.cell 1 rfl
    have x2 := K01.out.cell 2 rfl
    rcases hd with hk | ⟨hk, hgt⟩
    · obtain rfl := hno hk
      clear hyes hno hm
      go_wp2_with fail
      clear x0 x1 x2
      refine (copyHash a0 n0 c0 a1 n1 c1 N h held w1 E0.out E1.out (R0.out.later B1.out (Nat.le_refl _)) (R1.out.later B1.out (Nat.le_refl _)) na l0 l1).mono ?_
      rintro e w3 ⟨gh, m0, ch, gb, m1, cb', rfl, q0, q1, g1, g2', ne, rh, rb', b3⟩
      have K13 : Hid (Blk w3 (w.heap.size + 1) 27 [.slice none 0 0, .slice none 0 0, .int .i64 0]) := K11.out.later b3
      have B3 : Hid (Below w.heap.size w w3) := B1.out.trans (b3.mono B1.out.size)
      have L3 := laid3 (w := w) K13.out rh rb' (by have := S1.out; omega) (by have := S1.out; omega) B3.out (by omega) (.slice (some ⟨gh, 0, none⟩) m0 ch) (.slice (some ⟨gb, 0, none⟩) m1 cb') (.int .i64 N)
      have HL3 : Hid _ := L3
      have HG1 : Hid (w.heap.size ≤ gh) := Nat.le_trans B1.out.size g1
      have HG2 : Hid (w.heap.size ≤ gb) := Nat.le_trans B1.out.size g2'
      have NE : Hid (gh ≠ gb) := ne
      have Q0 : Hid (m0 = h.length) := q0
      have Q1 : Hid (m1 = held.length) := q1
      have y0 := K13.out.cell 0 rfl
      have y1 := K13.out.cell 1 rfl
      have y2 := K13.out.cell 2 rfl
      have f0 := K13.out.frozen 0
      have f1 := K13.out.frozen 1
      have f2 := K13.out.frozen 2
      clear L3 g1 g2' ne rh rb' b3 q0 q1
      unfold hashV
      go_wp2
      exact bodyPost_ret (v := hashV (some ⟨gh, 0, none⟩) m0 ch (some ⟨gb, 0, none⟩) m1 cb' N) (results_cell_row rfl _ _ (w.heap.size + 1) 27 _ (0, 0) _ rfl HL3.out.1 Tryd.underlying27 rfl infoHash) rfl (by rw [HAW.out, HAB.out, HAN.out]; exact ⟨gh, m0, ch, gb, m1, cb', rfl, Q0.out, Q1.out, HG1.out, HG2.out, NE.out, HL3.out.2.1, HL3.out.2.2.1, HL3.out.2.2.2⟩)
    · obtain ⟨g, rfl, kg, k1⟩ := hyes hk
      obtain ⟨p1, p2, p3⟩ := okH_parts hk
      obtain ⟨M, rfl⟩ := Int.eq_ofNat_of_zero_le p2.1
      have c9 := sum_at9 k1 ((okw_iff h).1 p1).1
      have hgt2 : 1048576 - (M : Int) < (nb : Int) := by omega
      have hM : M ≤ 1048576 := by omega
      clear hyes hno hm p1 p2 p3 kg k1 hgt
      go_wp2_with fail
      clear x0 x1 x2 c9
      refine (copyHash a0 n0 c0 a1 n1 c1 M h held w1 E0.out E1.out (R0.out.later B1.out (Nat.le_refl _)) (R1.out.later B1.out (Nat.le_refl _)) na l0 l1).mono ?_
      rintro e w3 ⟨gh, m0, ch, gb, m1, cb', rfl, q0, q1, g1, g2', ne, rh, rb', b3⟩
      have K13 : Hid (Blk w3 (w.heap.size + 1) 27 [.slice none 0 0, .slice none 0 0, .int .i64 0]) := K11.out.later b3
      have B3 : Hid (Below w.heap.size w w3) := B1.out.trans (b3.mono B1.out.size)
      have L3 := laid3 (w := w) K13.out rh rb' (by have := S1.out; omega) (by have := S1.out; omega) B3.out (by omega) (.slice (some ⟨gh, 0, none⟩) m0 ch) (.slice (some ⟨gb, 0, none⟩) m1 cb') (.int .i64 (M : Int))
      have HL3 : Hid _ := L3
      have HG1 : Hid (w.heap.size ≤ gh) := Nat.le_trans B1.out.size g1
      have HG2 : Hid (w.heap.size ≤ gb) := Nat.le_trans B1.out.size g2'
      have NE : Hid (gh ≠ gb) := ne
      have Q0 : Hid (m0 = h.length) := q0
      have Q1 : Hid (m1 = held.length) := q1
      have y0 := K13.out.cell 0 rfl
      have y1 := K13.out.cell 1 rfl
      have y2 := K13.out.cell 2 rfl
      have f0 := K13.out.frozen 0
      have f1 := K13.out.frozen 1
      have f2 := K13.out.frozen 2
      clear L3 g1 g2' ne rh rb' b3 q0 q1
      unfold hashV
      go_wp2
      exact bodyPost_ret (v := hashV (some ⟨gh, 0, none⟩) m0 ch (some ⟨gb, 0, none⟩) m1 cb' (M : Int)) (results_cell_row rfl _ _ (w.heap.size + 1) 27 _ (0, 0) _ rfl HL3.out.1 Tryd.underlying27 rfl infoHash) rfl (by rw [HAW.out, HAB.out, HAN.out]; exact ⟨gh, m0, ch, gb, m1, cb', rfl, Q0.out, Q1.out, HG1.out, HG2.out, NE.out, HL3.out.2.1, HL3.out.2.2.1, HL3.out.2.2.2⟩)
end Go.Proofs.YtfoilfbpbjfkcaaDoor.HashC

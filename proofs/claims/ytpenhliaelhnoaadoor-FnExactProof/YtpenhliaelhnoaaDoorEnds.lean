/-
  What impl's end and Sha answer, where the table of round words holds what the program's text lays into it: the sum's 32 bytes, in new memory.
-/
import Derived.Test.YtpenhliaelhnoaaDoorAdds
namespace Go.Proofs.YtpenhliaelhnoaaDoor.Ends
open Go.RowKit Go.Proofs.YtpenhliaelhnoaaDoor.Mem Go.Proofs.YtpenhliaelhnoaaDoor.MemI Go.Proofs.YtpenhliaelhnoaaDoor.Blk Go.Proofs.YtpenhliaelhnoaaDoor.App Go.Proofs.YtpenhliaelhnoaaDoor.Get Go.Proofs.YtpenhliaelhnoaaDoor.ShaP Go.Proofs.YtpenhliaelhnoaaDoor.Word Go.Proofs.YtpenhliaelhnoaaDoor.Bits Go.Proofs.YtpenhliaelhnoaaDoor.Sched Go.Proofs.YtpenhliaelhnoaaDoor.Words Go.Proofs.YtpenhliaelhnoaaDoor.WordsOf Go.Proofs.YtpenhliaelhnoaaDoor.Comp Go.Proofs.YtpenhliaelhnoaaDoor.CompS Go.Proofs.YtpenhliaelhnoaaDoor.Start Go.Proofs.YtpenhliaelhnoaaDoor.Cuts Go.Proofs.YtpenhliaelhnoaaDoor.Pads Go.Proofs.YtpenhliaelhnoaaDoor.Adds

set_option maxRecDepth 100000 in
theorem index8w (k : Nat) (hk : k < 8) (A B C D E F G H : Int) (w : World) :
    (Instr.index 78 (.agg #[.int .i64 A, .int .i64 B, .int .i64 C, .int .i64 D, .int .i64 E, .int .i64 F, .int .i64 G, .int .i64 H]) (.int .i64 (k : Int))).run Tryd.prog w = .ok (.int .i64 ([A, B, C, D, E, F, G, H].getD k 0)) w := by
  rcases (show k = 0 ∨ k = 1 ∨ k = 2 ∨ k = 3 ∨ k = 4 ∨ k = 5 ∨ k = 6 ∨ k = 7 by omega) with rfl | rfl | rfl | rfl | rfl | rfl | rfl | rfl <;> kernel_rfl
set_option maxRecDepth 100000 in
theorem grown_on {w a b : World} {g gg : Nat} (h : w.grownBy a (some g)) (k : a.grownBy b (some gg)) (hg : w.heap.size ≤ gg) : w.grownBy b (some g) :=
  ⟨k.os.trans h.os, k.tape.trans h.tape, k.output.trans h.output, Nat.le_trans h.size k.size, fun i hi hne => (k.block i (Nat.lt_of_lt_of_le hi h.size) (by simp; omega)).trans (h.block i hi hne)⟩
set_option maxRecDepth 100000 in
theorem grown_below {w a b : World} {g : Nat} (h : w.grownBy a (some g)) {B : Nat} (k : Below B a b) (hB : w.heap.size ≤ B) : w.grownBy b (some g) :=
  ⟨k.os.trans h.os, k.tape.trans h.tape, k.output.trans h.output, Nat.le_trans h.size k.size, fun i hi hne => (k.block i (Nat.lt_of_lt_of_le hi hB)).trans (h.block i hi hne)⟩
set_option maxRecDepth 100000 in
theorem padI_nat (N : Nat) (h : N ≤ 1048576) : padI (N : Int) = padOf N := by unfold padI; rw [if_pos (by omega), Int.toNat_natCast]
set_option maxRecDepth 100000 in
theorem padI_bytes (n : Int) : Bytes (padI n) := by
  unfold padI; split
  · intro z hz
    simp only [padOf, List.mem_cons, List.mem_append, List.mem_replicate] at hz
    rcases hz with rfl | ⟨_, rfl⟩ | hz
    · omega
    · omega
    · exact num_bytes _ _ z hz
  · intro z hz; cases hz

set_option maxRecDepth 100000 in
set_option maxHeartbeats 4000000 in
theorem endSum (g : Nat) (h : List Int) (ao : Option Addr) (m c N : Nat) (held : List Int) (w : World)
    (hB : Blk w g 80 (sumCells h ao m c N)) (hg : 0 < g) (hh : h.length = 8) (hw : Wds h) (hT : Tab w) (hm : m = held.length) (hx : Rd w ao held) (nx : ao = none → c = 0) (hxb : Bytes held) (hml : m ≤ 2097152) (hN : N ≤ 1048576) :
    Calls Tryd.prog 75 #[.pointer (some ⟨g, 0, none⟩)] w fun e w' =>
      ∃ g' c', e = .returned (.slice (some ⟨g', 0, none⟩) 32 c') ∧ w.heap.size ≤ g' ∧ Row w' g' c' (endOf h held N) ∧ w.grownBy w' (some g) := by
  have HB : Hid (Blk w g 80 (sumCells h ao m c N)) := hB
  have HH : Hid (h.length = 8) := hh
  have HW : Hid (Wds h) := hw
  have HT : Hid (Tab w) := hT
  have HX : Hid (Rd w ao held) := hx
  have HM : Hid (m = held.length) := hm
  have HXB : Hid (Bytes held) := hxb
  have HGL : Hid (g < w.heap.size) := hB.lt
  have c9 := sum_at9 hB hh
  clear hB hh hw hT hx hm hxb
  go_enter Tryd.func75, Tryd.ntmps75
  go_wp2_with fail
  refine (implPad (N : Int) w).mono ?_
  rintro e w1 ⟨gp, mp, cp, rfl, e1, k1, r1, b1⟩
  have HPL : Hid ((padI (N : Int)).length ≤ 72) := padI_length _
  have R1 : Hid (Row w1 gp cp (padI (N : Int))) := r1
  have B1 : Hid (Below w.heap.size w w1) := b1
  have E1 : Hid (mp = (padI (N : Int)).length) := e1
  have hmp : mp ≤ 72 := by rw [e1]; exact HPL.out
  clear r1 b1 e1 k1 c9
  go_wp2_with fail
  refine (add g h ao m c N held (some ⟨gp, 0, none⟩) mp cp (padI (N : Int)) w1 (HB.out.later B1.out) hg HH.out HW.out (HT.out.later B1.out) HM.out (HX.out.later B1.out (Nat.le_refl _)) nx HXB.out hml E1.out R1.out.rd (by intro e; cases e) (padI_bytes _) (by omega) (by omega) (by omega)).mono ?_
  rintro e w2 ⟨a2, m2, c2, rfl, k2, _, _, _, g2⟩
  obtain ⟨hf, hhf⟩ : ∃ hf, run h (held ++ padI (N : Int)) ((held ++ padI (N : Int)).length / 64) = hf := ⟨_, rfl⟩
  have HF : Hid (hf.length = 8) := by rw [← hhf]; exact run_length _ _ _ HH.out
  have HE : Hid (endOf h held N = outB hf) := by
    show _ = _
    unfold endOf
    rw [← padI_nat N hN, hhf]
  rw [hhf] at k2
  have K2 : Hid (Blk w2 g 80 (sumCells hf a2 m2 c2 (N + mp))) := k2
  have G2 : Hid (w.grownBy w2 (some g)) := grown_trans (grown_of_below B1.out g) g2
  clear k2 g2 hhf
  obtain ⟨i0, hi, hz0, hz1, hz2⟩ := info_parts info8
  obtain ⟨y0, y1, y2, y3, y4, y5, y6, y7, e8⟩ : ∃ y0 y1 y2 y3 y4 y5 y6 y7, hf = [y0, y1, y2, y3, y4, y5, y6, y7] := by
    match hf, HF.out with
    | [y0, y1, y2, y3, y4, y5, y6, y7], _ => exact ⟨_, _, _, _, _, _, _, _, rfl⟩
  have E8 : Hid (hf = [y0, y1, y2, y3, y4, y5, y6, y7]) := e8
  have HCI : Hid (∀ w3, Below w2.heap.size w2 w3 → ∀ k v, (sumCells [y0, y1, y2, y3, y4, y5, y6, y7] a2 m2 c2 (N + mp))[k]? = some v → w3.cell? ⟨g, k, none⟩ = some v) := by
    intro w3 hb k v hv
    rw [← e8] at hv
    exact (K2.out.later hb).cell k hv
  clear e8
  go_wp2_with (first | (at_make; refine wpList_make_own _ rfl _ _ 22 rfl w.heap.size 5 i0 (.int .u8 0) 1 Tryd.underlying22 hi hz0 hz1 _ _ _ 32 rfl rfl rfl (by rw [hz2]; omega) (by unfold maxLen; omega) G2.out.size ?_; intro w3 hown hgr; have B3 : Hid (Below w2.heap.size w2 w3) := (Below.refl _ _).grown hgr (Nat.le_refl _) (fun k h => by cases h); have R3 : Hid (Row w3 w2.heap.size 32 []) := (Row.of (l := []) hown).1; have t0 := HCI.out w3 B3.out 0 _ rfl; have t1 := HCI.out w3 B3.out 1 _ rfl; have t2 := HCI.out w3 B3.out 2 _ rfl; have t3 := HCI.out w3 B3.out 3 _ rfl; have t4 := HCI.out w3 B3.out 4 _ rfl; have t5 := HCI.out w3 B3.out 5 _ rfl; have t6 := HCI.out w3 B3.out 6 _ rfl; have t7 := HCI.out w3 B3.out 7 _ rfl; clear hown hgr))
  have G3 : Hid (w.grownBy w3 (some g)) := grown_below G2.out B3.out G2.out.size
  have S2 : Hid (w.heap.size ≤ w2.heap.size) := G2.out.size
  clear t0 t1 t2 t3 t4 t5 t6 t7 B3 HCI
  obtain ⟨ys, hys⟩ : ∃ ys, ys = [y0, y1, y2, y3, y4, y5, y6, y7] := ⟨_, rfl⟩
  have HYS : Hid (ys = [y0, y1, y2, y3, y4, y5, y6, y7]) := hys
  have HYL : Hid (ys.length = 8) := by rw [hys]; rfl
  clear hys
  go_loopw [3, 18] (fun v i wr => ∃ k gg cc : Nat, k ≤ 8 ∧ i = .int .i64 k ∧ v = .slice (some ⟨gg, 0, none⟩) (4 * k) cc ∧ w.heap.size ≤ gg ∧ Row wr gg cc (outB (ys.take k)) ∧ w.grownBy wr (some g))
    (fun _ i _ => 8 - (intOf i).toNat)
  case atStart => exact ⟨0, w2.heap.size, 32, Nat.zero_le _, rfl, rfl, S2.out, R3.out, G3.out⟩
  case round =>
    obtain ⟨k, gg, cc, hk, rfl, rfl, hgg, hRow, hG⟩ := hrel
    have HRow : Hid (Row wr gg cc (outB (ys.take k))) := hRow
    have HG : Hid (w.grownBy wr (some g)) := hG
    clear R3 G3 hRow hG
    by_cases hlt : k < 8
    · have hag := index8w k hlt y0 y1 y2 y3 y4 y5 y6 y7
      rw [← HYS.out] at hag
      have HT1 : Hid (outB (ys.take (k + 1)) = outB (ys.take k) ++ num (ys.getD k 0) 4) := by
        show _ = _
        rw [List.take_succ_eq_append_getElem (by rw [HYL.out]; exact hlt), outB_snoc]
        simp [List.getD, HYL.out, hlt]
      have HOL : Hid (4 * k = (outB (ys.take k)).length) := by show _ = _; rw [outB_length, List.length_take, HYL.out]; omega
      generalize ys.getD k 0 = z at *
      have HN4 : Hid ((num z 4).length = 4) := num_length z 4
      go_wp2_with fail
      refine (highestFirst z 4 wr (by omega) (by omega)).mono ?_
      rintro e w5 ⟨rfl, r5, b5⟩
      have R5 : Hid (Row w5 wr.heap.size 4 (num z 4)) := r5
      have B5 : Hid (Below wr.heap.size wr w5) := b5
      have G5 : Hid (w.grownBy w5 (some g)) := grown_below HG.out b5 HG.out.size
      have RO5 : Hid (Row w5 gg cc (outB (ys.take k))) := HRow.out.later b5
      clear r5 b5
      go_wp2_with (at_builtin; refine wpList_app _ rfl (.tmp 21) (.tmp 23) rfl w.heap.size gg (4 * k) cc (outB (ys.take k)) (num z 4) rfl HOL.out RO5.out hgg (some ⟨wr.heap.size, 0, none⟩) 4 4 rfl HN4.out.symm R5.out.rd (by intro h; cases h) (by rw [← HOL.out, HN4.out]; omega) ?_; intro g2 c2' w6 r2 b2 l2 gr2; have R6 : Hid (Row w6 g2 c2' (outB (ys.take k) ++ num z 4)) := r2; have G6 : Hid (w.grownBy w6 (some g)) := grown_on G5.out gr2 hgg; clear r2 gr2 l2)
      go_roundw
      case rel => exact ⟨k + 1, g2, c2', by omega, by go_num, rfl, b2, by rw [HT1.out]; exact R6.out, G6.out⟩
      case measure => simp [intOf]; omega
    · obtain rfl : k = 8 := by omega
      have HT8 : Hid (endOf h held N = outB (ys.take 8)) := by
        show _ = _
        rw [HE.out, E8.out, ← HYS.out, List.take_of_length_le (by rw [HYL.out]; exact Nat.le_refl _)]
      go_wp2
      go_ret
      exact ⟨gg, cc, rfl, hgg, by rw [HT8.out]; exact HRow.out, HG.out⟩

def shaI (b : List Int) : List Int := if b.length ≤ 1048576 then shaOf b else []
set_option maxRecDepth 100000 in
theorem endOf_length (h held : List Int) (n : Nat) (hh : h.length = 8) : (endOf h held n).length = 32 := by
  unfold endOf; rw [outB_length, run_length _ _ _ hh]

set_option maxRecDepth 100000 in
theorem shaI_length (b : List Int) : (shaI b).length ≤ 1048576 := by
  unfold shaI; split
  · unfold shaOf; rw [endOf_length _ _ _ rfl]; omega
  · simp
set_option maxRecDepth 100000 in
theorem drop_len (l : List Int) : (l.drop (64 * (l.length / 64))).length = l.length % 64 := by rw [List.length_drop]; omega
set_option maxRecDepth 100000 in
theorem run_end (h x p : List Int) : run (run h x (x.length / 64)) (x.drop (64 * (x.length / 64)) ++ p) ((x.drop (64 * (x.length / 64)) ++ p).length / 64) = run h (x ++ p) ((x ++ p).length / 64) := by
  rw [run_parts h x p _ _ (by omega)]
  congr 1
  rw [List.length_append, drop_len, List.length_append]
  omega
set_option maxRecDepth 100000 in
theorem end_rest (h x : List Int) (n : Nat) : endOf (run h x (x.length / 64)) (x.drop (64 * (x.length / 64))) n = outB (run h (x ++ padOf n) ((x ++ padOf n).length / 64)) := by
  unfold endOf; rw [run_end]

set_option maxRecDepth 100000 in
set_option maxHeartbeats 4000000 in
theorem implSha (a : Option Addr) (n cap : Nat) (b : List Int) (w : World) (hT : Tab w) (hn : n = b.length) (hr : Rd w a b) (na : a = none → cap = 0) (hb : Bytes b) (hl : n ≤ 2097152) :
    Calls Tryd.prog 61 #[.slice a n cap] w fun e w' =>
      ∃ g m c, e = .returned (.slice (some ⟨g, 0, none⟩) m c) ∧ m = (shaI b).length ∧ w.heap.size ≤ g ∧ Row w' g c (shaI b) ∧ Below w.heap.size w w' := by
  have HT : Hid (Tab w) := hT
  have HN : Hid (n = b.length) := hn
  have HR : Hid (Rd w a b) := hr
  have HB : Hid (Bytes b) := hb
  clear hT hn hr hb
  by_cases h1 : n ≤ 1048576
  · have HS : Hid (shaI b = shaOf b) := by show _ = _; unfold shaI; rw [if_pos (by rw [← HN.out]; exact h1)]
    have hl1 : isLen (n : Int) = true := isLen_yes ⟨by omega, by omega⟩
    go_enter Tryd.func61, Tryd.ntmps61
    go_wp2_with fail
    refine (isShaLength _ _).mono ?_
    rintro e w1 ⟨rfl, rfl⟩
    go_wp2_with fail
    refine (newSum w).mono ?_
    rintro e w1 ⟨rfl, k1, b1⟩
    have K1 : Hid (Blk w1 w.heap.size 80 (sumCells start8 none 0 0 0)) := k1
    have B1 : Hid (Below w.heap.size w w1) := b1
    have HG : Hid (0 < w.heap.size) := HT.out.1
    clear k1 b1
    go_wp2_with fail
    refine (add w.heap.size start8 none 0 0 0 [] a n cap b w1 K1.out HG.out rfl start8_wds (HT.out.later B1.out) rfl (by intro i hi; cases hi) (fun _ => rfl) (by intro z hz; cases hz) (by omega) HN.out (HR.out.later B1.out (Nat.le_refl _)) na HB.out hl (by omega) (by omega)).mono ?_
    rintro e w2 ⟨a2, m2, c2, rfl, k2, e2, x2, n2, g2⟩
    rw [List.nil_append] at k2 e2 x2
    rw [Int.zero_add] at k2
    have K2 : Hid (Blk w2 w.heap.size 80 (sumCells (run start8 b (b.length / 64)) a2 m2 c2 (n : Int))) := k2
    have X2 : Hid (Rd w2 a2 (b.drop (64 * (b.length / 64)))) := x2
    have E2 : Hid (m2 = (b.drop (64 * (b.length / 64))).length) := e2
    have B2 : Hid (Below w.heap.size w w2) := B1.out.grown g2 B1.out.size (fun k h => by cases h; exact Nat.le_refl _)
    have hm2 : m2 ≤ 64 := by rw [e2, drop_len]; omega
    have T2 : Hid (Tab w2) := HT.out.later B2.out
    have D2 : Hid (Bytes (b.drop (64 * (b.length / 64)))) := fun z hz => HB.out z (List.mem_of_mem_drop hz)
    clear k2 x2 e2 g2
    go_wp2_with fail
    refine (endSum w.heap.size _ a2 m2 c2 n _ w2 K2.out HG.out (run_length _ _ _ rfl) (run_wds _ _ _ start8_wds) T2.out E2.out X2.out n2 D2.out (by omega) h1).mono ?_
    rintro e w3 ⟨g3, c3, rfl, k3, r3, gr3⟩
    have HE : Hid (shaI b = endOf (run start8 b (b.length / 64)) (b.drop (64 * (b.length / 64))) n) := by
      show _ = _
      rw [HS.out, end_rest, HN.out]; rfl
    have HE2 : Hid ((shaI b).length = 32) := by show _ = _; rw [HE.out, endOf_length _ _ _ (run_length _ _ _ rfl)]
    have K3 : Hid (w.heap.size ≤ g3) := Nat.le_trans B2.out.size k3
    have R3 : Hid (Row w3 g3 c3 (shaI b)) := by show Row _ _ _ _; rw [HE.out]; exact r3
    have B3 : Hid (Below w.heap.size w w3) := B2.out.grown gr3 B2.out.size (fun k h => by cases h; exact Nat.le_refl _)
    clear r3 gr3 k3
    go_wp2
    go_ret
    exact ⟨g3, 32, c3, rfl, HE2.out.symm, K3.out, R3.out, B3.out⟩
  · have HS : Hid (shaI b = []) := by show _ = _; unfold shaI; rw [if_neg (by rw [← HN.out]; exact h1)]
    have hl1 : isLen (n : Int) = false := isLen_no (by omega)
    clear h1
    go_enter Tryd.func61, Tryd.ntmps61
    go_wp2_with fail
    refine (isShaLength _ _).mono ?_
    rintro e w1 ⟨rfl, rfl⟩
    go_wp2
    go_ret
    exact ⟨w.heap.size, 0, 0, by simp, by rw [HS.out]; rfl, Nat.le_refl _, by rw [HS.out]; exact row_new w [] (by simp), (Below.refl _ _).alloc (Nat.le_refl _) _⟩
end Go.Proofs.YtpenhliaelhnoaaDoor.Ends

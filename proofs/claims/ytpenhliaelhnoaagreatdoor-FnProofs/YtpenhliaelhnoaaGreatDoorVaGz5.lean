/-
  What impl's add does to a sum behind a pointer, for every slice of bytes, where the table of round words holds what the program's text lays into it: the blocks are compressed, the rest is held.
  What impl's end and Sha answer, where the table of round words holds what the program's text lays into it: the sum's 32 bytes, in new memory.
  How two lists of bytes differ, as a plain function.
  Sums with a key as plain functions on lists of numbers.
  Keys of keys, and bytes that hide, as plain functions on lists of numbers.
  A string's bytes as numbers; and that a string made into a slice of bytes holds them, in new memory.
  Keys as plain functions, where sums with a key come in.
-/
import Derived.Test.YtpenhliaelhnoaaGreatDoorVaGz3
import Derived.Test.YtpenhliaelhnoaaGreatDoorVaGz4
import Derived.Test.YtpenhliaelhnoaaGreatDoorVaGz1
import Derived.Laws.BitsAllLaws
import Derived.Laws.IdiomStrings
import Derived.Laws.BytesArg
set_option linter.unusedVariables false
set_option maxRecDepth 100000
namespace Go.Proofs.YtpenhliaelhnoaaGreatDoor.Adds
open Go.RowKit Mem MemI Blk App Get ShaP Word Bits Sched Words WordsOf Comp CompS Go.Proofs.YtpenhliaelhnoaaGreatDoor.Start Cuts Pads

theorem sum_held (h : List Int) (a : Option Addr) (m c : Nat) (n : Int) (a' : Option Addr) (m' c' : Nat) (hh : h.length = 8) : (sumCells h a m c n).set 8 (.slice a' m' c') = sumCells h a' m' c' n := by
 unfold sumCells
 rw [List.set_append, if_neg (by simp [hh]), List.length_map, hh]; rfl
theorem sum_n (h : List Int) (a : Option Addr) (m c : Nat) (n n' : Int) (hh : h.length = 8) : (sumCells h a m c n).set 9 (.int .i64 n') = sumCells h a m c n' := by
 unfold sumCells
 rw [List.set_append, if_neg (by simp [hh]), List.length_map, hh]; rfl
theorem sum_len (h : List Int) (a : Option Addr) (m c : Nat) (n : Int) (hh : h.length = 8) : (sumCells h a m c n).length = 10 := by simp [sumCells, hh]
theorem sum_at8 {w : World} {g : Nat} {t : TypeId} {h : List Int} {a : Option Addr} {m c : Nat} {n : Int} (hB : Blk w g t (sumCells h a m c n)) (hh : h.length = 8) : w.cell? ⟨g, 8, none⟩ = some (.slice a m c) :=
 hB.cell 8 (by simp [sumCells, hh])
theorem sum_at9 {w : World} {g : Nat} {t : TypeId} {h : List Int} {a : Option Addr} {m c : Nat} {n : Int} (hB : Blk w g t (sumCells h a m c n)) (hh : h.length = 8) : w.cell? ⟨g, 9, none⟩ = some (.int .i64 n) :=
 hB.cell 9 (by simp [sumCells, hh])
theorem grown_of_below {w w' : World} (b : Below w.heap.size w w') (g : Nat) : w.grownBy w' (some g) := ⟨b.os, b.tape, b.output, b.size, fun i hi _ => b.block i hi⟩
theorem grown_store {w w' : World} {g : Nat} {t : TypeId} {cs : List Value} (hg : w.grownBy w' (some g)) (hB : Blk w' g t cs) (hl : cs.length ≤ maxLen) (i : Nat) (v : Value) : w.grownBy (w'.setCell ⟨g, i, none⟩ v) (some g) :=
 grown_trans hg ((hB.owns hl).stored i v).2

set_option maxHeartbeats 4000000 in
theorem add (g : Nat) (h : List Int) (ao : Option Addr) (m c : Nat) (n : Int) (held : List Int) (a : Option Addr) (nb cap : Nat) (b : List Int) (w : World)
  (hB : Blk w g 113 (sumCells h ao m c n)) (hg : 0 < g) (hh : h.length = 8) (hw : Wds h) (hT : Tab w) (hm : m = held.length) (hx : Rd w ao held) (nx : ao = none → c = 0) (hxb : Bytes held) (hml : m ≤ 2097152)
  (hn : nb = b.length) (hy : Rd w a b) (ny : a = none → cap = 0) (hyb : Bytes b) (hnl : nb ≤ 2097152) (hn0 : 0 ≤ n) (hn1 : n ≤ 4194304) :
  Calls Tryz.prog 97 #[.pointer (some ⟨g, 0, none⟩), .slice a nb cap] w fun e w' =>
   ∃ a' m' c', e = .returned (.tuple #[]) ∧ Blk w' g 113 (sumCells (run h (held ++ b) ((held ++ b).length / 64)) a' m' c' (n + nb)) ∧ m' = ((held ++ b).drop (64 * ((held ++ b).length / 64))).length ∧ Rd w' a' ((held ++ b).drop (64 * ((held ++ b).length / 64))) ∧ (a' = none → c' = 0) ∧ w.grownBy w' (some g) := by
 have HB := hid (hB)
 have HH : Hid (h.length = 8) := hh
 have HW : Hid (Wds h) := hw
 have HT := hid (hT)
 have HX := hid (hx)
 have HY := hid (hy)
 have HM : Hid (m = held.length) := hm
 have HN : Hid (nb = b.length) := hn
 have HA : Hid (Bytes (held ++ b)) := fun z hz => (List.mem_append.1 hz).elim (hxb z) (hyb z)
 have HGL : Hid (g < w.heap.size) := hB.lt
 have c8 := sum_at8 hB hh
 clear hB hh hw hT hx hy hm hn hxb hyb
 go_enter Tryz.func97, Tryz.ntmps97
 go_wp2_with fail
 refine (putBytes ao a m c nb cap held b w HM.out HN.out HX.out HY.out nx ny (by rw [← HM.out]; omega) (by rw [← HN.out]; omega)).mono ?_
 rintro e w1 ⟨rfl, r1, b1⟩
 obtain ⟨x, hx⟩ : ∃ x, held ++ b = x := ⟨_, rfl⟩
 rw [hx] at HA r1
 obtain ⟨L, hL⟩ : ∃ L, m + nb = L := ⟨_, rfl⟩
 rw [hL] at r1 ⊢
 have HL : Hid (x.length = L) := by rw [← hx, ← hL, HM.out, HN.out]; simp [Hid]
 have HLL : Hid (m + nb = L) := hL
 have hLm : L ≤ 4194304 := by omega
 have HXX : Hid (held ++ b = x) := hx
 obtain ⟨ga, hga⟩ : ∃ ga, w.heap.size = ga := ⟨_, rfl⟩
 have HGA : Hid (w.heap.size = ga) := hga
 rw [hga] at r1 ⊢
 have R1 := hid (r1)
 have B1 := hid (b1)
 have G1 : Hid (w.grownBy w1 (some g)) := grown_of_below b1 g
 have K1 := hid (HB.out.later b1)
 have HNE : Hid (ga ≠ g) := by show _ ≠ _; have := HGL.out; omega
 have T1 := hid (HT.out.later b1)
 clear r1 b1 hx hL hga c8
 go_wp2
 go_loopw [4] (fun v wr => ∃ q off R : Nat, 64 * q + R = L ∧ v = .slice (some ⟨ga, off, none⟩) R R ∧ (0 < R → off = 64 * q) ∧ Blk wr g 113 (sumCells (run h x q) ao m c n) ∧ Row wr ga L x ∧ w.grownBy wr (some g))
  (fun v _ => lenOf v)
 case atStart => exact ⟨0, 0, L, by omega, rfl, (fun _ => rfl), K1.out, R1.out, G1.out⟩
 case round =>
  obtain ⟨q, off, R, hR, rfl, hoff, hK, hRow, hG⟩ := hrel
  clear K1 R1 G1 B1 T1
  have HR : Hid (64 * q + R = L) := hR
  have HK := hid (hK)
  have HRow := hid (hRow)
  have HG : Hid (w.grownBy wr (some g)) := hG
  have hRm : R ≤ 4194304 := by omega
  clear hR hK hRow hG
  by_cases h64 : 64 ≤ R
  ·
   obtain rfl := hoff (by omega)
   have hT2 : Tab wr := HT.out.grown hg HG.out
   have hP : Rd wr (some ⟨ga, 64 * q, none⟩) (piece x (64 * q) 64) := by
    have := rd_piece HRow.out.rd (64 * q) 64 (by rw [HL.out]; have := HR.out; omega)
    rwa [Nat.zero_add] at this
   have hPl : (piece x (64 * q) 64).length = 64 := piece_length x (64 * q) 64 (by rw [HL.out]; have := HR.out; omega)
   have HP : Hid (Rd wr.drew (some ⟨ga, 64 * q, none⟩) (piece x (64 * q) 64)) := Rd.drewN hP 1
   have HPL : Hid ((piece x (64 * q) 64).length = 64) := hPl
   have HPB : Hid (Bytes (piece x (64 * q) 64)) := piece_bytes HA.out _ _
   have HKD : Hid (Blk wr.drew g 113 ((run h x q).map (Value.int .i64) ++ [.slice ao m c, .int .i64 n])) := blk_drew HK.out
   have HTD := hid (hT2)
   have HRL : Hid ((run h x q).length = 8) := run_length h x q HH.out
   have HRW : Hid (Wds (run h x q)) := run_wds h x q HW.out
   clear hT2 hP hPl hoff
   go_wp2
   go_region_with (go_at_call 105; refine (compress g 113 (run h x q) [.slice ao m c, .int .i64 n] _ R (piece x (64 * q) 64) wr.drew HKD.out (by simp) HRL.out HRW.out HTD.out HPL.out HP.out HPB.out h64).mono ?_; rintro e w5 ⟨rfl, k5, g5⟩)
   have HN1 : Hid (run h x (q + 1) = comp (run h x q) (piece x (64 * q) 64)) := (rfl : run h x (q + 1) = _)
   have K5 : Hid (Blk w5 g 113 (sumCells (run h x (q + 1)) ao m c n)) := by
    show Blk _ _ _ _
    rw [HN1.out]; exact k5
   have R5 := hid (HRow.out.keep (w' := w5) (g5.block ga HRow.out.lt (by simpa using HNE.out)))
   have G5 : Hid (w.grownBy w5 (some g)) := grown_trans (b := wr.drew) ⟨HG.out.os, HG.out.tape, HG.out.output, HG.out.size, HG.out.block⟩ g5
   clear k5 g5 HK HRow HG HP HPL HPB HKD HTD HRL HRW HN1
   by_cases hc : R = 64
   ·
    subst hc
    go_wp2
    go_roundw
    case rel => exact ⟨q + 1, _, 0, by have := HR.out; omega, rfl, (fun e => by omega), K5.out, R5.out, G5.out⟩
    case measure => simp [lenOf]
   ·
    go_wp2
    go_roundw
    case rel => exact ⟨q + 1, _, R - 64, by have := HR.out; omega, rfl, (fun _ => by omega), K5.out, R5.out, G5.out⟩
    case measure => simp [lenOf]; omega
  ·
   have hq : L / 64 = q := by have := HR.out; omega
   have HQ : Hid ((held ++ b).length / 64 = q) := by show _ = _; rw [HXX.out, HL.out]; exact hq
   have c9 := sum_at9 HK.out (run_length h x q HH.out)
   have HRL : Hid ((run h x q).length = 8) := run_length h x q HH.out
   have c8 := sum_at8 HK.out HRL.out
   have f8 := HK.out.frozen 8
   have f9 := HK.out.frozen 9
   have m10 : ∀ l : List Value, l.length = 10 → l.length ≤ maxLen := by intro l e; rw [e]; simp [maxLen]
   have K6 : Hid (Blk (wr.setCell ⟨g, 8, none⟩ (.slice (some ⟨ga, off, none⟩) R R)) g 113 (sumCells (run h x q) (some ⟨ga, off, none⟩) R R n)) := by
    have := HK.out.set 8 (.slice (some ⟨ga, off, none⟩) R R) (m10 _ (sum_len _ _ _ _ _ HRL.out))
    rw [sum_held _ _ _ _ _ _ _ _ HRL.out] at this
    exact this
   have K7 : Hid (Blk ((wr.setCell ⟨g, 8, none⟩ (.slice (some ⟨ga, off, none⟩) R R)).setCell ⟨g, 9, none⟩ (.int .i64 (n + nb))) g 113 (sumCells (run h x q) (some ⟨ga, off, none⟩) R R (n + nb))) := by
    have := K6.out.set 9 (.int .i64 (n + nb)) (m10 _ (sum_len _ _ _ _ _ HRL.out))
    rw [sum_n _ _ _ _ _ _ HRL.out] at this
    exact this
   have G7 : Hid (w.grownBy ((wr.setCell ⟨g, 8, none⟩ (.slice (some ⟨ga, off, none⟩) R R)).setCell ⟨g, 9, none⟩ (.int .i64 (n + nb))) (some g)) :=
    grown_store (grown_store HG.out HK.out (m10 _ (sum_len _ _ _ _ _ HRL.out)) 8 _) K6.out (m10 _ (sum_len _ _ _ _ _ HRL.out)) 9 _
   have R7 : Hid (Row ((wr.setCell ⟨g, 8, none⟩ (.slice (some ⟨ga, off, none⟩) R R)).setCell ⟨g, 9, none⟩ (.int .i64 (n + nb))) ga L x) :=
    (HRow.out.keep (Below.heap_setCell _ _ _ _ HNE.out)).keep (Below.heap_setCell _ _ _ _ HNE.out)
   have HD : Hid (x.drop (64 * q) = piece x (64 * q) R) := by
    show _ = _
    unfold piece
    rw [List.take_of_length_le (by rw [List.length_drop, HL.out]; have := HR.out; omega)]
   have X7 : Hid (Rd ((wr.setCell ⟨g, 8, none⟩ (.slice (some ⟨ga, off, none⟩) R R)).setCell ⟨g, 9, none⟩ (.int .i64 (n + nb))) (some ⟨ga, off, none⟩) (x.drop (64 * q))) := by
    show Rd _ _ _
    rw [HD.out]
    by_cases h0 : 0 < R
    ·
     have e := hoff h0
     have := rd_piece R7.out.rd off R (by rw [HL.out, e]; have := HR.out; omega)
     rw [Nat.zero_add] at this
     rw [← e]
     exact this
    ·
     obtain rfl : R = 0 := by omega
     intro i hi
     simp [piece] at hi
   have HDL : Hid (R = (x.drop (64 * q)).length) := by show _ = _; rw [List.length_drop, HL.out]; have := HR.out; omega
   clear HK HRow HG K6 R7 hq m10 hoff
   go_wp2
   go_end0
   exact ⟨some ⟨ga, off, none⟩, R, R, rfl, by rw [HQ.out, HXX.out]; exact K7.out, by rw [HQ.out, HXX.out]; exact HDL.out, by rw [HQ.out, HXX.out]; exact X7.out, (fun e => by cases e), G7.out⟩
end Go.Proofs.YtpenhliaelhnoaaGreatDoor.Adds

namespace Go.Proofs.YtpenhliaelhnoaaGreatDoor.Ends
open Go.RowKit Mem MemI Blk App Get ShaP Word Bits Sched Words WordsOf Comp CompS Go.Proofs.YtpenhliaelhnoaaGreatDoor.Start Cuts Pads Adds

theorem index8w (k : Nat) (hk : k < 8) (A B C D E F G H : Int) (w : World) :
  (Instr.index 111 (.agg #[.int .i64 A, .int .i64 B, .int .i64 C, .int .i64 D, .int .i64 E, .int .i64 F, .int .i64 G, .int .i64 H]) (.int .i64 (k : Int))).run Tryz.prog w = .ok (.int .i64 ([A, B, C, D, E, F, G, H].getD k 0)) w := by
 rcases (show k = 0 ∨ k = 1 ∨ k = 2 ∨ k = 3 ∨ k = 4 ∨ k = 5 ∨ k = 6 ∨ k = 7 by omega) with rfl | rfl | rfl | rfl | rfl | rfl | rfl | rfl <;> kernel_rfl
theorem grown_on {w a b : World} {g gg : Nat} (h : w.grownBy a (some g)) (k : a.grownBy b (some gg)) (hg : w.heap.size ≤ gg) : w.grownBy b (some g) :=
 ⟨k.os.trans h.os, k.tape.trans h.tape, k.output.trans h.output, Nat.le_trans h.size k.size, fun i hi hne => (k.block i (Nat.lt_of_lt_of_le hi h.size) (by simp; omega)).trans (h.block i hi hne)⟩
theorem grown_below {w a b : World} {g : Nat} (h : w.grownBy a (some g)) {B : Nat} (k : Below B a b) (hB : w.heap.size ≤ B) : w.grownBy b (some g) :=
 ⟨k.os.trans h.os, k.tape.trans h.tape, k.output.trans h.output, Nat.le_trans h.size k.size, fun i hi hne => (k.block i (Nat.lt_of_lt_of_le hi hB)).trans (h.block i hi hne)⟩
theorem padI_nat (N : Nat) (h : N ≤ 1048576) : padI (N : Int) = padOf N := by unfold padI; rw [if_pos (by omega), Int.toNat_natCast]
theorem padI_bytes (n : Int) : Bytes (padI n) := by
 unfold padI; split
 ·
  intro z hz
  simp only [padOf, List.mem_cons, List.mem_append, List.mem_replicate] at hz
  rcases hz with rfl | ⟨_, rfl⟩ | hz
  ·
   omega
  ·
   omega
  ·
   exact num_bytes _ _ z hz
 ·
  intro z hz; cases hz

set_option maxHeartbeats 4000000 in
theorem endSum (g : Nat) (h : List Int) (ao : Option Addr) (m c N : Nat) (held : List Int) (w : World)
  (hB : Blk w g 113 (sumCells h ao m c N)) (hg : 0 < g) (hh : h.length = 8) (hw : Wds h) (hT : Tab w) (hm : m = held.length) (hx : Rd w ao held) (nx : ao = none → c = 0) (hxb : Bytes held) (hml : m ≤ 2097152) (hN : N ≤ 1048576) :
  Calls Tryz.prog 98 #[.pointer (some ⟨g, 0, none⟩)] w fun e w' =>
   ∃ g' c', e = .returned (.slice (some ⟨g', 0, none⟩) 32 c') ∧ w.heap.size ≤ g' ∧ Row w' g' c' (endOf h held N) ∧ w.grownBy w' (some g) := by
 have HB := hid (hB)
 have HH : Hid (h.length = 8) := hh
 have HW : Hid (Wds h) := hw
 have HT := hid (hT)
 have HX := hid (hx)
 have HM : Hid (m = held.length) := hm
 have HXB := hid (hxb)
 have HGL : Hid (g < w.heap.size) := hB.lt
 have c9 := sum_at9 hB hh
 clear hB hh hw hT hx hm hxb
 go_enter Tryz.func98, Tryz.ntmps98
 go_wp2_with fail
 refine (implPad (N : Int) w).mono ?_
 rintro e w1 ⟨gp, mp, cp, rfl, e1, k1, r1, b1⟩
 have HPL : Hid ((padI (N : Int)).length ≤ 72) := padI_length _
 have R1 := hid (r1)
 have B1 := hid (b1)
 have E1 : Hid (mp = (padI (N : Int)).length) := e1
 have hmp : mp ≤ 72 := by rw [e1]; exact HPL.out
 clear r1 b1 e1 k1 c9
 go_wp2_with fail
 refine (add g h ao m c N held (some ⟨gp, 0, none⟩) mp cp (padI (N : Int)) w1 (HB.out.later B1.out) hg HH.out HW.out (HT.out.later B1.out) HM.out (HX.out.later B1.out (Nat.le_refl _)) nx HXB.out hml E1.out R1.out.rd (by intro e; cases e) (padI_bytes _) (by omega) (by omega) (by omega)).mono ?_
 rintro e w2 ⟨a2, m2, c2, rfl, k2, _, _, _, g2⟩
 obtain ⟨hf, hhf⟩ : ∃ hf, run h (held ++ padI (N : Int)) ((held ++ padI (N : Int)).length / 64) = hf := ⟨_, rfl⟩
 have HF : Hid (hf.length = 8) := by rw [← hhf]; exact run_length _ _ _ HH.out
 have HE : Hid (endOf h held N = outB hf) := by
  show _ = _
  unfold endOf
  rw [← padI_nat N hN, hhf]
 rw [hhf] at k2
 have K2 := hid (k2)
 have G2 : Hid (w.grownBy w2 (some g)) := grown_trans (grown_of_below B1.out g) g2
 clear k2 g2 hhf
 obtain ⟨i0, hi, hz0, hz1, hz2⟩ := info_parts info8
 obtain ⟨y0, y1, y2, y3, y4, y5, y6, y7, e8⟩ : ∃ y0 y1 y2 y3 y4 y5 y6 y7, hf = [y0, y1, y2, y3, y4, y5, y6, y7] := by
  match hf, HF.out with
  | [y0, y1, y2, y3, y4, y5, y6, y7], _ => exact ⟨_, _, _, _, _, _, _, _, rfl⟩
 have E8 : Hid (hf = [y0, y1, y2, y3, y4, y5, y6, y7]) := e8
 have HCI : Hid (∀ w3, Below w2.heap.size w2 w3 → ∀ k v, (sumCells [y0, y1, y2, y3, y4, y5, y6, y7] a2 m2 c2 (N + mp))[k]? = some v → w3.cell? ⟨g, k, none⟩ = some v) := by
  intro w3 hb k v hv
  rw [← e8] at hv
  exact (K2.out.later hb).cell k hv
 clear e8
 go_wp2_with (first | (at_make; refine wpList_make_own _ rfl _ _ 22 rfl w.heap.size 5 i0 (.int .u8 0) 1 Tryz.underlying22 hi hz0 hz1 _ _ _ 32 rfl rfl rfl (by rw [hz2]; omega) (by unfold maxLen; omega) G2.out.size ?_; intro w3 hown hgr; have B3 : Hid (Below w2.heap.size w2 w3) := (Below.refl _ _).grown hgr (Nat.le_refl _) (fun k h => by cases h); have R3 : Hid (Row w3 w2.heap.size 32 []) := (Row.of (l := []) hown).1; have t0 := HCI.out w3 B3.out 0 _ rfl; have t1 := HCI.out w3 B3.out 1 _ rfl; have t2 := HCI.out w3 B3.out 2 _ rfl; have t3 := HCI.out w3 B3.out 3 _ rfl; have t4 := HCI.out w3 B3.out 4 _ rfl; have t5 := HCI.out w3 B3.out 5 _ rfl; have t6 := HCI.out w3 B3.out 6 _ rfl; have t7 := HCI.out w3 B3.out 7 _ rfl; clear hown hgr))
 have G3 : Hid (w.grownBy w3 (some g)) := grown_below G2.out B3.out G2.out.size
 have S2 := hid (G2.out.size)
 clear t0 t1 t2 t3 t4 t5 t6 t7 B3 HCI
 obtain ⟨ys, hys⟩ : ∃ ys, ys = [y0, y1, y2, y3, y4, y5, y6, y7] := ⟨_, rfl⟩
 have HYS : Hid (ys = [y0, y1, y2, y3, y4, y5, y6, y7]) := hys
 have HYL : Hid (ys.length = 8) := by rw [hys]; rfl
 clear hys
 go_loopw [3, 18] (fun v i wr => ∃ k gg cc : Nat, k ≤ 8 ∧ i = .int .i64 k ∧ v = .slice (some ⟨gg, 0, none⟩) (4 * k) cc ∧ w.heap.size ≤ gg ∧ Row wr gg cc (outB (ys.take k)) ∧ w.grownBy wr (some g))
  (fun _ i _ => 8 - (intOf i).toNat)
 case atStart => exact ⟨0, w2.heap.size, 32, Nat.zero_le _, rfl, rfl, S2.out, R3.out, G3.out⟩
 case round =>
  obtain ⟨k, gg, cc, hk, rfl, rfl, hgg, hRow, hG⟩ := hrel
  have HRow := hid (hRow)
  have HG : Hid (w.grownBy wr (some g)) := hG
  clear R3 G3 hRow hG
  by_cases hlt : k < 8
  ·
   have hag := index8w k hlt y0 y1 y2 y3 y4 y5 y6 y7
   rw [← HYS.out] at hag
   have HT1 : Hid (outB (ys.take (k + 1)) = outB (ys.take k) ++ num (ys.getD k 0) 4) := by
    show _ = _
    rw [List.take_succ_eq_append_getElem (by rw [HYL.out]; exact hlt), outB_snoc]
    simp [List.getD, HYL.out, hlt]
   have HOL : Hid (4 * k = (outB (ys.take k)).length) := by show _ = _; rw [outB_length, List.length_take, HYL.out]; omega
   generalize ys.getD k 0 = z at *
   have HN4 : Hid ((num z 4).length = 4) := num_length z 4
   go_wp2_with fail
   refine (highestFirst z 4 wr (by omega) (by omega)).mono ?_
   rintro e w5 ⟨rfl, r5, b5⟩
   have R5 := hid (r5)
   have B5 := hid (b5)
   have G5 : Hid (w.grownBy w5 (some g)) := grown_below HG.out b5 HG.out.size
   have RO5 := hid (HRow.out.later b5)
   clear r5 b5
   go_wp2_with (at_builtin; refine wpList_app _ rfl (.tmp 21) (.tmp 23) rfl w.heap.size gg (4 * k) cc (outB (ys.take k)) (num z 4) rfl HOL.out RO5.out hgg (some ⟨wr.heap.size, 0, none⟩) 4 4 rfl HN4.out.symm R5.out.rd (by intro h; cases h) (by rw [← HOL.out, HN4.out]; omega) ?_; intro g2 c2' w6 r2 b2 l2 gr2; have R6 := hid (r2); have G6 : Hid (w.grownBy w6 (some g)) := grown_on G5.out gr2 hgg; clear r2 gr2 l2)
   go_roundw
   case rel => exact ⟨k + 1, g2, c2', by omega, by go_num, rfl, b2, by rw [HT1.out]; exact R6.out, G6.out⟩
   case measure => simp [intOf]; omega
  ·
   obtain rfl : k = 8 := by omega
   have HT8 : Hid (endOf h held N = outB (ys.take 8)) := by
    show _ = _
    rw [HE.out, E8.out, ← HYS.out, List.take_of_length_le (by rw [HYL.out]; exact Nat.le_refl _)]
   go_wp2
   go_ret
   exact ⟨gg, cc, rfl, hgg, by rw [HT8.out]; exact HRow.out, HG.out⟩

def shaI (b : List Int) : List Int := if b.length ≤ 1048576 then shaOf b else []
theorem endOf_length (h held : List Int) (n : Nat) (hh : h.length = 8) : (endOf h held n).length = 32 := by
 unfold endOf; rw [outB_length, run_length _ _ _ hh]

theorem shaI_length (b : List Int) : (shaI b).length ≤ 1048576 := by
 unfold shaI; split
 ·
  unfold shaOf; rw [endOf_length _ _ _ rfl]; omega
 ·
  simp
theorem drop_len (l : List Int) : (l.drop (64 * (l.length / 64))).length = l.length % 64 := by rw [List.length_drop]; omega
theorem run_end (h x p : List Int) : run (run h x (x.length / 64)) (x.drop (64 * (x.length / 64)) ++ p) ((x.drop (64 * (x.length / 64)) ++ p).length / 64) = run h (x ++ p) ((x ++ p).length / 64) := by
 rw [run_parts h x p _ _ (by omega)]
 congr 1
 rw [List.length_append, drop_len, List.length_append]
 omega
theorem end_rest (h x : List Int) (n : Nat) : endOf (run h x (x.length / 64)) (x.drop (64 * (x.length / 64))) n = outB (run h (x ++ padOf n) ((x ++ padOf n).length / 64)) := by
 unfold endOf; rw [run_end]

set_option maxHeartbeats 4000000 in
theorem implSha (a : Option Addr) (n cap : Nat) (b : List Int) (w : World) (hT : Tab w) (hn : n = b.length) (hr : Rd w a b) (na : a = none → cap = 0) (hb : Bytes b) (hl : n ≤ 2097152) :
  Calls Tryz.prog 87 #[.slice a n cap] w fun e w' =>
   ∃ g m c, e = .returned (.slice (some ⟨g, 0, none⟩) m c) ∧ m = (shaI b).length ∧ w.heap.size ≤ g ∧ Row w' g c (shaI b) ∧ Below w.heap.size w w' := by
 have HT := hid (hT)
 have HN : Hid (n = b.length) := hn
 have HR := hid (hr)
 have HB := hid (hb)
 clear hT hn hr hb
 by_cases h1 : n ≤ 1048576
 ·
  have HS : Hid (shaI b = shaOf b) := by show _ = _; unfold shaI; rw [if_pos (by rw [← HN.out]; exact h1)]
  have hl1 : isLen (n : Int) = true := isLen_yes ⟨by omega, by omega⟩
  go_enter Tryz.func87, Tryz.ntmps87
  go_wp2_with fail
  refine (isShaLength _ _).mono ?_
  rintro e w1 ⟨rfl, rfl⟩
  go_wp2_with fail
  refine (newSum w).mono ?_
  rintro e w1 ⟨rfl, k1, b1⟩
  have K1 := hid (k1)
  have B1 := hid (b1)
  have HG : Hid (0 < w.heap.size) := HT.out.1
  clear k1 b1
  go_wp2_with fail
  refine (add w.heap.size start8 none 0 0 0 [] a n cap b w1 K1.out HG.out rfl start8_wds (HT.out.later B1.out) rfl (by intro i hi; cases hi) (fun _ => rfl) (by intro z hz; cases hz) (by omega) HN.out (HR.out.later B1.out (Nat.le_refl _)) na HB.out hl (by omega) (by omega)).mono ?_
  rintro e w2 ⟨a2, m2, c2, rfl, k2, e2, x2, n2, g2⟩
  rw [List.nil_append] at k2 e2 x2
  rw [Int.zero_add] at k2
  have K2 := hid (k2)
  have X2 := hid (x2)
  have E2 : Hid (m2 = (b.drop (64 * (b.length / 64))).length) := e2
  have B2 : Hid (Below w.heap.size w w2) := B1.out.grown g2 B1.out.size (fun k h => by cases h; exact Nat.le_refl _)
  have hm2 : m2 ≤ 64 := by rw [e2, drop_len]; omega
  have T2 := hid (HT.out.later B2.out)
  have D2 : Hid (Bytes (b.drop (64 * (b.length / 64)))) := fun z hz => HB.out z (List.mem_of_mem_drop hz)
  clear k2 x2 e2 g2
  go_wp2_with fail
  refine (endSum w.heap.size _ a2 m2 c2 n _ w2 K2.out HG.out (run_length _ _ _ rfl) (run_wds _ _ _ start8_wds) T2.out E2.out X2.out n2 D2.out (by omega) h1).mono ?_
  rintro e w3 ⟨g3, c3, rfl, k3, r3, gr3⟩
  have HE : Hid (shaI b = endOf (run start8 b (b.length / 64)) (b.drop (64 * (b.length / 64))) n) := by
   show _ = _
   rw [HS.out, end_rest, HN.out]; rfl
  have HE2 : Hid ((shaI b).length = 32) := by show _ = _; rw [HE.out, endOf_length _ _ _ (run_length _ _ _ rfl)]
  have K3 : Hid (w.heap.size ≤ g3) := Nat.le_trans B2.out.size k3
  have R3 : Hid (Row w3 g3 c3 (shaI b)) := by show Row _ _ _ _; rw [HE.out]; exact r3
  have B3 : Hid (Below w.heap.size w w3) := B2.out.grown gr3 B2.out.size (fun k h => by cases h; exact Nat.le_refl _)
  clear r3 gr3 k3
  go_wp2
  go_ret
  exact ⟨g3, 32, c3, rfl, HE2.out.symm, K3.out, R3.out, B3.out⟩
 ·
  have HS : Hid (shaI b = []) := by show _ = _; unfold shaI; rw [if_neg (by rw [← HN.out]; exact h1)]
  have hl1 : isLen (n : Int) = false := isLen_no (by omega)
  clear h1
  go_enter Tryz.func87, Tryz.ntmps87
  go_wp2_with fail
  refine (isShaLength _ _).mono ?_
  rintro e w1 ⟨rfl, rfl⟩
  go_wp2
  go_ret
  exact ⟨w.heap.size, 0, 0, by simp, by rw [HS.out]; rfl, Nat.le_refl _, by rw [HS.out]; exact row_new w [] (by simp), (Below.refl _ _).alloc (Nat.le_refl _) _⟩
end Go.Proofs.YtpenhliaelhnoaaGreatDoor.Ends

namespace Go.Proofs.YtpenhliaelhnoaaGreatDoor.DiffP
open Go.RowKit Mem

theorem xor_byte (a b : Int) (h1 : 0 ≤ a) (h2 : a ≤ 255) (h3 : 0 ≤ b) (h4 : b ≤ 255) : 0 ≤ bits .xor .u8 a b ∧ bits .xor .u8 a b ≤ 255 := by
 rw [u8_xor a b h1 (by omega) h3 (by omega)]
 have : a.toNat ^^^ b.toNat < 2 ^ 8 := Nat.xor_lt_two_pow (by omega) (by omega)
 omega
def diffN (a b : List Int) : Nat → Int
 | 0 => 0
 | n + 1 => bits .or .u8 (diffN a b n) (bits .xor .u8 (a.getD n 0) (b.getD n 0))
def diffI (a b : List Int) : Int := if a.length = b.length then diffN a b a.length else -1

theorem diffN_bd (a b : List Int) (ha : Bytes a) (hb : Bytes b) (n : Nat) : 0 ≤ diffN a b n ∧ diffN a b n ≤ 255 := by
 induction n with
 | zero => simp [diffN]
 | succ n ih =>
  have hx := xor_byte (a.getD n 0) (b.getD n 0) (ha.at n).1 (ha.at n).2 (hb.at n).1 (hb.at n).2
  unfold diffN
  rw [u8_or _ _ ih.1 (by omega) hx.1 (by omega)]
  have : (diffN a b n).toNat ||| (bits .xor .u8 (a.getD n 0) (b.getD n 0)).toNat < 2 ^ 8 := Nat.or_lt_two_pow (by omega) (by omega)
  omega
theorem or_wide (x y : Int) (h1 : 0 ≤ x) (h2 : x ≤ 255) (h3 : 0 ≤ y) (h4 : y ≤ 255) : bits .or .i64 x y = bits .or .u8 x y := by
 rw [u8_or x y h1 (by omega) h3 (by omega)]
 have := Bits.or_i64 x.toNat y.toNat (by omega) (by omega)
 rw [Int.toNat_of_nonneg h1, Int.toNat_of_nonneg h3] at this
 exact this
theorem xor_zero_iff (a b : Int) (h1 : 0 ≤ a) (h2 : a ≤ 255) (h3 : 0 ≤ b) (h4 : b ≤ 255) : bits .xor .u8 a b = 0 ↔ a = b := by
 rw [u8_xor a b h1 (by omega) h3 (by omega)]
 constructor
 ·
  intro h
  have : a.toNat ^^^ b.toNat = 0 := by omega
  have h2 := congrArg (fun x => a.toNat ^^^ x) this
  simp only [← Nat.xor_assoc, Nat.xor_self, Nat.zero_xor, Nat.xor_zero] at h2
  omega
 ·
  rintro rfl; simp
theorem or_zero_iff (a b : Int) (h1 : 0 ≤ a) (h2 : a ≤ 255) (h3 : 0 ≤ b) (h4 : b ≤ 255) : bits .or .u8 a b = 0 ↔ a = 0 ∧ b = 0 := by
 rw [u8_or a b h1 (by omega) h3 (by omega)]
 constructor
 ·
  intro h
  have : a.toNat ||| b.toNat = 0 := by omega
  rw [Nat.or_eq_zero_iff] at this
  omega
 ·
  rintro ⟨rfl, rfl⟩; simp
theorem diffN_zero (a b : List Int) (ha : Bytes a) (hb : Bytes b) (n : Nat) : diffN a b n = 0 ↔ ∀ i, i < n → a.getD i 0 = b.getD i 0 := by
 induction n with
 | zero => simp [diffN]
 | succ n ih =>
  have hx := xor_byte (a.getD n 0) (b.getD n 0) (ha.at n).1 (ha.at n).2 (hb.at n).1 (hb.at n).2
  have hd := diffN_bd a b ha hb n
  unfold diffN
  rw [or_zero_iff _ _ hd.1 hd.2 hx.1 hx.2, ih, xor_zero_iff _ _ (ha.at n).1 (ha.at n).2 (hb.at n).1 (hb.at n).2]
  constructor
  ·
   rintro ⟨h, k⟩ i hi
   rcases Nat.lt_or_ge i n with h' | h'
   ·
    exact h i h'
   ·
    obtain rfl : i = n := by omega
    exact k
  ·
   intro h; exact ⟨fun i hi => h i (by omega), h n (by omega)⟩
theorem list_eq_of {a b : List Int} (hl : a.length = b.length) (h : ∀ i, i < a.length → a.getD i 0 = b.getD i 0) : a = b := by
 apply List.ext_getElem hl
 intro i h1 h2
 have := h i h1
 simpa [List.getD, h1, h2] using this
theorem diffI_zero (a b : List Int) (ha : Bytes a) (hb : Bytes b) : diffI a b = 0 ↔ a = b := by
 unfold diffI
 by_cases h : a.length = b.length
 ·
  rw [if_pos h, diffN_zero a b ha hb]
  exact ⟨fun k => list_eq_of h k, fun k i _ => by rw [k]⟩
 ·
  rw [if_neg h]
  exact ⟨fun k => by omega, fun k => absurd (by rw [k]) h⟩
def sameI (a b : List Int) : Bool := decide (a.length = 16 ∧ diffI a b = 0)
end Go.Proofs.YtpenhliaelhnoaaGreatDoor.DiffP

namespace Go.Proofs.YtpenhliaelhnoaaGreatDoor.MacP
open Go.RowKit Mem App ShaP Ends DiffP

def short (k : List Int) : List Int := if k.length ≤ 64 then k else shaI k
def keyI (k : List Int) : List Int := if k.length ≤ 1048576 then short k ++ List.replicate (64 - (short k).length) 0 else []
def mix (p : Int) (l : List Int) : List Int := l.map fun z => bits .xor .u8 z p
def hmacI (k b : List Int) : List Int := if k.length ≤ 1048576 ∧ b.length ≤ 1048512 then shaI (mix 92 (keyI k) ++ shaI (mix 54 (keyI k) ++ b)) else []
def tagI (k b : List Int) : List Int := (hmacI k b).take 16

theorem outB_len32 (h : List Int) (hh : h.length = 8) : (outB h).length = 32 := by rw [outB_length, hh]
theorem shaI_len (b : List Int) (h : b.length ≤ 1048576) : (shaI b).length = 32 := by
 unfold shaI; rw [if_pos h]
 exact outB_len32 _ (run_length _ _ _ rfl)
theorem short_len (k : List Int) (h : k.length ≤ 1048576) : (short k).length ≤ 64 := by
 unfold short; split
 ·
  assumption
 ·
  rw [shaI_len k h]; omega
theorem keyI_len (k : List Int) (h : k.length ≤ 1048576) : (keyI k).length = 64 := by
 have := short_len k h
 unfold keyI; rw [if_pos h]; simp; omega
theorem keyI_none (k : List Int) (h : ¬ k.length ≤ 1048576) : keyI k = [] := by unfold keyI; rw [if_neg h]
theorem mix_length (p : Int) (l : List Int) : (mix p l).length = l.length := by simp [mix]
theorem mix_bytes (p : Int) (l : List Int) (hl : Bytes l) (h3 : 0 ≤ p) (h4 : p ≤ 255) : Bytes (mix p l) := by
 intro z hz
 simp only [mix, List.mem_map] at hz
 obtain ⟨y, hy, rfl⟩ := hz
 exact xor_byte y p (hl y hy).1 (hl y hy).2 h3 h4
theorem outB_bytes (h : List Int) : Bytes (outB h) := by
 induction h with
 | nil => intro z hz; cases hz
 | cons x r ih =>
  intro z hz
  rcases List.mem_append.1 hz with h | h
  ·
   exact num_bytes x 4 z h
  ·
   exact ih z h
theorem shaI_bytes (b : List Int) : Bytes (shaI b) := by
 unfold shaI; split
 ·
  exact outB_bytes _
 ·
  intro z hz; cases hz
theorem short_bytes (k : List Int) (h : Bytes k) : Bytes (short k) := by
 unfold short; split
 ·
  exact h
 ·
  exact shaI_bytes k
theorem bytes_append {a b : List Int} (ha : Bytes a) (hb : Bytes b) : Bytes (a ++ b) := by
 intro z hz
 rcases List.mem_append.1 hz with h | h
 ·
  exact ha z h
 ·
  exact hb z h
theorem bytes_zeros (n : Nat) : Bytes (List.replicate n 0) := by
 intro z hz; rw [List.mem_replicate] at hz; omega
theorem keyI_bytes (k : List Int) (h : Bytes k) : Bytes (keyI k) := by
 unfold keyI; split
 ·
  exact bytes_append (short_bytes k h) (bytes_zeros _)
 ·
  intro z hz; cases hz
theorem hmacI_len (k b : List Int) (h1 : k.length ≤ 1048576) (h2 : b.length ≤ 1048512) : (hmacI k b).length = 32 := by
 unfold hmacI; rw [if_pos ⟨h1, h2⟩]
 apply shaI_len
 have := shaI_length
 rw [List.length_append, mix_length, keyI_len k h1, shaI_len _ (by rw [List.length_append, mix_length, keyI_len k h1]; omega)]; omega
theorem hmacI_none (k b : List Int) (h : ¬ (k.length ≤ 1048576 ∧ b.length ≤ 1048512)) : hmacI k b = [] := by unfold hmacI; rw [if_neg h]
theorem hmacI_bytes (k b : List Int) : Bytes (hmacI k b) := by
 unfold hmacI; split
 ·
  exact shaI_bytes _
 ·
  intro z hz; cases hz
theorem hmacI_le (k b : List Int) : (hmacI k b).length ≤ 32 := by
 by_cases h : k.length ≤ 1048576 ∧ b.length ≤ 1048512
 ·
  rw [hmacI_len k b h.1 h.2]; exact Nat.le_refl _
 ·
  rw [hmacI_none k b h]; simp
theorem tagI_len (k b : List Int) (h1 : k.length ≤ 1048576) (h2 : b.length ≤ 1048512) : (tagI k b).length = 16 := by
 unfold tagI; rw [List.length_take, hmacI_len k b h1 h2]; rfl
theorem tagI_le (k b : List Int) : (tagI k b).length ≤ 16 := by unfold tagI; rw [List.length_take]; omega
theorem tagI_bytes (k b : List Int) : Bytes (tagI k b) := fun z hz => hmacI_bytes k b z (List.mem_of_mem_take hz)

end Go.Proofs.YtpenhliaelhnoaaGreatDoor.MacP

namespace Go.Proofs.YtpenhliaelhnoaaGreatDoor.KdfP
open Go.RowKit Mem App ShaP Ends DiffP MacP

def blk (k f : List Int) : Nat → List Int
 | 0 => []
 | i + 1 => hmacI k (blk k f i ++ f ++ [((i + 1 : Nat) : Int) % 256])
def blks (k f : List Int) : Nat → List Int
 | 0 => []
 | i + 1 => blks k f i ++ blk k f (i + 1)
def mayExp (k f : List Int) (n : Int) : Bool := decide (0 ≤ n ∧ n ≤ 8160 ∧ f.length ≤ 100 ∧ k.length ≤ 1048576)
theorem mayExp_iff (k f : List Int) (n : Int) : mayExp k f n = true ↔ 0 ≤ n ∧ n ≤ 8160 ∧ f.length ≤ 100 ∧ k.length ≤ 1048576 := by simp [mayExp]
def expI (k f : List Int) (n : Int) : List Int := if mayExp k f n = true then (blks k f ((n.toNat + 31) / 32)).take n.toNat else []
def derI (k f : List Int) : List Int := expI k f 32
theorem blk_le (k f : List Int) (i : Nat) : (blk k f i).length ≤ 32 := by
 cases i with
 | zero => simp [blk]
 | succ i => unfold blk; exact hmacI_le _ _
theorem blk_len (k f : List Int) (hk : k.length ≤ 1048576) (hf : f.length ≤ 100) (i : Nat) : (blk k f (i + 1)).length = 32 := by
 unfold blk
 apply hmacI_len k _ hk
 have := blk_le k f i
 simp only [List.length_append, List.length_singleton]
 omega
theorem blk_bytes (k f : List Int) (i : Nat) : Bytes (blk k f i) := by
 cases i with
 | zero => intro z hz; cases hz
 | succ i => unfold blk; exact hmacI_bytes _ _
theorem blks_len (k f : List Int) (hk : k.length ≤ 1048576) (hf : f.length ≤ 100) (i : Nat) : (blks k f i).length = 32 * i := by
 induction i with
 | zero => rfl
 | succ i ih => unfold blks; rw [List.length_append, ih, blk_len k f hk hf]; omega
theorem blks_bytes (k f : List Int) (i : Nat) : Bytes (blks k f i) := by
 induction i with
 | zero => intro z hz; cases hz
 | succ i ih => unfold blks; exact bytes_append ih (blk_bytes k f (i + 1))
theorem expI_no (k f : List Int) (n : Int) (h : mayExp k f n = false) : expI k f n = [] := by unfold expI; rw [if_neg (by rw [h]; simp)]
theorem expI_yes (k f : List Int) (n : Int) (h : mayExp k f n = true) : expI k f n = (blks k f ((n.toNat + 31) / 32)).take n.toNat := by unfold expI; rw [if_pos h]
theorem expI_len (k f : List Int) (n : Nat) (h : mayExp k f (n : Int) = true) : (expI k f (n : Int)).length = n := by
 obtain ⟨h0, h1, h2, h3⟩ := (mayExp_iff k f n).1 h
 rw [expI_yes k f _ h, List.length_take, blks_len k f h3 h2, Int.toNat_natCast]
 omega
theorem expI_bytes (k f : List Int) (n : Int) : Bytes (expI k f n) := by
 unfold expI; split
 ·
  intro z hz; exact blks_bytes k f _ z (List.mem_of_mem_take hz)
 ·
  intro z hz; cases hz
theorem derI_bytes (k f : List Int) : Bytes (derI k f) := expI_bytes k f 32
end Go.Proofs.YtpenhliaelhnoaaGreatDoor.KdfP

namespace Go.Proofs.YtpenhliaelhnoaaGreatDoor.Str
open Go.RowKit Mem

def bs (s : ByteArray) : List Int := s.data.toList.map fun b => (b.toNat : Int)
theorem bs_length (s : ByteArray) : (bs s).length = s.size := by
 unfold bs; rw [List.length_map, Array.length_toList]; rfl
theorem bs_getD (s : ByteArray) (k : Nat) (h : k < s.size) : (bs s).getD k 0 = ((s[k]'h).toNat : Int) := by
 have h' : k < s.data.size := h
 simp only [bs, List.getD, List.getElem?_map, Array.getElem?_toList, Array.getElem?_eq_getElem h', Option.map_some, Option.getD_some]
 rfl
theorem bs_bytes (s : ByteArray) : Bytes (bs s) := by
 intro z hz
 simp only [bs, List.mem_map] at hz
 obtain ⟨b, _, rfl⟩ := hz
 have := b.toNat_lt
 omega
theorem bytes_made (w : World) (s : ByteArray) :
  ∃ W c, (convert 9 22 (.string s)).run Tryz.prog w = .ok (.slice (some ⟨w.heap.size, 0, none⟩) s.size c) W ∧ Rd W (some ⟨w.heap.size, 0, none⟩) (bs s) ∧ Below w.heap.size w W := by
 refine ⟨_, _, run_bytes_of_string w 9 22 5 s Tryz.underlying9 Tryz.underlying22 Tryz.underlying5, ?_, ?_⟩
 ·
  intro i hi
  rw [bs_length] at hi
  refine ⟨w.heap.size, 0, rfl, by simp, ?_⟩
  rw [Nat.zero_add, cell_of_row _ w.heap.size i _ _ _ (heap_alloc_new w.drew _), bytesRow_at s _ i hi, bs_getD s i hi]
  rfl
 ·
  exact (Below.refl w.heap.size w).trans (((Below.refl w.heap.size w).drew).alloc (Nat.le_refl _) _)
end Go.Proofs.YtpenhliaelhnoaaGreatDoor.Str

namespace Go.Proofs.YtpenhliaelhnoaaGreatDoor.KeQ
open Go.RowKit Mem App Words Str KeP MacP KdfP

def roamB : ByteArray := ⟨#[114, 111, 97, 109]⟩
def finishB : ByteArray := ⟨#[102, 105, 110, 105, 115, 104]⟩
theorem bs_roam : bs roamB = [114, 111, 97, 109] := rfl
def finK (psk : List Int) : List Int := if pskOk psk.length = true then derI (hmacI (bs roamB) psk) (bs finishB) else []
theorem finK_yes {psk : List Int} (h : pskOk psk.length = true) : finK psk = derI (hmacI (bs roamB) psk) (bs finishB) := if_pos h
theorem finK_no {psk : List Int} (h : pskOk psk.length = false) : finK psk = [] := if_neg (by rw [h]; decide)
theorem der_len {k f : List Int} (hk : k.length = 32) (hf : f.length ≤ 100) : (derI k f).length = 32 :=
 expI_len k f 32 ((mayExp_iff _ _ _).2 ⟨by decide, by decide, hf, by omega⟩)
theorem finK_len {psk : List Int} (h : pskOk psk.length = true) : (finK psk).length = 32 := by
 rw [finK_yes h]
 refine der_len (hmacI_len _ _ (by rw [bs_roam]; simp) (by have := pskOk_iff.1 h; omega)) (by rw [bs_length]; decide)
def proofB (psk : Nat) (id : Int) (cn sn : Nat) (tick : Int) (ck : Nat) : Bool := pskOk psk && proofF id cn sn tick ck
def proofK (psk : List Int) (id : Int) (cn sn : List Int) (tick : Int) (ck : List Int) : List Int := if proofB psk.length id cn.length sn.length tick ck.length = true then tagI (finK psk) (proofL id cn sn tick ck) else []
theorem proofK_yes {psk : List Int} {id : Int} {cn sn : List Int} {tick : Int} {ck : List Int} (h : proofB psk.length id cn.length sn.length tick ck.length = true) : proofK psk id cn sn tick ck = tagI (finK psk) (proofL id cn sn tick ck) := if_pos h
theorem proofK_no {psk : List Int} {id : Int} {cn sn : List Int} {tick : Int} {ck : List Int} (h : proofB psk.length id cn.length sn.length tick ck.length = false) : proofK psk id cn sn tick ck = [] := if_neg (by rw [h]; decide)
theorem proofK_le (psk : List Int) (id : Int) (cn sn : List Int) (tick : Int) (ck : List Int) : (proofK psk id cn sn tick ck).length ≤ 16 := by
 unfold proofK; split
 ·
  exact tagI_le _ _
 ·
  simp
theorem proofK_len {psk : List Int} {id : Int} {cn sn : List Int} {tick : Int} {ck : List Int} (h : proofB psk.length id cn.length sn.length tick ck.length = true) : (proofK psk id cn sn tick ck).length = 16 := by
 obtain ⟨h1, h2⟩ := Bool.and_eq_true_iff.1 h
 rw [proofK_yes h]; exact tagI_len _ _ (by rw [finK_len h1]; omega) (by rw [proofL_len h2]; omega)
end Go.Proofs.YtpenhliaelhnoaaGreatDoor.KeQ

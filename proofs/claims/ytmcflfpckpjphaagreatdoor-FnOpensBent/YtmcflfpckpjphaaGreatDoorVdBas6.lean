/-
  What impl's Compress answers at every slice of ints and every slice of bytes of at most 4,194,304 each, where the table of round words holds what the program's text lays into it: what spec's answers, in new memory.
  What impl's newSum and impl's and spec's Start answer: the eight words that a sum begins with, in new memory.
  What impl's add does to a sum behind a pointer, for every slice of bytes, where the table of round words holds what the program's text lays into it: the blocks are compressed, the rest is held.
  What impl's end and Sha answer, where the table of round words holds what the program's text lays into it: the sum's 32 bytes, in new memory.
  How two lists of bytes differ, as a plain function.
  Sums with a key as plain functions on lists of numbers.
  Keys of keys, and bytes that hide, as plain functions on lists of numbers.
  What is sealed, and opened, as plain functions.
  What an epoch seals, and opens, as plain functions.
  What impl's isEpoch and isKey answer.
  What impl's copyEp, EpNew, EpOk answer.
  What impl's Sealed answers.
  What impl lays as a head, and as what a tag is of.
  What impl's BlockKey, padMix, mixed, Hmac, Tag, Diff and SameTag answer, where the table of round words holds what the program's text lays into it.
  A range over a function that hands each round a value in new memory: each round is told what the iterator says of that value in the world where it is handed over (the library's contracts hand a round a value alone).
  What impl's BlockOf and canStream answer, and the iterator of a stream's blocks, where the table of round words holds what the program's text lays into it.
  Each.region_each inside a fence (a round of a range over a function among them): each operation is shown once.
  'append' of bytes to a row of the call's own: what it holds then, and where it lies: where it lay, or behind all that was there.
-/
import Derived.Test.YtmcflfpckpjphaaGreatDoorVdBas5
import Derived.Test.YtmcflfpckpjphaaGreatDoorVdCompS
import Derived.Test.YtmcflfpckpjphaaGreatDoorVdBas1
import Derived.Laws.BitsAllLaws
import Derived.Test.YtmcflfpckpjphaaGreatDoorVdBas3
import Derived.Test.YtmcflfpckpjphaaGreatDoorVdBas2
import Derived.Test.YtmcflfpckpjphaaGreatDoorVdFrW3
import Derived.Test.YtmcflfpckpjphaaGreatDoorVdFrQ2
import Derived.RangeFuncNested
import Derived.RangeFuncBound
import Derived.RangeFuncCalls
import Derived.RangeFuncLeaves
import Derived.Shelf.Abstract
import Derived.Shelf.RegionOpen
import Derived.WalkKit
import Derived.OwnWalkIn
import Derived.TacticsInMore
import Derived.LoopNIn
import Derived.LoopIn
import Derived.OrdersIn
import Derived.TacticsIn
import Derived.Maps.AppendAt
set_option linter.unusedVariables false

set_option maxRecDepth 100000
namespace Go.Proofs.YtmcflfpckpjphaaGreatDoor.Start
open Go.RowKit Mem MemI Blk App Get ShaP Word Bits Sched Words WordsOf

def sumCells (h : List Int) (a : Option Addr) (m c : Nat) (n : Int) : List Value := h.map (Value.int .i64) ++ [.slice a m c, .int .i64 n]

theorem newSum (w : World) :
  Calls Tryz.prog 148 #[] w fun e w' => e = .returned (.pointer (some ⟨w.heap.size, 0, none⟩)) ∧ Blk w' w.heap.size 191 (sumCells start8 none 0 0 0) ∧ Below w.heap.size w w' := by
 go_enter Tryz.func148, Tryz.ntmps148
 go_wp2
 go_ret
 exact ⟨rfl, Blk.new w 191 (sumCells start8 none 0 0 0), (Below.refl _ _).alloc (Nat.le_refl _) _⟩

theorem specStart (w : World) :
  Calls Tryz.prog 164 #[] w fun e w' => e = .returned (.slice (some ⟨w.heap.size, 0, none⟩) 8 8) ∧ IRow w' w.heap.size 8 start8 ∧ Below w.heap.size w w' := by
 go_enter Tryz.func164, Tryz.ntmps164
 go_wp2
 go_ret
 exact ⟨rfl, irow_new w start8 (by simp [maxLen, start8]), (Below.refl _ _).alloc (Nat.le_refl _) _⟩

end Go.Proofs.YtmcflfpckpjphaaGreatDoor.Start

namespace Go.Proofs.YtmcflfpckpjphaaGreatDoor.Adds
open Go.RowKit Mem MemI Blk App Get ShaP Word Bits Sched Words WordsOf Comp CompS Go.Proofs.YtmcflfpckpjphaaGreatDoor.Start Cuts Pads

theorem sum_held (h : List Int) (a : Option Addr) (m c : Nat) (n : Int) (a' : Option Addr) (m' c' : Nat) (hh : h.length = 8) : (sumCells h a m c n).set 8 (.slice a' m' c') = sumCells h a' m' c' n := by
 unfold sumCells
 rw [List.set_append, if_neg (by simp [hh]), List.length_map, hh]; rfl
theorem sum_n (h : List Int) (a : Option Addr) (m c : Nat) (n n' : Int) (hh : h.length = 8) : (sumCells h a m c n).set 9 (.int .i64 n') = sumCells h a m c n' := by
 unfold sumCells
 rw [List.set_append, if_neg (by simp [hh]), List.length_map, hh]; rfl
theorem sum_len (h : List Int) (a : Option Addr) (m c : Nat) (n : Int) (hh : h.length = 8) : (sumCells h a m c n).length = 10 := by simp [sumCells, hh]
theorem sum_at8 {w : World} {g : Nat} {t : TypeId} {h : List Int} {a : Option Addr} {m c : Nat} {n : Int} (hB : Blk w g t (sumCells h a m c n)) (hh : h.length = 8) : w.cell? ⟨g, 8, none⟩ = some (.slice a m c) :=
 hB.cell 8 (by simp [sumCells, hh])
theorem sum_at9 {w : World} {g : Nat} {t : TypeId} {h : List Int} {a : Option Addr} {m c : Nat} {n : Int} (hB : Blk w g t (sumCells h a m c n)) (hh : h.length = 8) : w.cell? ⟨g, 9, none⟩ = some (.int .i64 n) :=
 hB.cell 9 (by simp [sumCells, hh])
theorem grown_of_below {w w' : World} (b : Below w.heap.size w w') (g : Nat) : w.grownBy w' (some g) := ⟨b.os, b.tape, b.output, b.size, fun i hi _ => b.block i hi⟩
theorem grown_store {w w' : World} {g : Nat} {t : TypeId} {cs : List Value} (hg : w.grownBy w' (some g)) (hB : Blk w' g t cs) (hl : cs.length ≤ maxLen) (i : Nat) (v : Value) : w.grownBy (w'.setCell ⟨g, i, none⟩ v) (some g) :=
 grown_trans hg ((hB.owns hl).stored i v).2

set_option maxHeartbeats 4000000 in
theorem add (g : Nat) (h : List Int) (ao : Option Addr) (m c : Nat) (n : Int) (held : List Int) (a : Option Addr) (nb cap : Nat) (b : List Int) (w : World)
  (hB : Blk w g 191 (sumCells h ao m c n)) (hg : 1 < g) (hh : h.length = 8) (hw : Wds h) (hT : Tab w) (hm : m = held.length) (hx : Rd w ao held) (nx : ao = none → c = 0) (hxb : Bytes held) (hml : m ≤ 2097152)
  (hn : nb = b.length) (hy : Rd w a b) (ny : a = none → cap = 0) (hyb : Bytes b) (hnl : nb ≤ 2097152) (hn0 : 0 ≤ n) (hn1 : n ≤ 4194304) :
  Calls Tryz.prog 149 #[.pointer (some ⟨g, 0, none⟩), .slice a nb cap] w fun e w' =>
   ∃ a' m' c', e = .returned (.tuple #[]) ∧ Blk w' g 191 (sumCells (run h (held ++ b) ((held ++ b).length / 64)) a' m' c' (n + nb)) ∧ m' = ((held ++ b).drop (64 * ((held ++ b).length / 64))).length ∧ Rd w' a' ((held ++ b).drop (64 * ((held ++ b).length / 64))) ∧ (a' = none → c' = 0) ∧ w.grownBy w' (some g) := by
 have HB := hid (hB)
 have HH : Hid (h.length = 8) := hh
 have HW : Hid (Wds h) := hw
 have HT := hid (hT)
 have HX := hid (hx)
 have HY := hid (hy)
 have HM : Hid (m = held.length) := hm
 have HN : Hid (nb = b.length) := hn
 have HA : Hid (Bytes (held ++ b)) := fun z hz => (List.mem_append.1 hz).elim (hxb z) (hyb z)
 have HGL : Hid (g < w.heap.size) := hB.lt
 have c8 := sum_at8 hB hh
 clear hB hh hw hT hx hy hm hn hxb hyb
 go_enter Tryz.func149, Tryz.ntmps149
 go_wp2_with fail
 refine (putBytes ao a m c nb cap held b w HM.out HN.out HX.out HY.out nx ny (by rw [← HM.out]; omega) (by rw [← HN.out]; omega)).mono ?_
 rintro e w1 ⟨rfl, r1, b1⟩
 obtain ⟨x, hx⟩ : ∃ x, held ++ b = x := ⟨_, rfl⟩
 rw [hx] at HA r1
 obtain ⟨L, hL⟩ : ∃ L, m + nb = L := ⟨_, rfl⟩
 rw [hL] at r1 ⊢
 have HL : Hid (x.length = L) := by rw [← hx, ← hL, HM.out, HN.out]; simp [Hid]
 have HLL : Hid (m + nb = L) := hL
 have hLm : L ≤ 4194304 := by omega
 have HXX : Hid (held ++ b = x) := hx
 obtain ⟨ga, hga⟩ : ∃ ga, w.heap.size = ga := ⟨_, rfl⟩
 have HGA : Hid (w.heap.size = ga) := hga
 rw [hga] at r1 ⊢
 have R1 := hid (r1)
 have B1 := hid (b1)
 have G1 : Hid (w.grownBy w1 (some g)) := grown_of_below b1 g
 have K1 := hid (HB.out.later b1)
 have HNE : Hid (ga ≠ g) := by show _ ≠ _; have := HGL.out; omega
 have T1 := hid (HT.out.later b1)
 clear r1 b1 hx hL hga c8
 go_wp2
 go_loopw [4] (fun v wr => ∃ q off R : Nat, 64 * q + R = L ∧ v = .slice (some ⟨ga, off, none⟩) R R ∧ (0 < R → off = 64 * q) ∧ Blk wr g 191 (sumCells (run h x q) ao m c n) ∧ Row wr ga L x ∧ w.grownBy wr (some g))
  (fun v _ => lenOf v)
 case atStart => exact ⟨0, 0, L, by omega, rfl, (fun _ => rfl), K1.out, R1.out, G1.out⟩
 case round =>
  obtain ⟨q, off, R, hR, rfl, hoff, hK, hRow, hG⟩ := hrel
  clear K1 R1 G1 B1 T1
  have HR : Hid (64 * q + R = L) := hR
  have HK := hid (hK)
  have HRow := hid (hRow)
  have HG : Hid (w.grownBy wr (some g)) := hG
  have hRm : R ≤ 4194304 := by omega
  clear hR hK hRow hG
  by_cases h64 : 64 ≤ R
  ·
   obtain rfl := hoff (by omega)
   have hT2 : Tab wr := HT.out.grown hg HG.out
   have hP : Rd wr (some ⟨ga, 64 * q, none⟩) (piece x (64 * q) 64) := by
    have := rd_piece HRow.out.rd (64 * q) 64 (by rw [HL.out]; have := HR.out; omega)
    rwa [Nat.zero_add] at this
   have hPl : (piece x (64 * q) 64).length = 64 := piece_length x (64 * q) 64 (by rw [HL.out]; have := HR.out; omega)
   have HP : Hid (Rd wr.drew (some ⟨ga, 64 * q, none⟩) (piece x (64 * q) 64)) := Rd.drewN hP 1
   have HPL : Hid ((piece x (64 * q) 64).length = 64) := hPl
   have HPB : Hid (Bytes (piece x (64 * q) 64)) := piece_bytes HA.out _ _
   have HKD : Hid (Blk wr.drew g 191 ((run h x q).map (Value.int .i64) ++ [.slice ao m c, .int .i64 n])) := blk_drew HK.out
   have HTD := hid (hT2)
   have HRL : Hid ((run h x q).length = 8) := run_length h x q HH.out
   have HRW : Hid (Wds (run h x q)) := run_wds h x q HW.out
   clear hT2 hP hPl hoff
   go_wp2
   go_region_with (go_at_call 167; refine (compress g 191 (run h x q) [.slice ao m c, .int .i64 n] _ R (piece x (64 * q) 64) wr.drew HKD.out (by simp) HRL.out HRW.out HTD.out HPL.out HP.out HPB.out h64).mono ?_; rintro e w5 ⟨rfl, k5, g5⟩)
   have HN1 : Hid (run h x (q + 1) = comp (run h x q) (piece x (64 * q) 64)) := (rfl : run h x (q + 1) = _)
   have K5 : Hid (Blk w5 g 191 (sumCells (run h x (q + 1)) ao m c n)) := by
    show Blk _ _ _ _
    rw [HN1.out]; exact k5
   have R5 := hid (HRow.out.keep (w' := w5) (g5.block ga HRow.out.lt (by simpa using HNE.out)))
   have G5 : Hid (w.grownBy w5 (some g)) := grown_trans (b := wr.drew) ⟨HG.out.os, HG.out.tape, HG.out.output, HG.out.size, HG.out.block⟩ g5
   clear k5 g5 HK HRow HG HP HPL HPB HKD HTD HRL HRW HN1
   by_cases hc : R = 64
   ·
    subst hc
    go_wp2
    go_roundw
    case rel => exact ⟨q + 1, _, 0, by have := HR.out; omega, rfl, (fun e => by omega), K5.out, R5.out, G5.out⟩
    case measure => simp [lenOf]
   ·
    go_wp2
    go_roundw
    case rel => exact ⟨q + 1, _, R - 64, by have := HR.out; omega, rfl, (fun _ => by omega), K5.out, R5.out, G5.out⟩
    case measure => simp [lenOf]; omega
  ·
   have hq : L / 64 = q := by have := HR.out; omega
   have HQ : Hid ((held ++ b).length / 64 = q) := by show _ = _; rw [HXX.out, HL.out]; exact hq
   have c9 := sum_at9 HK.out (run_length h x q HH.out)
   have HRL : Hid ((run h x q).length = 8) := run_length h x q HH.out
   have c8 := sum_at8 HK.out HRL.out
   have f8 := HK.out.frozen 8
   have f9 := HK.out.frozen 9
   have m10 : ∀ l : List Value, l.length = 10 → l.length ≤ maxLen := by intro l e; rw [e]; simp [maxLen]
   have K6 : Hid (Blk (wr.setCell ⟨g, 8, none⟩ (.slice (some ⟨ga, off, none⟩) R R)) g 191 (sumCells (run h x q) (some ⟨ga, off, none⟩) R R n)) := by
    have := HK.out.set 8 (.slice (some ⟨ga, off, none⟩) R R) (m10 _ (sum_len _ _ _ _ _ HRL.out))
    rw [sum_held _ _ _ _ _ _ _ _ HRL.out] at this
    exact this
   have K7 : Hid (Blk ((wr.setCell ⟨g, 8, none⟩ (.slice (some ⟨ga, off, none⟩) R R)).setCell ⟨g, 9, none⟩ (.int .i64 (n + nb))) g 191 (sumCells (run h x q) (some ⟨ga, off, none⟩) R R (n + nb))) := by
    have := K6.out.set 9 (.int .i64 (n + nb)) (m10 _ (sum_len _ _ _ _ _ HRL.out))
    rw [sum_n _ _ _ _ _ _ HRL.out] at this
    exact this
   have G7 : Hid (w.grownBy ((wr.setCell ⟨g, 8, none⟩ (.slice (some ⟨ga, off, none⟩) R R)).setCell ⟨g, 9, none⟩ (.int .i64 (n + nb))) (some g)) :=
    grown_store (grown_store HG.out HK.out (m10 _ (sum_len _ _ _ _ _ HRL.out)) 8 _) K6.out (m10 _ (sum_len _ _ _ _ _ HRL.out)) 9 _
   have R7 : Hid (Row ((wr.setCell ⟨g, 8, none⟩ (.slice (some ⟨ga, off, none⟩) R R)).setCell ⟨g, 9, none⟩ (.int .i64 (n + nb))) ga L x) :=
    (HRow.out.keep (Below.heap_setCell _ _ _ _ HNE.out)).keep (Below.heap_setCell _ _ _ _ HNE.out)
   have HD : Hid (x.drop (64 * q) = piece x (64 * q) R) := by
    show _ = _
    unfold piece
    rw [List.take_of_length_le (by rw [List.length_drop, HL.out]; have := HR.out; omega)]
   have X7 : Hid (Rd ((wr.setCell ⟨g, 8, none⟩ (.slice (some ⟨ga, off, none⟩) R R)).setCell ⟨g, 9, none⟩ (.int .i64 (n + nb))) (some ⟨ga, off, none⟩) (x.drop (64 * q))) := by
    show Rd _ _ _
    rw [HD.out]
    by_cases h0 : 0 < R
    ·
     have e := hoff h0
     have := rd_piece R7.out.rd off R (by rw [HL.out, e]; have := HR.out; omega)
     rw [Nat.zero_add] at this
     rw [← e]
     exact this
    ·
     obtain rfl : R = 0 := by omega
     intro i hi
     simp [piece] at hi
   have HDL : Hid (R = (x.drop (64 * q)).length) := by show _ = _; rw [List.length_drop, HL.out]; have := HR.out; omega
   clear HK HRow HG K6 R7 hq m10 hoff
   go_wp2
   go_end0
   exact ⟨some ⟨ga, off, none⟩, R, R, rfl, by rw [HQ.out, HXX.out]; exact K7.out, by rw [HQ.out, HXX.out]; exact HDL.out, by rw [HQ.out, HXX.out]; exact X7.out, (fun e => by cases e), G7.out⟩
end Go.Proofs.YtmcflfpckpjphaaGreatDoor.Adds

namespace Go.Proofs.YtmcflfpckpjphaaGreatDoor.Ends
open Go.RowKit Mem MemI Blk App Get ShaP Word Bits Sched Words WordsOf Comp CompS Go.Proofs.YtmcflfpckpjphaaGreatDoor.Start Cuts Pads Adds

theorem index8w (k : Nat) (hk : k < 8) (A B C D E F G H : Int) (w : World) :
  (Instr.index 189 (.agg #[.int .i64 A, .int .i64 B, .int .i64 C, .int .i64 D, .int .i64 E, .int .i64 F, .int .i64 G, .int .i64 H]) (.int .i64 (k : Int))).run Tryz.prog w = .ok (.int .i64 ([A, B, C, D, E, F, G, H].getD k 0)) w := by
 rcases (show k = 0 ∨ k = 1 ∨ k = 2 ∨ k = 3 ∨ k = 4 ∨ k = 5 ∨ k = 6 ∨ k = 7 by omega) with rfl | rfl | rfl | rfl | rfl | rfl | rfl | rfl <;> kernel_rfl
theorem grown_on {w a b : World} {g gg : Nat} (h : w.grownBy a (some g)) (k : a.grownBy b (some gg)) (hg : w.heap.size ≤ gg) : w.grownBy b (some g) :=
 ⟨k.os.trans h.os, k.tape.trans h.tape, k.output.trans h.output, Nat.le_trans h.size k.size, fun i hi hne => (k.block i (Nat.lt_of_lt_of_le hi h.size) (by simp; omega)).trans (h.block i hi hne)⟩
theorem grown_below {w a b : World} {g : Nat} (h : w.grownBy a (some g)) {B : Nat} (k : Below B a b) (hB : w.heap.size ≤ B) : w.grownBy b (some g) :=
 ⟨k.os.trans h.os, k.tape.trans h.tape, k.output.trans h.output, Nat.le_trans h.size k.size, fun i hi hne => (k.block i (Nat.lt_of_lt_of_le hi hB)).trans (h.block i hi hne)⟩
theorem padI_nat (N : Nat) (h : N ≤ 1048576) : padI (N : Int) = padOf N := by unfold padI; rw [if_pos (by omega), Int.toNat_natCast]
theorem padI_bytes (n : Int) : Bytes (padI n) := by
 unfold padI; split
 ·
  intro z hz
  simp only [padOf, List.mem_cons, List.mem_append, List.mem_replicate] at hz
  rcases hz with rfl | ⟨_, rfl⟩ | hz
  ·
   omega
  ·
   omega
  ·
   exact num_bytes _ _ z hz
 ·
  intro z hz; cases hz

set_option maxHeartbeats 4000000 in
theorem endSum (g : Nat) (h : List Int) (ao : Option Addr) (m c N : Nat) (held : List Int) (w : World)
  (hB : Blk w g 191 (sumCells h ao m c N)) (hg : 1 < g) (hh : h.length = 8) (hw : Wds h) (hT : Tab w) (hm : m = held.length) (hx : Rd w ao held) (nx : ao = none → c = 0) (hxb : Bytes held) (hml : m ≤ 2097152) (hN : N ≤ 1048576) :
  Calls Tryz.prog 150 #[.pointer (some ⟨g, 0, none⟩)] w fun e w' =>
   ∃ g' c', e = .returned (.slice (some ⟨g', 0, none⟩) 32 c') ∧ w.heap.size ≤ g' ∧ Row w' g' c' (endOf h held N) ∧ w.grownBy w' (some g) := by
 have HB := hid (hB)
 have HH : Hid (h.length = 8) := hh
 have HW : Hid (Wds h) := hw
 have HT := hid (hT)
 have HX := hid (hx)
 have HM : Hid (m = held.length) := hm
 have HXB := hid (hxb)
 have HGL : Hid (g < w.heap.size) := hB.lt
 have c9 := sum_at9 hB hh
 clear hB hh hw hT hx hm hxb
 go_enter Tryz.func150, Tryz.ntmps150
 go_wp2_with fail
 refine (implPad (N : Int) w).mono ?_
 rintro e w1 ⟨gp, mp, cp, rfl, e1, k1, r1, b1⟩
 have HPL : Hid ((padI (N : Int)).length ≤ 72) := padI_length _
 have R1 := hid (r1)
 have B1 := hid (b1)
 have E1 : Hid (mp = (padI (N : Int)).length) := e1
 have hmp : mp ≤ 72 := by rw [e1]; exact HPL.out
 clear r1 b1 e1 k1 c9
 go_wp2_with fail
 refine (add g h ao m c N held (some ⟨gp, 0, none⟩) mp cp (padI (N : Int)) w1 (HB.out.later B1.out) hg HH.out HW.out (HT.out.later B1.out) HM.out (HX.out.later B1.out (Nat.le_refl _)) nx HXB.out hml E1.out R1.out.rd (by intro e; cases e) (padI_bytes _) (by omega) (by omega) (by omega)).mono ?_
 rintro e w2 ⟨a2, m2, c2, rfl, k2, _, _, _, g2⟩
 obtain ⟨hf, hhf⟩ : ∃ hf, run h (held ++ padI (N : Int)) ((held ++ padI (N : Int)).length / 64) = hf := ⟨_, rfl⟩
 have HF : Hid (hf.length = 8) := by rw [← hhf]; exact run_length _ _ _ HH.out
 have HE : Hid (endOf h held N = outB hf) := by
  show _ = _
  unfold endOf
  rw [← padI_nat N hN, hhf]
 rw [hhf] at k2
 have K2 := hid (k2)
 have G2 : Hid (w.grownBy w2 (some g)) := grown_trans (grown_of_below B1.out g) g2
 clear k2 g2 hhf
 obtain ⟨i0, hi, hz0, hz1, hz2⟩ := info_parts info8
 obtain ⟨y0, y1, y2, y3, y4, y5, y6, y7, e8⟩ : ∃ y0 y1 y2 y3 y4 y5 y6 y7, hf = [y0, y1, y2, y3, y4, y5, y6, y7] := by
  match hf, HF.out with
  | [y0, y1, y2, y3, y4, y5, y6, y7], _ => exact ⟨_, _, _, _, _, _, _, _, rfl⟩
 have E8 : Hid (hf = [y0, y1, y2, y3, y4, y5, y6, y7]) := e8
 have HCI : Hid (∀ w3, Below w2.heap.size w2 w3 → ∀ k v, (sumCells [y0, y1, y2, y3, y4, y5, y6, y7] a2 m2 c2 (N + mp))[k]? = some v → w3.cell? ⟨g, k, none⟩ = some v) := by
  intro w3 hb k v hv
  rw [← e8] at hv
  exact (K2.out.later hb).cell k hv
 clear e8
 go_wp2_with (first | (at_make; refine wpList_make_own _ rfl _ _ 22 rfl w.heap.size 5 i0 (.int .u8 0) 1 Tryz.underlying22 hi hz0 hz1 _ _ _ 32 rfl rfl rfl (by rw [hz2]; omega) (by unfold maxLen; omega) G2.out.size ?_; intro w3 hown hgr; have B3 : Hid (Below w2.heap.size w2 w3) := (Below.refl _ _).grown hgr (Nat.le_refl _) (fun k h => by cases h); have R3 : Hid (Row w3 w2.heap.size 32 []) := (Row.of (l := []) hown).1; have t0 := HCI.out w3 B3.out 0 _ rfl; have t1 := HCI.out w3 B3.out 1 _ rfl; have t2 := HCI.out w3 B3.out 2 _ rfl; have t3 := HCI.out w3 B3.out 3 _ rfl; have t4 := HCI.out w3 B3.out 4 _ rfl; have t5 := HCI.out w3 B3.out 5 _ rfl; have t6 := HCI.out w3 B3.out 6 _ rfl; have t7 := HCI.out w3 B3.out 7 _ rfl; clear hown hgr))
 have G3 : Hid (w.grownBy w3 (some g)) := grown_below G2.out B3.out G2.out.size
 have S2 := hid (G2.out.size)
 clear t0 t1 t2 t3 t4 t5 t6 t7 B3 HCI
 obtain ⟨ys, hys⟩ : ∃ ys, ys = [y0, y1, y2, y3, y4, y5, y6, y7] := ⟨_, rfl⟩
 have HYS : Hid (ys = [y0, y1, y2, y3, y4, y5, y6, y7]) := hys
 have HYL : Hid (ys.length = 8) := by rw [hys]; rfl
 clear hys
 go_loopw [3, 18] (fun v i wr => ∃ k gg cc : Nat, k ≤ 8 ∧ i = .int .i64 k ∧ v = .slice (some ⟨gg, 0, none⟩) (4 * k) cc ∧ w.heap.size ≤ gg ∧ Row wr gg cc (outB (ys.take k)) ∧ w.grownBy wr (some g))
  (fun _ i _ => 8 - (intOf i).toNat)
 case atStart => exact ⟨0, w2.heap.size, 32, Nat.zero_le _, rfl, rfl, S2.out, R3.out, G3.out⟩
 case round =>
  obtain ⟨k, gg, cc, hk, rfl, rfl, hgg, hRow, hG⟩ := hrel
  have HRow := hid (hRow)
  have HG : Hid (w.grownBy wr (some g)) := hG
  clear R3 G3 hRow hG
  by_cases hlt : k < 8
  ·
   have hag := index8w k hlt y0 y1 y2 y3 y4 y5 y6 y7
   rw [← HYS.out] at hag
   have HT1 : Hid (outB (ys.take (k + 1)) = outB (ys.take k) ++ num (ys.getD k 0) 4) := by
    show _ = _
    rw [List.take_succ_eq_append_getElem (by rw [HYL.out]; exact hlt), outB_snoc]
    simp [List.getD, HYL.out, hlt]
   have HOL : Hid (4 * k = (outB (ys.take k)).length) := by show _ = _; rw [outB_length, List.length_take, HYL.out]; omega
   generalize ys.getD k 0 = z at *
   have HN4 : Hid ((num z 4).length = 4) := num_length z 4
   go_wp2_with fail
   refine (highestFirst z 4 wr (by omega) (by omega)).mono ?_
   rintro e w5 ⟨rfl, r5, b5⟩
   have R5 := hid (r5)
   have B5 := hid (b5)
   have G5 : Hid (w.grownBy w5 (some g)) := grown_below HG.out b5 HG.out.size
   have RO5 := hid (HRow.out.later b5)
   clear r5 b5
   go_wp2_with (at_builtin; refine wpList_app _ rfl (.tmp 21) (.tmp 23) rfl w.heap.size gg (4 * k) cc (outB (ys.take k)) (num z 4) rfl HOL.out RO5.out hgg (some ⟨wr.heap.size, 0, none⟩) 4 4 rfl HN4.out.symm R5.out.rd (by intro h; cases h) (by rw [← HOL.out, HN4.out]; omega) ?_; intro g2 c2' w6 r2 b2 l2 gr2; have R6 := hid (r2); have G6 : Hid (w.grownBy w6 (some g)) := grown_on G5.out gr2 hgg; clear r2 gr2 l2)
   go_roundw
   case rel => exact ⟨k + 1, g2, c2', by omega, by go_num, rfl, b2, by rw [HT1.out]; exact R6.out, G6.out⟩
   case measure => simp [intOf]; omega
  ·
   obtain rfl : k = 8 := by omega
   have HT8 : Hid (endOf h held N = outB (ys.take 8)) := by
    show _ = _
    rw [HE.out, E8.out, ← HYS.out, List.take_of_length_le (by rw [HYL.out]; exact Nat.le_refl _)]
   go_wp2
   go_ret
   exact ⟨gg, cc, rfl, hgg, by rw [HT8.out]; exact HRow.out, HG.out⟩

def shaI (b : List Int) : List Int := if b.length ≤ 1048576 then shaOf b else []
theorem endOf_length (h held : List Int) (n : Nat) (hh : h.length = 8) : (endOf h held n).length = 32 := by
 unfold endOf; rw [outB_length, run_length _ _ _ hh]

theorem shaI_length (b : List Int) : (shaI b).length ≤ 1048576 := by
 unfold shaI; split
 ·
  unfold shaOf; rw [endOf_length _ _ _ rfl]; omega
 ·
  simp
theorem drop_len (l : List Int) : (l.drop (64 * (l.length / 64))).length = l.length % 64 := by rw [List.length_drop]; omega
theorem run_end (h x p : List Int) : run (run h x (x.length / 64)) (x.drop (64 * (x.length / 64)) ++ p) ((x.drop (64 * (x.length / 64)) ++ p).length / 64) = run h (x ++ p) ((x ++ p).length / 64) := by
 rw [run_parts h x p _ _ (by omega)]
 congr 1
 rw [List.length_append, drop_len, List.length_append]
 omega
theorem end_rest (h x : List Int) (n : Nat) : endOf (run h x (x.length / 64)) (x.drop (64 * (x.length / 64))) n = outB (run h (x ++ padOf n) ((x ++ padOf n).length / 64)) := by
 unfold endOf; rw [run_end]

set_option maxHeartbeats 4000000 in
theorem implSha (a : Option Addr) (n cap : Nat) (b : List Int) (w : World) (hT : Tab w) (hn : n = b.length) (hr : Rd w a b) (na : a = none → cap = 0) (hb : Bytes b) (hl : n ≤ 2097152) :
  Calls Tryz.prog 114 #[.slice a n cap] w fun e w' =>
   ∃ g m c, e = .returned (.slice (some ⟨g, 0, none⟩) m c) ∧ m = (shaI b).length ∧ w.heap.size ≤ g ∧ Row w' g c (shaI b) ∧ Below w.heap.size w w' := by
 have HT := hid (hT)
 have HN : Hid (n = b.length) := hn
 have HR := hid (hr)
 have HB := hid (hb)
 clear hT hn hr hb
 by_cases h1 : n ≤ 1048576
 ·
  have HS : Hid (shaI b = shaOf b) := by show _ = _; unfold shaI; rw [if_pos (by rw [← HN.out]; exact h1)]
  have hl1 : isLen (n : Int) = true := isLen_yes ⟨by omega, by omega⟩
  go_enter Tryz.func114, Tryz.ntmps114
  go_wp2_with fail
  refine (isShaLength _ _).mono ?_
  rintro e w1 ⟨rfl, rfl⟩
  go_wp2_with fail
  refine (newSum w).mono ?_
  rintro e w1 ⟨rfl, k1, b1⟩
  have K1 := hid (k1)
  have B1 := hid (b1)
  have HG : Hid (1 < w.heap.size) := HT.out.1
  clear k1 b1
  go_wp2_with fail
  refine (add w.heap.size start8 none 0 0 0 [] a n cap b w1 K1.out HG.out rfl start8_wds (HT.out.later B1.out) rfl (by intro i hi; cases hi) (fun _ => rfl) (by intro z hz; cases hz) (by omega) HN.out (HR.out.later B1.out (Nat.le_refl _)) na HB.out hl (by omega) (by omega)).mono ?_
  rintro e w2 ⟨a2, m2, c2, rfl, k2, e2, x2, n2, g2⟩
  rw [List.nil_append] at k2 e2 x2
  rw [Int.zero_add] at k2
  have K2 := hid (k2)
  have X2 := hid (x2)
  have E2 : Hid (m2 = (b.drop (64 * (b.length / 64))).length) := e2
  have B2 : Hid (Below w.heap.size w w2) := B1.out.grown g2 B1.out.size (fun k h => by cases h; exact Nat.le_refl _)
  have hm2 : m2 ≤ 64 := by rw [e2, drop_len]; omega
  have T2 := hid (HT.out.later B2.out)
  have D2 : Hid (Bytes (b.drop (64 * (b.length / 64)))) := fun z hz => HB.out z (List.mem_of_mem_drop hz)
  clear k2 x2 e2 g2
  go_wp2_with fail
  refine (endSum w.heap.size _ a2 m2 c2 n _ w2 K2.out HG.out (run_length _ _ _ rfl) (run_wds _ _ _ start8_wds) T2.out E2.out X2.out n2 D2.out (by omega) h1).mono ?_
  rintro e w3 ⟨g3, c3, rfl, k3, r3, gr3⟩
  have HE : Hid (shaI b = endOf (run start8 b (b.length / 64)) (b.drop (64 * (b.length / 64))) n) := by
   show _ = _
   rw [HS.out, end_rest, HN.out]; rfl
  have HE2 : Hid ((shaI b).length = 32) := by show _ = _; rw [HE.out, endOf_length _ _ _ (run_length _ _ _ rfl)]
  have K3 : Hid (w.heap.size ≤ g3) := Nat.le_trans B2.out.size k3
  have R3 : Hid (Row w3 g3 c3 (shaI b)) := by show Row _ _ _ _; rw [HE.out]; exact r3
  have B3 : Hid (Below w.heap.size w w3) := B2.out.grown gr3 B2.out.size (fun k h => by cases h; exact Nat.le_refl _)
  clear r3 gr3 k3
  go_wp2
  go_ret
  exact ⟨g3, 32, c3, rfl, HE2.out.symm, K3.out, R3.out, B3.out⟩
 ·
  have HS : Hid (shaI b = []) := by show _ = _; unfold shaI; rw [if_neg (by rw [← HN.out]; exact h1)]
  have hl1 : isLen (n : Int) = false := isLen_no (by omega)
  clear h1
  go_enter Tryz.func114, Tryz.ntmps114
  go_wp2_with fail
  refine (isShaLength _ _).mono ?_
  rintro e w1 ⟨rfl, rfl⟩
  go_wp2
  go_ret
  exact ⟨w.heap.size, 0, 0, by simp, by rw [HS.out]; rfl, Nat.le_refl _, by rw [HS.out]; exact row_new w [] (by simp), (Below.refl _ _).alloc (Nat.le_refl _) _⟩
end Go.Proofs.YtmcflfpckpjphaaGreatDoor.Ends

namespace Go.Proofs.YtmcflfpckpjphaaGreatDoor.DiffP
open Go.RowKit Mem

theorem xor_byte (a b : Int) (h1 : 0 ≤ a) (h2 : a ≤ 255) (h3 : 0 ≤ b) (h4 : b ≤ 255) : 0 ≤ bits .xor .u8 a b ∧ bits .xor .u8 a b ≤ 255 := by
 rw [u8_xor a b h1 (by omega) h3 (by omega)]
 have : a.toNat ^^^ b.toNat < 2 ^ 8 := Nat.xor_lt_two_pow (by omega) (by omega)
 omega
def diffN (a b : List Int) : Nat → Int
 | 0 => 0
 | n + 1 => bits .or .u8 (diffN a b n) (bits .xor .u8 (a.getD n 0) (b.getD n 0))
def diffI (a b : List Int) : Int := if a.length = b.length then diffN a b a.length else -1

theorem diffN_bd (a b : List Int) (ha : Bytes a) (hb : Bytes b) (n : Nat) : 0 ≤ diffN a b n ∧ diffN a b n ≤ 255 := by
 induction n with
 | zero => simp [diffN]
 | succ n ih =>
  have hx := xor_byte (a.getD n 0) (b.getD n 0) (ha.at n).1 (ha.at n).2 (hb.at n).1 (hb.at n).2
  unfold diffN
  rw [u8_or _ _ ih.1 (by omega) hx.1 (by omega)]
  have : (diffN a b n).toNat ||| (bits .xor .u8 (a.getD n 0) (b.getD n 0)).toNat < 2 ^ 8 := Nat.or_lt_two_pow (by omega) (by omega)
  omega
theorem or_wide (x y : Int) (h1 : 0 ≤ x) (h2 : x ≤ 255) (h3 : 0 ≤ y) (h4 : y ≤ 255) : bits .or .i64 x y = bits .or .u8 x y := by
 rw [u8_or x y h1 (by omega) h3 (by omega)]
 have := Bits.or_i64 x.toNat y.toNat (by omega) (by omega)
 rw [Int.toNat_of_nonneg h1, Int.toNat_of_nonneg h3] at this
 exact this
theorem xor_zero_iff (a b : Int) (h1 : 0 ≤ a) (h2 : a ≤ 255) (h3 : 0 ≤ b) (h4 : b ≤ 255) : bits .xor .u8 a b = 0 ↔ a = b := by
 rw [u8_xor a b h1 (by omega) h3 (by omega)]
 constructor
 ·
  intro h
  have : a.toNat ^^^ b.toNat = 0 := by omega
  have h2 := congrArg (fun x => a.toNat ^^^ x) this
  simp only [← Nat.xor_assoc, Nat.xor_self, Nat.zero_xor, Nat.xor_zero] at h2
  omega
 ·
  rintro rfl; simp
theorem or_zero_iff (a b : Int) (h1 : 0 ≤ a) (h2 : a ≤ 255) (h3 : 0 ≤ b) (h4 : b ≤ 255) : bits .or .u8 a b = 0 ↔ a = 0 ∧ b = 0 := by
 rw [u8_or a b h1 (by omega) h3 (by omega)]
 constructor
 ·
  intro h
  have : a.toNat ||| b.toNat = 0 := by omega
  rw [Nat.or_eq_zero_iff] at this
  omega
 ·
  rintro ⟨rfl, rfl⟩; simp
theorem diffN_zero (a b : List Int) (ha : Bytes a) (hb : Bytes b) (n : Nat) : diffN a b n = 0 ↔ ∀ i, i < n → a.getD i 0 = b.getD i 0 := by
 induction n with
 | zero => simp [diffN]
 | succ n ih =>
  have hx := xor_byte (a.getD n 0) (b.getD n 0) (ha.at n).1 (ha.at n).2 (hb.at n).1 (hb.at n).2
  have hd := diffN_bd a b ha hb n
  unfold diffN
  rw [or_zero_iff _ _ hd.1 hd.2 hx.1 hx.2, ih, xor_zero_iff _ _ (ha.at n).1 (ha.at n).2 (hb.at n).1 (hb.at n).2]
  constructor
  ·
   rintro ⟨h, k⟩ i hi
   rcases Nat.lt_or_ge i n with h' | h'
   ·
    exact h i h'
   ·
    obtain rfl : i = n := by omega
    exact k
  ·
   intro h; exact ⟨fun i hi => h i (by omega), h n (by omega)⟩
theorem list_eq_of {a b : List Int} (hl : a.length = b.length) (h : ∀ i, i < a.length → a.getD i 0 = b.getD i 0) : a = b := by
 apply List.ext_getElem hl
 intro i h1 h2
 have := h i h1
 simpa [List.getD, h1, h2] using this
theorem diffI_zero (a b : List Int) (ha : Bytes a) (hb : Bytes b) : diffI a b = 0 ↔ a = b := by
 unfold diffI
 by_cases h : a.length = b.length
 ·
  rw [if_pos h, diffN_zero a b ha hb]
  exact ⟨fun k => list_eq_of h k, fun k i _ => by rw [k]⟩
 ·
  rw [if_neg h]
  exact ⟨fun k => by omega, fun k => absurd (by rw [k]) h⟩
theorem bits_xor_comm (a b : Int) (h1 : 0 ≤ a) (h2 : a ≤ 255) (h3 : 0 ≤ b) (h4 : b ≤ 255) : bits .xor .u8 a b = bits .xor .u8 b a := by
 rw [u8_xor a b h1 (by omega) h3 (by omega), u8_xor b a h3 (by omega) h1 (by omega), Nat.xor_comm]
def sameI (a b : List Int) : Bool := decide (a.length = 16 ∧ diffI a b = 0)
end Go.Proofs.YtmcflfpckpjphaaGreatDoor.DiffP

namespace Go.Proofs.YtmcflfpckpjphaaGreatDoor.MacP
open Go.RowKit Mem App ShaP Ends DiffP

def short (k : List Int) : List Int := if k.length ≤ 64 then k else shaI k
def keyI (k : List Int) : List Int := if k.length ≤ 1048576 then short k ++ List.replicate (64 - (short k).length) 0 else []
def mix (p : Int) (l : List Int) : List Int := l.map fun z => bits .xor .u8 z p
def hmacI (k b : List Int) : List Int := if k.length ≤ 1048576 ∧ b.length ≤ 1048512 then shaI (mix 92 (keyI k) ++ shaI (mix 54 (keyI k) ++ b)) else []
def tagI (k b : List Int) : List Int := (hmacI k b).take 16

theorem outB_len32 (h : List Int) (hh : h.length = 8) : (outB h).length = 32 := by rw [outB_length, hh]
theorem shaI_len (b : List Int) (h : b.length ≤ 1048576) : (shaI b).length = 32 := by
 unfold shaI; rw [if_pos h]
 exact outB_len32 _ (run_length _ _ _ rfl)
theorem short_len (k : List Int) (h : k.length ≤ 1048576) : (short k).length ≤ 64 := by
 unfold short; split
 ·
  assumption
 ·
  rw [shaI_len k h]; omega
theorem keyI_len (k : List Int) (h : k.length ≤ 1048576) : (keyI k).length = 64 := by
 have := short_len k h
 unfold keyI; rw [if_pos h]; simp; omega
theorem keyI_none (k : List Int) (h : ¬ k.length ≤ 1048576) : keyI k = [] := by unfold keyI; rw [if_neg h]
theorem mix_length (p : Int) (l : List Int) : (mix p l).length = l.length := by simp [mix]
theorem mix_bytes (p : Int) (l : List Int) (hl : Bytes l) (h3 : 0 ≤ p) (h4 : p ≤ 255) : Bytes (mix p l) := by
 intro z hz
 simp only [mix, List.mem_map] at hz
 obtain ⟨y, hy, rfl⟩ := hz
 exact xor_byte y p (hl y hy).1 (hl y hy).2 h3 h4
theorem outB_bytes (h : List Int) : Bytes (outB h) := by
 induction h with
 | nil => intro z hz; cases hz
 | cons x r ih =>
  intro z hz
  rcases List.mem_append.1 hz with h | h
  ·
   exact num_bytes x 4 z h
  ·
   exact ih z h
theorem shaI_bytes (b : List Int) : Bytes (shaI b) := by
 unfold shaI; split
 ·
  exact outB_bytes _
 ·
  intro z hz; cases hz
theorem short_bytes (k : List Int) (h : Bytes k) : Bytes (short k) := by
 unfold short; split
 ·
  exact h
 ·
  exact shaI_bytes k
theorem bytes_append {a b : List Int} (ha : Bytes a) (hb : Bytes b) : Bytes (a ++ b) := by
 intro z hz
 rcases List.mem_append.1 hz with h | h
 ·
  exact ha z h
 ·
  exact hb z h
theorem bytes_zeros (n : Nat) : Bytes (List.replicate n 0) := by
 intro z hz; rw [List.mem_replicate] at hz; omega
theorem keyI_bytes (k : List Int) (h : Bytes k) : Bytes (keyI k) := by
 unfold keyI; split
 ·
  exact bytes_append (short_bytes k h) (bytes_zeros _)
 ·
  intro z hz; cases hz
theorem hmacI_len (k b : List Int) (h1 : k.length ≤ 1048576) (h2 : b.length ≤ 1048512) : (hmacI k b).length = 32 := by
 unfold hmacI; rw [if_pos ⟨h1, h2⟩]
 apply shaI_len
 have := shaI_length
 rw [List.length_append, mix_length, keyI_len k h1, shaI_len _ (by rw [List.length_append, mix_length, keyI_len k h1]; omega)]; omega
theorem hmacI_none (k b : List Int) (h : ¬ (k.length ≤ 1048576 ∧ b.length ≤ 1048512)) : hmacI k b = [] := by unfold hmacI; rw [if_neg h]
theorem hmacI_bytes (k b : List Int) : Bytes (hmacI k b) := by
 unfold hmacI; split
 ·
  exact shaI_bytes _
 ·
  intro z hz; cases hz
theorem hmacI_le (k b : List Int) : (hmacI k b).length ≤ 32 := by
 by_cases h : k.length ≤ 1048576 ∧ b.length ≤ 1048512
 ·
  rw [hmacI_len k b h.1 h.2]; exact Nat.le_refl _
 ·
  rw [hmacI_none k b h]; simp
theorem tagI_len (k b : List Int) (h1 : k.length ≤ 1048576) (h2 : b.length ≤ 1048512) : (tagI k b).length = 16 := by
 unfold tagI; rw [List.length_take, hmacI_len k b h1 h2]; rfl
theorem tagI_le (k b : List Int) : (tagI k b).length ≤ 16 := by unfold tagI; rw [List.length_take]; omega
theorem tagI_bytes (k b : List Int) : Bytes (tagI k b) := fun z hz => hmacI_bytes k b z (List.mem_of_mem_take hz)

end Go.Proofs.YtmcflfpckpjphaaGreatDoor.MacP

namespace Go.Proofs.YtmcflfpckpjphaaGreatDoor.KdfP
open Go.RowKit Mem App ShaP Ends DiffP MacP

def blk (k f : List Int) : Nat → List Int
 | 0 => []
 | i + 1 => hmacI k (blk k f i ++ f ++ [((i + 1 : Nat) : Int) % 256])
def blks (k f : List Int) : Nat → List Int
 | 0 => []
 | i + 1 => blks k f i ++ blk k f (i + 1)
def sblk (k h : List Int) (i : Nat) : List Int := hmacI k (115 :: h ++ num (i : Int) 4)
def sblks (k h : List Int) : Nat → List Int
 | 0 => []
 | i + 1 => sblks k h i ++ sblk k h i
def blockI (k h : List Int) (i : Int) : List Int := if 0 ≤ i ∧ i ≤ 6 ∧ h.length ≤ 100 then sblk k h i.toNat else []
def mayStr (k h : List Int) (n : Int) : Bool := decide (0 ≤ n ∧ n ≤ 200 ∧ h.length ≤ 100 ∧ k.length ≤ 1048576)
theorem mayStr_iff (k h : List Int) (n : Int) : mayStr k h n = true ↔ 0 ≤ n ∧ n ≤ 200 ∧ h.length ≤ 100 ∧ k.length ≤ 1048576 := by simp [mayStr]
def strI (k h : List Int) (n : Int) : List Int := if mayStr k h n = true then (sblks k h ((n.toNat + 31) / 32)).take n.toNat else []
def xors (a b : List Int) : List Int := List.zipWith (fun x y => bits .xor .u8 x y) a b
def mixI (k h b : List Int) : List Int := if mayStr k h (b.length : Int) = true then xors b (strI k h (b.length : Int)) else []
theorem sblk_len (k h : List Int) (hk : k.length ≤ 1048576) (hh : h.length ≤ 100) (i : Nat) : (sblk k h i).length = 32 := by
 unfold sblk
 apply hmacI_len k _ hk
 simp only [List.length_append, List.length_cons, num_length]
 omega
theorem sblks_len (k h : List Int) (hk : k.length ≤ 1048576) (hh : h.length ≤ 100) (i : Nat) : (sblks k h i).length = 32 * i := by
 induction i with
 | zero => rfl
 | succ i ih => unfold sblks; rw [List.length_append, ih, sblk_len k h hk hh]; omega
theorem sblks_bytes (k h : List Int) (i : Nat) : Bytes (sblks k h i) := by
 induction i with
 | zero => intro z hz; cases hz
 | succ i ih => unfold sblks; exact bytes_append ih (hmacI_bytes _ _)
theorem strI_no (k h : List Int) (n : Int) (e : mayStr k h n = false) : strI k h n = [] := by unfold strI; rw [if_neg (by rw [e]; simp)]
theorem strI_yes (k h : List Int) (n : Int) (e : mayStr k h n = true) : strI k h n = (sblks k h ((n.toNat + 31) / 32)).take n.toNat := by unfold strI; rw [if_pos e]
theorem strI_len (k h : List Int) (n : Nat) (e : mayStr k h (n : Int) = true) : (strI k h (n : Int)).length = n := by
 obtain ⟨h0, h1, h2, h3⟩ := (mayStr_iff k h n).1 e
 rw [strI_yes k h _ e, List.length_take, sblks_len k h h3 h2, Int.toNat_natCast]
 omega
theorem strI_bytes (k h : List Int) (n : Int) : Bytes (strI k h n) := by
 unfold strI; split
 ·
  intro z hz; exact sblks_bytes k h _ z (List.mem_of_mem_take hz)
 ·
  intro z hz; cases hz
theorem xors_length (a b : List Int) : (xors a b).length = min a.length b.length := by simp [xors]
theorem xors_bytes {a b : List Int} (ha : Bytes a) (hb : Bytes b) : Bytes (xors a b) := by
 intro z hz
 unfold xors at hz
 rw [List.mem_iff_getElem] at hz
 obtain ⟨i, hi, rfl⟩ := hz
 rw [List.getElem_zipWith]
 have hi' : i < a.length ∧ i < b.length := by simp at hi; omega
 have h1 := ha _ (List.getElem_mem hi'.1)
 have h2 := hb _ (List.getElem_mem hi'.2)
 exact xor_byte _ _ h1.1 h1.2 h2.1 h2.2
theorem xors_at (a b : List Int) (i : Nat) (h1 : i < a.length) (h2 : i < b.length) : (xors a b)[i]? = some (bits .xor .u8 a[i] b[i]) := by
 unfold xors
 rw [List.getElem?_zipWith, List.getElem?_eq_getElem h1, List.getElem?_eq_getElem h2]
theorem mixI_of (k h b : List Int) (e : mayStr k h (b.length : Int) = true) : mixI k h b = xors b (strI k h (b.length : Int)) := by unfold mixI; rw [if_pos e]
theorem mixI_no (k h b : List Int) (e : mayStr k h (b.length : Int) = false) : mixI k h b = [] := by unfold mixI; rw [if_neg (by rw [e]; simp)]
theorem mixI_len (k h b : List Int) (e : mayStr k h (b.length : Int) = true) : (mixI k h b).length = b.length := by rw [mixI_of k h b e, xors_length, strI_len k h _ e, Nat.min_self]
end Go.Proofs.YtmcflfpckpjphaaGreatDoor.KdfP

namespace Go.Proofs.YtmcflfpckpjphaaGreatDoor.SlQ
open Go.RowKit Mem App Words FrZ FrP FrG KdfP MacP SlP

def sealOk (k : Int) (role n epoch seq kind p : Int) : Bool := (k == 32) && (headOk role n epoch seq && (isIn kind 4 8 && bodyOk kind p))
theorem sealOk_iff (k role n epoch seq kind p : Int) : sealOk k role n epoch seq kind p = true ↔ k = 32 ∧ headOk role n epoch seq = true ∧ (4 ≤ kind ∧ kind ≤ 8) ∧ bodyOk kind p = true := by
 unfold sealOk isIn; simp [and_assoc]
def draftD (sn : List Int) (epoch seq kind : Int) (body tag : List Int) : FrD := ⟨kind, 0, [], sn, 0, [], [], epoch, seq, body, tag⟩
theorem draft_can (role : Int) (sn : List Int) (epoch seq kind : Int) (body tag : List Int) (ht : tag.length = 16) : canTag role (draftD sn epoch seq kind body tag) = (headOk role sn.length epoch seq && (isIn kind 4 8 && bodyOk kind body.length)) := by
 rw [Bool.eq_iff_iff]
 constructor
 ·
  intro h
  obtain ⟨h1, h2, h3⟩ := canTag_parts h
  have h4 := canTag_head h
  obtain ⟨_, _, h6, _, _, _, h7, h8, h9, _⟩ := (sealed_parts h2).1 h3
  rw [Bool.and_eq_true, Bool.and_eq_true]
  exact ⟨h4, isIn_yes h2, h9⟩
 ·
  intro h
  rw [Bool.and_eq_true, Bool.and_eq_true] at h
  obtain ⟨h1, h2, h3⟩ := h
  obtain ⟨r1, r2, r3, r4⟩ := (headOk_iff _ _ _ _).1 h1
  have hk : 4 ≤ kind ∧ kind ≤ 8 := by unfold isIn at h2; simpa using h2
  exact canTag_of r1 hk ((sealed_parts (D := draftD sn epoch seq kind body tag) hk).2 ⟨rfl, rfl, by show sn.length = 12; omega, rfl, rfl, rfl, r3, r4, h3, ht⟩)
def sealD (key : List Int) (role : Int) (sn : List Int) (epoch seq kind : Int) (plain : List Int) : FrD :=
 draftD sn epoch seq kind (mixI key (headL role sn epoch seq) plain) (tagI key (tagIn role (draftD sn epoch seq kind (mixI key (headL role sn epoch seq) plain) (List.replicate 16 0))))
def sealB (key : List Int) (role : Int) (sn : List Int) (epoch seq kind : Int) (plain : List Int) : Bool := sealOk key.length role sn.length epoch seq kind plain.length
def sealF (key : List Int) (role : Int) (sn : List Int) (epoch seq kind : Int) (plain : List Int) : FrD := if sealB key role sn epoch seq kind plain = true then sealD key role sn epoch seq kind plain else zeroF
def unsealB (key : List Int) (role : Int) (D : FrD) : Bool := ((key.length : Int) == 32) && (canTag role D && decide (D.tag = tagI key (tagIn role D)))
def unsealL (key : List Int) (role : Int) (D : FrD) : List Int := if unsealB key role D = true then mixI key (headL role D.sn D.epoch D.seq) D.body else []

theorem seal_may {key : List Int} {role : Int} {sn : List Int} {epoch seq kind : Int} {plain : List Int} (h : sealB key role sn epoch seq kind plain = true) :
  key.length = 32 ∧ headOk role sn.length epoch seq = true ∧ (4 ≤ kind ∧ kind ≤ 8) ∧ bodyOk kind plain.length = true ∧ plain.length ≤ 40 ∧ mayStr key (headL role sn epoch seq) (plain.length : Int) = true := by
 obtain ⟨h1, h2, h3, h4⟩ := (sealOk_iff _ _ _ _ _ _ _).1 h
 have h5 := bodyOk_le h4
 have h6 := headL_le role sn epoch seq
 exact ⟨by omega, h2, h3, h4, by omega, (mayStr_iff _ _ _).2 ⟨by omega, by omega, by omega, by omega⟩⟩
theorem seal_body {key : List Int} {role : Int} {sn : List Int} {epoch seq kind : Int} {plain : List Int} (h : sealB key role sn epoch seq kind plain = true) : (mixI key (headL role sn epoch seq) plain).length = plain.length := by
 exact mixI_len _ _ _ (seal_may h).2.2.2.2.2
theorem seal_can {key : List Int} {role : Int} {sn : List Int} {epoch seq kind : Int} {plain : List Int} (tag : List Int) (ht : tag.length = 16) (h : sealB key role sn epoch seq kind plain = true) : canTag role (draftD sn epoch seq kind (mixI key (headL role sn epoch seq) plain) tag) = true := by
 rw [draft_can _ _ _ _ _ _ _ ht, seal_body h]
 obtain ⟨_, h2, h3, h4, _⟩ := seal_may h
 rw [h2, isIn_yes h3, h4]; rfl
theorem seal_tag_len {key : List Int} {role : Int} {sn : List Int} {epoch seq kind : Int} {plain : List Int} (h : sealB key role sn epoch seq kind plain = true) : (sealD key role sn epoch seq kind plain).tag.length = 16 := by
 exact tagI_len _ _ (by have := (seal_may h).1; omega) (by have := tagIn_le role (draftD sn epoch seq kind (mixI key (headL role sn epoch seq) plain) (List.replicate 16 0)); omega)
theorem seal_canD {key : List Int} {role : Int} {sn : List Int} {epoch seq kind : Int} {plain : List Int} (h : sealB key role sn epoch seq kind plain = true) : canTag role (sealD key role sn epoch seq kind plain) = true := seal_can _ (seal_tag_len h) h
theorem seal_ok {key : List Int} {role : Int} {sn : List Int} {epoch seq kind : Int} {plain : List Int} (h : sealB key role sn epoch seq kind plain = true) : frameOk (sealD key role sn epoch seq kind plain) = true := (canTag_parts (seal_canD h)).2.2
theorem sealF_yes {key : List Int} {role : Int} {sn : List Int} {epoch seq kind : Int} {plain : List Int} (h : sealB key role sn epoch seq kind plain = true) : sealF key role sn epoch seq kind plain = sealD key role sn epoch seq kind plain := by unfold sealF; rw [if_pos h]
theorem sealF_no {key : List Int} {role : Int} {sn : List Int} {epoch seq kind : Int} {plain : List Int} (h : sealB key role sn epoch seq kind plain = false) : sealF key role sn epoch seq kind plain = zeroF := by unfold sealF; rw [if_neg (by rw [h]; simp)]
theorem unsealL_yes {key : List Int} {role : Int} {D : FrD} (h : unsealB key role D = true) : unsealL key role D = mixI key (headL role D.sn D.epoch D.seq) D.body := by unfold unsealL; rw [if_pos h]
theorem unsealL_no {key : List Int} {role : Int} {D : FrD} (h : unsealB key role D = false) : unsealL key role D = [] := by unfold unsealL; rw [if_neg (by rw [h]; simp)]
theorem unseal_parts {key : List Int} {role : Int} {D : FrD} (h : unsealB key role D = true) : key.length = 32 ∧ canTag role D = true ∧ D.tag = tagI key (tagIn role D) := by
 unfold unsealB at h; simp at h; exact ⟨by omega, h.2.1, h.2.2⟩
theorem mixI_bytes (k h b : List Int) (hb : Bytes b) : Bytes (mixI k h b) := by
 by_cases e : mayStr k h (b.length : Int) = true
 ·
  rw [mixI_of _ _ _ e]; exact xors_bytes hb (strI_bytes _ _ _)
 ·
  rw [mixI_no _ _ _ (by simpa using e)]; exact fun z hz => by cases hz
theorem sealD_short {key : List Int} {role : Int} {sn : List Int} {epoch seq kind : Int} {plain : List Int} (h : sealB key role sn epoch seq kind plain = true) : FrShort (sealD key role sn epoch seq kind plain) 100 := FrQ3.short_ok _ (seal_ok h)
theorem zeroF_short (n : Nat) : FrShort zeroF n := ⟨Nat.zero_le _, Nat.zero_le _, Nat.zero_le _, Nat.zero_le _, Nat.zero_le _, Nat.zero_le _⟩
theorem short_le {D : FrD} {n m : Nat} (h : FrShort D n) (hm : n ≤ m) : FrShort D m := ⟨by have := h.cn; omega, by have := h.sn; omega, by have := h.cookie; omega, by have := h.proof; omega, by have := h.body; omega, by have := h.tag; omega⟩
theorem sealF_short (key : List Int) (role : Int) (sn : List Int) (epoch seq kind : Int) (plain : List Int) : FrShort (sealF key role sn epoch seq kind plain) 100 := by
 by_cases h : sealB key role sn epoch seq kind plain = true
 ·
  rw [sealF_yes h]; exact sealD_short h
 ·
  rw [sealF_no (by simpa using h)]; exact zeroF_short _
end Go.Proofs.YtmcflfpckpjphaaGreatDoor.SlQ

namespace Go.Proofs.YtmcflfpckpjphaaGreatDoor.EpQ
open Go.RowKit Mem Words Zone ZoneI WnZ WinP WnK WnG FrZ FrP FrG EpZ EpL EpP SlP SlQ

noncomputable def eoForm (E : EpD) (role : Int) (D : FrD) : Bool := epOk E && (canTag role D && (D.epoch == E.n))
noncomputable def eoCode (E : EpD) (role : Int) (D : FrD) : Int :=
 if eoForm E role D = false then 1 else if winMay E.win.top E.win.bits D.seq = false then 3 else if unsealB E.key role D = false then 2 else 0
noncomputable def eoE (E : EpD) (role : Int) (D : FrD) : EpD := if eoCode E role D = 0 then { E with win := addD E.win D.seq } else E
noncomputable def eoL (E : EpD) (role : Int) (D : FrD) : List Int := if eoCode E role D = 0 then unsealL E.key role D else []
theorem eo_1 {E : EpD} {role : Int} {D : FrD} (h : eoForm E role D = false) : eoCode E role D = 1 := by unfold eoCode; rw [if_pos h]
theorem eo_3 {E : EpD} {role : Int} {D : FrD} (h : eoForm E role D = true) (h3 : winMay E.win.top E.win.bits D.seq = false) : eoCode E role D = 3 := by unfold eoCode; rw [if_neg (by rw [h]; simp), if_pos h3]
theorem eo_2 {E : EpD} {role : Int} {D : FrD} (h : eoForm E role D = true) (h3 : winMay E.win.top E.win.bits D.seq = true) (h2 : unsealB E.key role D = false) : eoCode E role D = 2 := by unfold eoCode; rw [if_neg (by rw [h]; simp), if_neg (by rw [h3]; simp), if_pos h2]
theorem eo_0 {E : EpD} {role : Int} {D : FrD} (h : eoForm E role D = true) (h3 : winMay E.win.top E.win.bits D.seq = true) (h2 : unsealB E.key role D = true) : eoCode E role D = 0 := by unfold eoCode; rw [if_neg (by rw [h]; simp), if_neg (by rw [h3]; simp), if_neg (by rw [h2]; simp)]
theorem eoE_no {E : EpD} {role : Int} {D : FrD} (h : eoCode E role D ≠ 0) : eoE E role D = E := by unfold eoE; rw [if_neg h]
theorem eoE_yes {E : EpD} {role : Int} {D : FrD} (h : eoCode E role D = 0) : eoE E role D = { E with win := addD E.win D.seq } := by unfold eoE; rw [if_pos h]
theorem eoL_no {E : EpD} {role : Int} {D : FrD} (h : eoCode E role D ≠ 0) : eoL E role D = [] := by unfold eoL; rw [if_neg h]
theorem eoL_yes {E : EpD} {role : Int} {D : FrD} (h : eoCode E role D = 0) : eoL E role D = unsealL E.key role D := by unfold eoL; rw [if_pos h]
end Go.Proofs.YtmcflfpckpjphaaGreatDoor.EpQ

namespace Go.Proofs.YtmcflfpckpjphaaGreatDoor.KeyI
open Go.RowKit Words

theorem isEpoch (x : Int) (w : World) :
  Calls Tryz.prog 80 #[.int .i64 x] w fun e w' => e = .returned (.bool (isIn x 0 4294967295)) ∧ w = w' := by
 by_cases h1 : x ≥ 0
 ·
  by_cases h2 : x ≤ 4294967295
  ·
   have H : Hid (isIn x 0 4294967295 = true) := isIn_yes ⟨h1, by omega⟩
   go_enter Tryz.func80, Tryz.ntmps80
   go_wp2
   go_ret
   exact ⟨by rw [H.out]; simp, rfl⟩
  ·
   have H : Hid (isIn x 0 4294967295 = false) := isIn_no (fun h => h2 (by omega))
   go_enter Tryz.func80, Tryz.ntmps80
   go_wp2
   go_ret
   exact ⟨by rw [H.out]; simp, rfl⟩
 ·
  have H : Hid (isIn x 0 4294967295 = false) := isIn_no (fun h => h1 h.1)
  go_enter Tryz.func80, Tryz.ntmps80
  go_wp2
  go_ret
  exact ⟨by rw [H.out]; simp, rfl⟩

theorem isKey (a : Option Addr) (n c : Nat) (w : World) :
  Calls Tryz.prog 66 #[.slice a n c] w fun e w' => e = .returned (.bool ((n : Int) == 32)) ∧ w = w' := by
 go_enter Tryz.func66, Tryz.ntmps66
 go_wp2
 go_ret
 exact ⟨by simp, rfl⟩
end Go.Proofs.YtmcflfpckpjphaaGreatDoor.KeyI

namespace Go.Proofs.YtmcflfpckpjphaaGreatDoor.EpI
open Go.RowKit Mem MemI App Blk Words Zone ZoneI Res WnZ WinP WnC WnK WnG EpZ EpL EpP KeyI

set_option maxHeartbeats 8000000 in
theorem implCopyEp (S : EpS) (D : EpD) (w : World) (h : EpRd w S D) (hl : EpShort D 4194304) :
  Calls Tryz.prog 76 #[epV D S] w (AnsE D w) := by
 have HR := hid (h)
 have HL := hid (hl)
 obtain ⟨x0, hx0⟩ : ∃ x0, (w.alloc (.cells #[.int .i64 D.n, .slice S.key.a S.key.n S.key.c, .int .i64 D.seq, .int .i64 D.win.top, .slice S.win.bits.a S.win.bits.n S.win.bits.c] 41)).alloc (.cells #[.int .i64 0, .slice none 0 0, .int .i64 0, .int .i64 0, .slice none 0 0] 41) = x0 := ⟨_, rfl⟩
 have HW0 := hid (hx0)
 have B0 : Hid (Below w.heap.size w x0) := by rw [← hx0]; exact ((Below.refl _ _).alloc (Nat.le_refl _) _).alloc (by simp) _
 have KA : Hid (Blk x0 w.heap.size 41 [.int .i64 D.n, .slice S.key.a S.key.n S.key.c, .int .i64 D.seq, .int .i64 D.win.top, .slice S.win.bits.a S.win.bits.n S.win.bits.c]) := by rw [← hx0]; exact (Blk.new w _ _).alloc _
 have KO : Hid (Blk x0 (w.heap.size + 1) 41 [.int .i64 0, .slice none 0 0, .int .i64 0, .int .i64 0, .slice none 0 0]) := by
  have := Blk.new (w.alloc (.cells #[.int .i64 D.n, .slice S.key.a S.key.n S.key.c, .int .i64 D.seq, .int .i64 D.win.top, .slice S.win.bits.a S.win.bits.n S.win.bits.c] 41)) 41 [.int .i64 0, .slice none 0 0, .int .i64 0, .int .i64 0, .slice none 0 0]
  rw [World.size_alloc] at this
  rw [← hx0]; exact this
 have HSZ : x0.heap.size = w.heap.size + 2 := by rw [← hx0]; simp
 clear h hl hx0
 unfold epV
 go_enter Tryz.func76, Tryz.ntmps76
 go_upto_region 1 with fail
 rw [HW0.out]
 obtain ⟨ga, hga⟩ : ∃ ga, w.heap.size = ga := ⟨_, rfl⟩
 obtain ⟨go, hgo⟩ : ∃ go, w.heap.size + 1 = go := ⟨_, rfl⟩
 have HG : Hid (w.heap.size = ga ∧ go = ga + 1 ∧ x0.heap.size = ga + 2) := ⟨hga, by omega, by omega⟩
 have NE : Hid (ga ≠ go) := by show _ ≠ _; omega
 rw [hgo] at KO
 rw [hga] at KA
 rw [hgo, hga]
 clear HW0 hga hgo HSZ
 obtain ⟨dz0, dz1, dz2, dz3, dz4⟩ := cells5 KA.out
 obtain ⟨oz0, oz1, oz2, oz3, oz4⟩ := cells5 KO.out
 go_region_held3 (fun w' => w'.cell? ⟨ga, 0, none⟩ = some (.int .i64 D.n) ∧ w'.cell? ⟨ga, 1, none⟩ = some (.slice S.key.a S.key.n S.key.c) ∧ w'.cell? ⟨ga, 2, none⟩ = some (.int .i64 D.seq) ∧ w'.cell? ⟨ga, 3, none⟩ = some (.int .i64 D.win.top) ∧ w'.cell? ⟨ga, 4, none⟩ = some (.slice S.win.bits.a S.win.bits.n S.win.bits.c)) (first | with_reducible exact ⟨e0, e1, e2, e3, e4⟩ | with_reducible exact ⟨d0, d1, d2, d3, d4⟩ | with_reducible exact ⟨dz0, dz1, dz2, dz3, dz4⟩ | with_reducible exact ⟨el0 _ _ _ _ _, el1 _ _ _ _ _, el2 _ _ _ _ _, el3 _ _ _ _ _, el4 _ _ _ _ _⟩ | exact ⟨dz0, dz1, dz2, dz3, dz4⟩ | go_keep)
  (first
   | (go_at_call 121; refine (implCopy S.win D.win y1 ((HR.out.later (B0.out.trans (T1.out.mono B0.out.size))).win) HL.out.win.bits).mono ?_; rintro e y2 ⟨S2, rfl, o, b⟩; have Ow := hid (o); have Ok2 := hid ((Ok.out.carry (Kept.of_below b y1.heap.size) (.inl (Nat.le_refl _)))); have T2 := hid (T1.out.trans (b.mono T1.out.size)); have L12 : Hid (x0.heap.size ≤ y1.heap.size ∧ y1.heap.size ≤ y2.heap.size) := ⟨T1.out.size, b.size⟩; unfold wnV; have e0 := (KA.out.later T2.out).cell 0 rfl; have e1 := (KA.out.later T2.out).cell 1 rfl; have e2 := (KA.out.later T2.out).cell 2 rfl; have e3 := (KA.out.later T2.out).cell 3 rfl; have e4 := (KA.out.later T2.out).cell 4 rfl; have oe0 := (KO.out.later T2.out).cell 0 rfl; have fe0 := (KO.out.later T2.out).frozen 0; have oe1 := (KO.out.later T2.out).cell 1 rfl; have fe1 := (KO.out.later T2.out).frozen 1; have oe2 := (KO.out.later T2.out).cell 2 rfl; have fe2 := (KO.out.later T2.out).frozen 2; have oe3 := (KO.out.later T2.out).cell 3 rfl; have fe3 := (KO.out.later T2.out).frozen 3; have oe4 := (KO.out.later T2.out).cell 4 rfl; have fe4 := (KO.out.later T2.out).frozen 4; have el0 := fun (v0 v1 v2 v3 v4 : Value) => (ep_other (KA.out.later T2.out) NE.out v0 v1 v2 v3 v4).cell 0 rfl; have el1 := fun (v0 v1 v2 v3 v4 : Value) => (ep_other (KA.out.later T2.out) NE.out v0 v1 v2 v3 v4).cell 1 rfl; have el2 := fun (v0 v1 v2 v3 v4 : Value) => (ep_other (KA.out.later T2.out) NE.out v0 v1 v2 v3 v4).cell 2 rfl; have el3 := fun (v0 v1 v2 v3 v4 : Value) => (ep_other (KA.out.later T2.out) NE.out v0 v1 v2 v3 v4).cell 3 rfl; have el4 := fun (v0 v1 v2 v3 v4 : Value) => (ep_other (KA.out.later T2.out) NE.out v0 v1 v2 v3 v4).cell 4 rfl; clear o b)
   | (go_at_call 57; refine (putBytes S.key.a none S.key.n S.key.c 0 0 D.key [] x0.drew HR.out.key.len rfl ((HR.out.later (B0.out.drew)).key.rd) (fun i hi => by cases hi) HR.out.key.nil (fun _ => rfl) HL.out.key (by simp)).mono ?_; rintro e y1 ⟨rfl, r, b⟩; have Ok : Hid (SOwn y1 x0.drew.heap.size y1.heap.size ⟨some ⟨x0.drew.heap.size, 0, none⟩, S.key.n + 0, S.key.n + 0⟩ D.key) := (by have r' : Row y1 x0.drew.heap.size (S.key.n + 0) D.key := (by simpa using r); exact SOwn.row r' HR.out.key.len HR.out.key.bytes (Nat.le_refl _) r'.lt); have T1 : Hid (Below x0.heap.size x0 y1) := (Below.refl _ _).drew.trans b; have d0 := (KA.out.later T1.out).cell 0 rfl; have d1 := (KA.out.later T1.out).cell 1 rfl; have d2 := (KA.out.later T1.out).cell 2 rfl; have d3 := (KA.out.later T1.out).cell 3 rfl; have d4 := (KA.out.later T1.out).cell 4 rfl; have od0 := (KO.out.later T1.out).cell 0 rfl; have fd0 := (KO.out.later T1.out).frozen 0; have od1 := (KO.out.later T1.out).cell 1 rfl; have fd1 := (KO.out.later T1.out).frozen 1; have od2 := (KO.out.later T1.out).cell 2 rfl; have fd2 := (KO.out.later T1.out).frozen 2; have od3 := (KO.out.later T1.out).cell 3 rfl; have fd3 := (KO.out.later T1.out).frozen 3; have od4 := (KO.out.later T1.out).cell 4 rfl; have fd4 := (KO.out.later T1.out).frozen 4; clear r b))
 clear dz0 d0 e0 el0 oz0 od0 oe0 fd0 fe0 dz1 d1 e1 el1 oz1 od1 oe1 fd1 fe1 dz2 d2 e2 el2 oz2 od2 oe2 fd2 fe2 dz3 d3 e3 el3 oz3 od3 oe3 fd3 fe3 dz4 d4 e4 el4 oz4 od4 oe4 fd4 fe4
 have KF := ep_stored (D := D) (S := ⟨⟨some ⟨x0.drew.heap.size, 0, none⟩, S.key.n + 0, S.key.n + 0⟩, S2⟩) (lo := x0.drew.heap.size) (hi := y2.heap.size) (KO.out.later T2.out) ⟨_, _, _, _, Ok2.out, Ow.out, by have := L12.out; have : x0.drew.heap.size = x0.heap.size := rfl; omega⟩ (.inl (by have := HG.out; have : x0.drew.heap.size = x0.heap.size := rfl; omega))
 obtain ⟨k1, k2, k3⟩ := KF
 have HB : Below w.heap.size w y2 := B0.out.trans (T2.out.mono B0.out.size)
 go_wp2
 exact bodyPost_ret (v := epV D ⟨⟨some ⟨x0.drew.heap.size, 0, none⟩, S.key.n + 0, S.key.n + 0⟩, S2⟩) (res1 rfl (is_cell rfl k1 aggEp)) rfl ⟨⟨⟨some ⟨x0.drew.heap.size, 0, none⟩, S.key.n + 0, S.key.n + 0⟩, S2⟩, rfl, k2.mono (by have := HG.out; have : x0.drew.heap.size = x0.heap.size := rfl; omega) (by rw [ep_size]; exact Nat.le_refl _), k3 _ _ (by have := HG.out; omega) HB⟩

set_option maxHeartbeats 8000000 in
theorem implEpOk (S : EpS) (D : EpD) (w : World) (h : EpRd w S D) :
  Calls Tryz.prog 29 #[epV D S] w fun e w' => e = .returned (.bool (epOk D)) ∧ Below w.heap.size w w' := by
 have HR := hid (h)
 obtain ⟨v, hv⟩ : ∃ v, epOk D = v := ⟨_, rfl⟩
 have HV : Hid (epOk D = v) := hv
 have HN : Hid (S.key.n = D.key.length) := h.key.len
 rw [hv]
 obtain ⟨x0, hx0⟩ : ∃ x0, w.alloc (.cells #[.int .i64 D.n, .slice S.key.a S.key.n S.key.c, .int .i64 D.seq, .int .i64 D.win.top, .slice S.win.bits.a S.win.bits.n S.win.bits.c] 41) = x0 := ⟨_, rfl⟩
 have HW0 := hid (hx0)
 have B0 : Hid (Below w.heap.size w x0) := by rw [← hx0]; exact (Below.refl _ _).alloc (Nat.le_refl _) _
 have K0 : Hid (Blk x0 w.heap.size 41 [.int .i64 D.n, .slice S.key.a S.key.n S.key.c, .int .i64 D.seq, .int .i64 D.win.top, .slice S.win.bits.a S.win.bits.n S.win.bits.c]) := by rw [← hx0]; exact Blk.new w _ _
 clear h hv hx0
 unfold epV
 go_enter Tryz.func29, Tryz.ntmps29
 go_upto_region 1 with fail
 rw [HW0.out]
 obtain ⟨ga, hga⟩ : ∃ ga, w.heap.size = ga := ⟨_, rfl⟩
 rw [hga] at K0
 rw [hga]
 clear hga HW0
 obtain ⟨d0, d1, d2, d3, d4⟩ := cells5 K0.out
 go_wp2_with fail
 refine (isEpoch D.n x0).mono ?_
 rintro e y ⟨rfl, rfl⟩
 cases h0 : isIn D.n 0 4294967295 with
 | false =>
  obtain rfl : v = false := by rw [← HV.out]; unfold epOk; simp [h0]
  go_wp2
  go_ret
  exact ⟨rfl, B0.out⟩
 | true =>
  go_wp2_with fail
  refine (isKey S.key.a S.key.n S.key.c x0).mono ?_
  rintro e y ⟨rfl, rfl⟩
  cases h1 : ((S.key.n : Int) == 32) with
  | false =>
   obtain rfl : v = false := by have hn := HN.out; rw [← HV.out]; unfold epOk; rw [← hn]; simp [h1]
   go_wp2
   go_ret
   exact ⟨rfl, B0.out⟩
  | true =>
   by_cases h2 : D.seq ≥ 0
   case neg =>
    obtain rfl : v = false := by rw [← HV.out]; unfold epOk; rw [isIn_no (x := D.seq) (fun h => h2 h.1)]; simp
    go_wp2
    go_ret
    exact ⟨rfl, B0.out⟩
   by_cases h3 : D.seq ≤ 281474976710656
   case neg =>
    obtain rfl : v = false := by rw [← HV.out]; unfold epOk; rw [isIn_no (x := D.seq) (fun h => h3 h.2)]; simp
    go_wp2
    go_ret
    exact ⟨rfl, B0.out⟩
   have HQ : Hid (isIn D.seq 0 281474976710656 = true) := isIn_yes ⟨h2, h3⟩
   obtain rfl : v = winOk D.win.top D.win.bits := by have hn := HN.out; rw [← HV.out]; unfold epOk; rw [HQ.out, h0, ← hn, h1]; simp
   go_wp2_with fail
   refine (implWinOk S.win D.win x0 (HR.out.later B0.out).win).mono ?_
   rintro e x1 ⟨rfl, b1⟩
   have B1 := hid (B0.out.trans (b1.mono B0.out.size))
   clear b1 d0 d1 d2 d3 d4
   go_wp2
   go_ret
   exact ⟨rfl, B1.out⟩

end Go.Proofs.YtmcflfpckpjphaaGreatDoor.EpI

namespace Go.Proofs.YtmcflfpckpjphaaGreatDoor.FrSe
open Go.RowKit Mem Words Zone FrT FrW3

set_option maxHeartbeats 1600000 in
theorem implSealed (k : Int) (w : World) :
  Calls Tryz.prog 107 #[.int .i64 k] w fun e w' => e = .returned (.bool (isIn k 4 8)) ∧ Below w.heap.size w w' := by
 by_cases k1 : k = 1
 ·
  subst k1
  go_enter Tryz.func107, Tryz.ntmps107
  go_wp2_with fail
  refine (wordOf1 0 ⟨none, 0, 0⟩ ⟨none, 0, 0⟩ 0 ⟨none, 0, 0⟩ ⟨none, 0, 0⟩ 0 0 ⟨none, 0, 0⟩ ⟨none, 0, 0⟩ w).mono ?_
  rintro e x1 ⟨rfl, b1⟩
  have B1 := hid (b1)
  clear b1
  go_wp2_with fail
  refine (isSealed1 0 ⟨none, 0, 0⟩ x1).mono ?_
  rintro e y ⟨rfl, rfl⟩
  go_wp2
  go_ret
  exact ⟨rfl, B1.out⟩
 by_cases k2 : k = 2
 ·
  subst k2
  go_enter Tryz.func107, Tryz.ntmps107
  go_wp2_with fail
  refine (wordOf2 0 ⟨none, 0, 0⟩ ⟨none, 0, 0⟩ 0 ⟨none, 0, 0⟩ ⟨none, 0, 0⟩ 0 0 ⟨none, 0, 0⟩ ⟨none, 0, 0⟩ w).mono ?_
  rintro e x1 ⟨rfl, b1⟩
  have B1 := hid (b1)
  clear b1
  go_wp2_with fail
  refine (isSealed2 ⟨none, 0, 0⟩ ⟨none, 0, 0⟩ 0 ⟨none, 0, 0⟩ x1).mono ?_
  rintro e y ⟨rfl, rfl⟩
  go_wp2
  go_ret
  exact ⟨rfl, B1.out⟩
 by_cases k3 : k = 3
 ·
  subst k3
  go_enter Tryz.func107, Tryz.ntmps107
  go_wp2_with fail
  refine (wordOf3 0 ⟨none, 0, 0⟩ ⟨none, 0, 0⟩ 0 ⟨none, 0, 0⟩ ⟨none, 0, 0⟩ 0 0 ⟨none, 0, 0⟩ ⟨none, 0, 0⟩ w).mono ?_
  rintro e x1 ⟨rfl, b1⟩
  have B1 := hid (b1)
  clear b1
  go_wp2_with fail
  refine (isSealed3 0 ⟨none, 0, 0⟩ ⟨none, 0, 0⟩ 0 ⟨none, 0, 0⟩ ⟨none, 0, 0⟩ x1).mono ?_
  rintro e y ⟨rfl, rfl⟩
  go_wp2
  go_ret
  exact ⟨rfl, B1.out⟩
 by_cases k4 : k = 4
 ·
  subst k4
  go_enter Tryz.func107, Tryz.ntmps107
  go_wp2_with fail
  refine (wordOf4 0 ⟨none, 0, 0⟩ ⟨none, 0, 0⟩ 0 ⟨none, 0, 0⟩ ⟨none, 0, 0⟩ 0 0 ⟨none, 0, 0⟩ ⟨none, 0, 0⟩ w).mono ?_
  rintro e x1 ⟨rfl, b1⟩
  have B1 := hid (b1)
  clear b1
  go_wp2_with fail
  refine (isSealed4 ⟨none, 0, 0⟩ 0 0 ⟨none, 0, 0⟩ ⟨none, 0, 0⟩ x1).mono ?_
  rintro e y ⟨rfl, rfl⟩
  go_wp2
  go_ret
  exact ⟨rfl, B1.out⟩
 by_cases k5 : k = 5
 ·
  subst k5
  go_enter Tryz.func107, Tryz.ntmps107
  go_wp2_with fail
  refine (wordOf5 0 ⟨none, 0, 0⟩ ⟨none, 0, 0⟩ 0 ⟨none, 0, 0⟩ ⟨none, 0, 0⟩ 0 0 ⟨none, 0, 0⟩ ⟨none, 0, 0⟩ w).mono ?_
  rintro e x1 ⟨rfl, b1⟩
  have B1 := hid (b1)
  clear b1
  go_wp2_with fail
  refine (isSealed5 ⟨none, 0, 0⟩ 0 0 ⟨none, 0, 0⟩ ⟨none, 0, 0⟩ x1).mono ?_
  rintro e y ⟨rfl, rfl⟩
  go_wp2
  go_ret
  exact ⟨rfl, B1.out⟩
 by_cases k6 : k = 6
 ·
  subst k6
  go_enter Tryz.func107, Tryz.ntmps107
  go_wp2_with fail
  refine (wordOf6 0 ⟨none, 0, 0⟩ ⟨none, 0, 0⟩ 0 ⟨none, 0, 0⟩ ⟨none, 0, 0⟩ 0 0 ⟨none, 0, 0⟩ ⟨none, 0, 0⟩ w).mono ?_
  rintro e x1 ⟨rfl, b1⟩
  have B1 := hid (b1)
  clear b1
  go_wp2_with fail
  refine (isSealed6 ⟨none, 0, 0⟩ 0 0 ⟨none, 0, 0⟩ ⟨none, 0, 0⟩ x1).mono ?_
  rintro e y ⟨rfl, rfl⟩
  go_wp2
  go_ret
  exact ⟨rfl, B1.out⟩
 by_cases k7 : k = 7
 ·
  subst k7
  go_enter Tryz.func107, Tryz.ntmps107
  go_wp2_with fail
  refine (wordOf7 0 ⟨none, 0, 0⟩ ⟨none, 0, 0⟩ 0 ⟨none, 0, 0⟩ ⟨none, 0, 0⟩ 0 0 ⟨none, 0, 0⟩ ⟨none, 0, 0⟩ w).mono ?_
  rintro e x1 ⟨rfl, b1⟩
  have B1 := hid (b1)
  clear b1
  go_wp2_with fail
  refine (isSealed7 ⟨none, 0, 0⟩ 0 0 ⟨none, 0, 0⟩ ⟨none, 0, 0⟩ x1).mono ?_
  rintro e y ⟨rfl, rfl⟩
  go_wp2
  go_ret
  exact ⟨rfl, B1.out⟩
 by_cases k8 : k = 8
 ·
  subst k8
  go_enter Tryz.func107, Tryz.ntmps107
  go_wp2_with fail
  refine (wordOf8 0 ⟨none, 0, 0⟩ ⟨none, 0, 0⟩ 0 ⟨none, 0, 0⟩ ⟨none, 0, 0⟩ 0 0 ⟨none, 0, 0⟩ ⟨none, 0, 0⟩ w).mono ?_
  rintro e x1 ⟨rfl, b1⟩
  have B1 := hid (b1)
  clear b1
  go_wp2_with fail
  refine (isSealed8 ⟨none, 0, 0⟩ 0 0 ⟨none, 0, 0⟩ ⟨none, 0, 0⟩ x1).mono ?_
  rintro e y ⟨rfl, rfl⟩
  go_wp2
  go_ret
  exact ⟨rfl, B1.out⟩
 have hf : Hid (isIn k 4 8 = false) := isIn_no (by omega)
 have e1 : (k == 1) = false := by simpa using k1
 have e2 : (k == 2) = false := by simpa using k2
 have e3 : (k == 3) = false := by simpa using k3
 have e4 : (k == 4) = false := by simpa using k4
 have e5 : (k == 5) = false := by simpa using k5
 have e6 : (k == 6) = false := by simpa using k6
 have e7 : (k == 7) = false := by simpa using k7
 have e8 : (k == 8) = false := by simpa using k8
 clear k1 k2 k3 k4 k5 k6 k7 k8
 go_enter Tryz.func107, Tryz.ntmps107
 go_wp2_with fail
 refine (wordOf0 k 0 ⟨none, 0, 0⟩ ⟨none, 0, 0⟩ 0 ⟨none, 0, 0⟩ ⟨none, 0, 0⟩ 0 0 ⟨none, 0, 0⟩ ⟨none, 0, 0⟩ e1 e2 e3 e4 e5 e6 e7 e8 w).mono ?_
 rintro e x1 ⟨rfl, b1⟩
 have B1 := hid (b1)
 clear b1
 go_wp2_with fail
 refine (isSealed0 x1).mono ?_
 rintro e y ⟨rfl, rfl⟩
 go_wp2
 go_ret
 exact ⟨by rw [hf.out]; rfl, B1.out⟩
end Go.Proofs.YtmcflfpckpjphaaGreatDoor.FrSe

namespace Go.Proofs.YtmcflfpckpjphaaGreatDoor.SlI
open Go.RowKit Mem App Blk Words Zone Res FrZ FrP FrG FrQ SlP FrW FrQ2 FrQ3 FrO2 FrSe

theorem isRole (x : Int) (w : World) :
  Calls Tryz.prog 106 #[.int .i64 x] w fun e w' => e = .returned (.bool (isIn x 0 1)) ∧ w = w' := by
 by_cases h1 : x = 0
 ·
  subst h1
  go_enter Tryz.func106, Tryz.ntmps106
  go_wp2
  go_ret
  exact ⟨rfl, rfl⟩
 ·
  by_cases h2 : x = 1
  ·
   subst h2
   go_enter Tryz.func106, Tryz.ntmps106
   go_wp2
   go_ret
   exact ⟨rfl, rfl⟩
  ·
   have H : Hid (isIn x 0 1 = false) := isIn_no (fun h => by omega)
   have k1 : (x == 0) = false := by simpa using h1
   have k2 : (x == 1) = false := by simpa using h2
   clear h1 h2
   go_enter Tryz.func106, Tryz.ntmps106
   go_wp2
   go_ret
   exact ⟨by rw [H.out]; rfl, rfl⟩
theorem isKey (a : Option Addr) (n c : Nat) (w : World) :
  Calls Tryz.prog 66 #[.slice a n c] w fun e w' => e = .returned (.bool ((n : Int) == 32)) ∧ w = w' := by
 go_enter Tryz.func66, Tryz.ntmps66
 go_wp2
 go_ret
 exact ⟨by simp, rfl⟩
theorem new_nil {w x : World} (b : Below w.heap.size w x) : New w [] (.returned (.slice (some ⟨x.heap.size, 0, none⟩) 0 0)) (x.alloc (.cells #[] 5)) :=
 ⟨x.heap.size, 0, 0, rfl, rfl, b.size, ⟨Nat.le_refl _, by unfold maxLen; omega, #[], heap_alloc_new x _, rfl, rfl⟩, b.alloc b.size _⟩
theorem lay_head {role : Int} {l : List Int} {epoch seq : Int} (h : headOk role l.length epoch seq = true) : [] ++ putN role 1 ++ l ++ putN epoch 4 ++ putN seq 6 = headL role l epoch seq := by
 rw [headL_yes _ _ _ _ h]
 have h1 := ((headOk_iff _ _ _ _).1 h).1
 rw [putN_one role h1.1 (by omega)]
 rfl

set_option maxHeartbeats 8000000 in
theorem implHeadOf (role : Int) (s : Sl) (l : List Int) (epoch seq : Int) (w : World) (h : SRd w s l) :
  Calls Tryz.prog 101 #[.int .i64 role, .slice s.a s.n s.c, .int .i64 epoch, .int .i64 seq] w (New w (headL role l epoch seq)) := by
 have HR := hid (h)
 obtain ⟨H, hH⟩ : ∃ H, headL role l epoch seq = H := ⟨_, rfl⟩
 have HH : Hid (headL role l epoch seq = H) := hH
 have HN : Hid (s.n = l.length) := h.len
 rw [hH]
 clear h hH
 go_enter Tryz.func101, Tryz.ntmps101
 go_wp2_with fail
 refine (isRole role w).mono ?_
 rintro e y ⟨rfl, rfl⟩
 cases h0 : (isIn role 0 1) with
 | false =>
  have HF : Hid (headL role l epoch seq = []) := headL_no _ _ _ _ (by unfold headOk; rw [← HN.out]; simp [h0])
  obtain rfl : H = [] := by rw [← HH.out, HF.out]
  go_wp2
  go_ret
  exact new_nil (Below.refl _ _)
 | true =>
  go_wp2_with fail
  refine (isNonce s.a s.n s.c w).mono ?_
  rintro e y ⟨rfl, rfl⟩
  cases h1 : (((s.n : Int) == 12)) with
  | false =>
   have HF : Hid (headL role l epoch seq = []) := headL_no _ _ _ _ (by unfold headOk; rw [← HN.out]; simp [h0, h1])
   obtain rfl : H = [] := by rw [← HH.out, HF.out]
   go_wp2
   go_ret
   exact new_nil (Below.refl _ _)
  | true =>
   go_wp2_with fail
   refine (isEpoch epoch w).mono ?_
   rintro e y ⟨rfl, rfl⟩
   cases h2 : (isIn epoch 0 4294967295) with
   | false =>
    have HF : Hid (headL role l epoch seq = []) := headL_no _ _ _ _ (by unfold headOk; rw [← HN.out]; simp [h0, h1, h2])
    obtain rfl : H = [] := by rw [← HH.out, HF.out]
    go_wp2
    go_ret
    exact new_nil (Below.refl _ _)
   | true =>
    go_wp2_with fail
    refine (isSeq seq w).mono ?_
    rintro e y ⟨rfl, rfl⟩
    cases h3 : (isIn seq 0 281474976710655) with
    | false =>
     have HF : Hid (headL role l epoch seq = []) := headL_no _ _ _ _ (by unfold headOk; rw [← HN.out]; simp [h0, h1, h2, h3])
     obtain rfl : H = [] := by rw [← HH.out, HF.out]
     go_wp2
     go_ret
     exact new_nil (Below.refl _ _)
    | true =>
     have HY : Hid (headOk role l.length epoch seq = true) := by show headOk _ _ _ _ = true; unfold headOk; rw [← HN.out]; simp [h0, h1, h2, h3]
     have HL : Hid (l.length = 12) := by have := ((headOk_iff _ _ _ _).1 HY.out).2.1; show _ = _; omega
     clear h0 h1 h2 h3
     go_wp2_with fail
     refine (putK ⟨none, 0, 0⟩ [] role 1 w (nilRd w) (by simp)).mono ?_
     rintro e x1 ⟨g1, m1, c1, rfl, em1, k1, r1, b1⟩
     have R1 := hid (r1)
     have EM1 : Hid (m1 = ([] ++ putN role 1).length) := em1
     have B1 := hid (b1)
     have LN1 : Hid (([] ++ putN role 1).length ≤ 10) := by show _ ≤ _; have := putN_length role 1; simp only [List.nil_append]; omega
     have Y1 : Hid (Bytes ([] ++ putN role 1)) := putN_bytes role 1
     clear em1 k1 r1 b1
     go_wp2_with fail
     refine (putB ⟨some ⟨g1, 0, none⟩, m1, c1⟩ s ([] ++ putN role 1) l x1 (rowRd R1.out EM1.out Y1.out) (HR.out.later B1.out) (by have := LN1.out; omega) (by have := HL.out; omega)).mono ?_
     rintro e x2 ⟨g2, m2, c2, rfl, em2, k2, r2, b2⟩
     have R2 := hid (r2)
     have EM2 : Hid (m2 = ([] ++ putN role 1 ++ l).length) := em2
     have B2 := hid (B1.out.trans (b2.mono B1.out.size))
     have LN2 : Hid (([] ++ putN role 1 ++ l).length ≤ 30) := by show _ ≤ _; have := hid2 LN1 HL; rw [List.length_append]; omega
     have Y2 : Hid (Bytes ([] ++ putN role 1 ++ l)) := bytes_app Y1.out HR.out.bytes
     clear em2 k2 r2 b2
     go_wp2_with fail
     refine (putK ⟨some ⟨g2, 0, none⟩, m2, c2⟩ ([] ++ putN role 1 ++ l) epoch 4 x2 (rowRd R2.out EM2.out Y2.out) (by have := LN2.out; omega)).mono ?_
     rintro e x3 ⟨g3, m3, c3, rfl, em3, k3, r3, b3⟩
     have R3 := hid (r3)
     have EM3 : Hid (m3 = ([] ++ putN role 1 ++ l ++ putN epoch 4).length) := em3
     have B3 := hid (B2.out.trans (b3.mono B2.out.size))
     have LN3 : Hid (([] ++ putN role 1 ++ l ++ putN epoch 4).length ≤ 40) := by show _ ≤ _; have := LN2.out; have := putN_length epoch 4; rw [List.length_append]; omega
     have Y3 : Hid (Bytes ([] ++ putN role 1 ++ l ++ putN epoch 4)) := bytes_app Y2.out (putN_bytes _ _)
     clear em3 k3 r3 b3
     go_wp2_with fail
     refine (putK ⟨some ⟨g3, 0, none⟩, m3, c3⟩ ([] ++ putN role 1 ++ l ++ putN epoch 4) seq 6 x3 (rowRd R3.out EM3.out Y3.out) (by have := LN3.out; omega)).mono ?_
     rintro e x4 ⟨g4, m4, c4, rfl, em4, k4, r4, b4⟩
     have R4 : Hid (Row x4 g4 c4 H) := by rw [← HH.out, ← lay_head HY.out]; exact r4
     have EM4 : Hid (m4 = H.length) := by rw [← HH.out, ← lay_head HY.out]; exact em4
     have B4 := hid (B3.out.trans (b4.mono B3.out.size))
     have GE4 : Hid (w.heap.size ≤ g4) := Nat.le_trans B3.out.size k4
     clear em4 k4 r4 b4
     go_wp2
     go_ret
     exact ⟨g4, m4, c4, by simp, EM4.out, GE4.out, R4.out, B4.out⟩

set_option maxHeartbeats 8000000 in
theorem frameHead (role : Int) (S : FrS) (D : FrD) (w : World) (h : FrRd w S D) :
  Calls Tryz.prog 59 #[.int .i64 role, frV D S] w (New w (headL role D.sn D.epoch D.seq)) := by
 have HR := hid (h)
 obtain ⟨x0, hx0⟩ : ∃ x0, w.alloc (.cells #[.int .i64 D.kind, .int .i64 D.id, .slice S.cn.a S.cn.n S.cn.c, .slice S.sn.a S.sn.n S.sn.c, .int .i64 D.tick, .slice S.cookie.a S.cookie.n S.cookie.c, .slice S.proof.a S.proof.n S.proof.c, .int .i64 D.epoch, .int .i64 D.seq, .slice S.body.a S.body.n S.body.c, .slice S.tag.a S.tag.n S.tag.c] 27) = x0 := ⟨_, rfl⟩
 have HW0 := hid (hx0)
 have B0 : Hid (Below w.heap.size w x0) := by rw [← hx0]; exact (Below.refl _ _).alloc (Nat.le_refl _) _
 have K0 : Hid (Blk x0 w.heap.size 27 [.int .i64 D.kind, .int .i64 D.id, .slice S.cn.a S.cn.n S.cn.c, .slice S.sn.a S.sn.n S.sn.c, .int .i64 D.tick, .slice S.cookie.a S.cookie.n S.cookie.c, .slice S.proof.a S.proof.n S.proof.c, .int .i64 D.epoch, .int .i64 D.seq, .slice S.body.a S.body.n S.body.c, .slice S.tag.a S.tag.n S.tag.c]) := by rw [← hx0]; exact Blk.new w _ _
 clear hx0 h
 unfold frV
 go_enter Tryz.func59, Tryz.ntmps59
 go_upto_region 1 with fail
 rw [HW0.out]
 obtain ⟨ga, hga⟩ : ∃ ga, w.heap.size = ga := ⟨_, rfl⟩
 rw [hga] at K0
 rw [hga]
 clear hga
 have c3 := K0.out.cell 3 rfl
 have c7 := K0.out.cell 7 rfl
 have c8 := K0.out.cell 8 rfl
 go_wp2_with fail
 refine (implHeadOf role S.sn D.sn D.epoch D.seq x0 (HR.out.later B0.out).sn).mono ?_
 rintro e x1 ⟨g1, m1, c1, rfl, em1, k1, r1, b1⟩
 have R1 := hid (r1)
 have EM1 : Hid (m1 = (headL role D.sn D.epoch D.seq).length) := em1
 have B1 := hid (B0.out.trans (b1.mono B0.out.size))
 have GE1 : Hid (w.heap.size ≤ g1) := Nat.le_trans B0.out.size k1
 clear em1 k1 r1 b1
 go_wp2
 go_ret
 exact ⟨g1, m1, c1, rfl, EM1.out, GE1.out, R1.out, B1.out⟩

set_option maxHeartbeats 8000000 in
theorem implCanTag (role : Int) (S : FrS) (D : FrD) (w : World) (h : FrRd w S D) :
  Calls Tryz.prog 67 #[.int .i64 role, frV D S] w fun e w' => e = .returned (.bool (canTag role D)) ∧ Below w.heap.size w w' := by
 obtain ⟨v, hv⟩ : ∃ v, canTag role D = v := ⟨_, rfl⟩
 have HV : Hid (canTag role D = v) := hv
 rw [hv]
 clear hv
 have HR := hid (h)
 obtain ⟨x0, hx0⟩ : ∃ x0, w.alloc (.cells #[.int .i64 D.kind, .int .i64 D.id, .slice S.cn.a S.cn.n S.cn.c, .slice S.sn.a S.sn.n S.sn.c, .int .i64 D.tick, .slice S.cookie.a S.cookie.n S.cookie.c, .slice S.proof.a S.proof.n S.proof.c, .int .i64 D.epoch, .int .i64 D.seq, .slice S.body.a S.body.n S.body.c, .slice S.tag.a S.tag.n S.tag.c] 27) = x0 := ⟨_, rfl⟩
 have HW0 := hid (hx0)
 have B0 : Hid (Below w.heap.size w x0) := by rw [← hx0]; exact (Below.refl _ _).alloc (Nat.le_refl _) _
 have K0 : Hid (Blk x0 w.heap.size 27 [.int .i64 D.kind, .int .i64 D.id, .slice S.cn.a S.cn.n S.cn.c, .slice S.sn.a S.sn.n S.sn.c, .int .i64 D.tick, .slice S.cookie.a S.cookie.n S.cookie.c, .slice S.proof.a S.proof.n S.proof.c, .int .i64 D.epoch, .int .i64 D.seq, .slice S.body.a S.body.n S.body.c, .slice S.tag.a S.tag.n S.tag.c]) := by rw [← hx0]; exact Blk.new w _ _
 clear hx0 h
 unfold frV
 go_enter Tryz.func67, Tryz.ntmps67
 go_upto_region 1 with fail
 rw [HW0.out]
 obtain ⟨ga, hga⟩ : ∃ ga, w.heap.size = ga := ⟨_, rfl⟩
 rw [hga] at K0
 rw [hga]
 clear hga
 have d0 := K0.out.cell 0 rfl
 go_wp2_with fail
 refine (isRole role x0).mono ?_
 rintro e y ⟨rfl, rfl⟩
 cases h0 : isIn role 0 1 with
 | false =>
  obtain rfl : v = false := by rw [← HV.out]; unfold canTag; simp [h0]
  go_wp2
  go_ret
  exact ⟨rfl, B0.out⟩
 | true =>
  go_wp2_with fail
  refine (implSealed D.kind x0).mono ?_
  rintro e x1 ⟨rfl, b1⟩
  have B1 := hid (B0.out.trans (b1.mono B0.out.size))
  have K1 := hid (K0.out.later b1)
  clear b1 d0
  cases h1 : isIn D.kind 4 8 with
  | false =>
   obtain rfl : v = false := by rw [← HV.out]; unfold canTag; simp [h0, h1]
   go_wp2
   go_ret
   exact ⟨rfl, B1.out⟩
  | true =>
   obtain rfl : v = frameOk D := by rw [← HV.out]; unfold canTag; simp [h0, h1]
   obtain ⟨d0, d1, d2, d3, d4, d5, d6, d7, d8, d9, d10⟩ := cells11 K1.out
   go_wp2_with fail
   refine (implFrameOk S D x1 (HR.out.later B1.out)).mono ?_
   rintro e x2 ⟨rfl, b2⟩
   have B2 := hid (B1.out.trans (b2.mono B1.out.size))
   clear b2 d0 d1 d2 d3 d4 d5 d6 d7 d8 d9 d10
   go_wp2
   go_ret
   exact ⟨rfl, B2.out⟩

theorem rd_one8 {w : World} {g : Nat} (k : Blk w g 5 [.int .u8 116]) : SRd w ⟨some ⟨g, 0, none⟩, 1, 1⟩ [116] :=
 ⟨rfl, (fun i hi => by
  have : i = 0 := by simpa using hi
  subst this
  exact ⟨g, 0, rfl, k.lt, k.cell 0 rfl⟩), (fun e => by cases e), Nat.le_refl _, bytes_one (by omega) (by omega)⟩
theorem lay_tag {role : Int} {D : FrD} (h : canTag role D = true) : [116] ++ headL role D.sn D.epoch D.seq ++ putN D.kind 1 ++ D.body = tagIn role D := by
 rw [tagIn_yes _ _ h]
 have hk := (canTag_parts h).2.1
 rw [putN_one D.kind (by omega) (by omega)]
set_option maxHeartbeats 8000000 in
theorem implTagInput (role : Int) (S : FrS) (D : FrD) (w : World) (h : FrRd w S D) :
  Calls Tryz.prog 21 #[.int .i64 role, frV D S] w (New w (tagIn role D)) := by
 obtain ⟨H, hH⟩ : ∃ H, tagIn role D = H := ⟨_, rfl⟩
 have HH : Hid (tagIn role D = H) := hH
 rw [hH]
 clear hH
 have HR := hid (h)
 obtain ⟨x0, hx0⟩ : ∃ x0, w.alloc (.cells #[.int .i64 D.kind, .int .i64 D.id, .slice S.cn.a S.cn.n S.cn.c, .slice S.sn.a S.sn.n S.sn.c, .int .i64 D.tick, .slice S.cookie.a S.cookie.n S.cookie.c, .slice S.proof.a S.proof.n S.proof.c, .int .i64 D.epoch, .int .i64 D.seq, .slice S.body.a S.body.n S.body.c, .slice S.tag.a S.tag.n S.tag.c] 27) = x0 := ⟨_, rfl⟩
 have HW0 := hid (hx0)
 have B0 : Hid (Below w.heap.size w x0) := by rw [← hx0]; exact (Below.refl _ _).alloc (Nat.le_refl _) _
 have K0 : Hid (Blk x0 w.heap.size 27 [.int .i64 D.kind, .int .i64 D.id, .slice S.cn.a S.cn.n S.cn.c, .slice S.sn.a S.sn.n S.sn.c, .int .i64 D.tick, .slice S.cookie.a S.cookie.n S.cookie.c, .slice S.proof.a S.proof.n S.proof.c, .int .i64 D.epoch, .int .i64 D.seq, .slice S.body.a S.body.n S.body.c, .slice S.tag.a S.tag.n S.tag.c]) := by rw [← hx0]; exact Blk.new w _ _
 clear hx0 h
 unfold frV
 go_enter Tryz.func21, Tryz.ntmps21
 go_upto_region 1 with fail
 rw [HW0.out]
 obtain ⟨ga, hga⟩ : ∃ ga, w.heap.size = ga := ⟨_, rfl⟩
 rw [hga] at K0
 rw [hga]
 clear hga
 obtain ⟨d0, d1, d2, d3, d4, d5, d6, d7, d8, d9, d10⟩ := cells11 K0.out
 go_wp2_with fail
 refine (implCanTag role S D x0 (HR.out.later B0.out)).mono ?_
 rintro e x1 ⟨rfl, b1⟩
 have B1 := hid (B0.out.trans (b1.mono B0.out.size))
 have K1 := hid (K0.out.later b1)
 clear b1 d0 d1 d2 d3 d4 d5 d6 d7 d8 d9 d10
 cases h0 : canTag role D with
 | false =>
  obtain rfl : H = [] := by rw [← HH.out]; exact tagIn_no _ _ h0
  go_wp2
  go_ret
  exact new_nil B1.out
 | true =>
  have HC : Hid (canTag role D = true) := h0
  have HHL : Hid ((headL role D.sn D.epoch D.seq).length ≤ 23) := headL_le _ _ _ _
  have HBL : Hid (D.body.length ≤ 40) := canTag_body h0
  clear h0
  obtain ⟨x2, hx2⟩ : ∃ x2, x1.alloc (.cells #[.int .u8 116] 5) = x2 := ⟨_, rfl⟩
  have HW2 := hid (hx2)
  have b2 : Below x1.heap.size x1 x2 := by rw [← hx2]; exact (Below.refl _ _).alloc (Nat.le_refl _) _
  have B2 := hid (B1.out.trans (b2.mono B1.out.size))
  have KN : Hid (Blk x2 x1.heap.size 5 [.int .u8 116]) := by rw [← hx2]; exact Blk.new x1 _ _
  have K2 := hid (K1.out.later b2)
  clear b2 hx2
  obtain ⟨d0, d1, d2, d3, d4, d5, d6, d7, d8, d9, d10⟩ := cells11 K2.out
  obtain ⟨f0, f1, f2, f3, f4, f5, f6, f7, f8, f9, f10⟩ := cells11 (K1.out.alloc (.cells #[.int .u8 116] 5))
  go_wp2_with fail
  rw [HW2.out]
  obtain ⟨gb, hgb⟩ : ∃ gb, x1.heap.size = gb := ⟨_, rfl⟩
  rw [hgb] at KN
  rw [hgb]
  clear hgb f0 f1 f2 f3 f4 f5 f6 f7 f8 f9 f10
  refine (frameHead role S D x2 (HR.out.later B2.out)).mono ?_
  rintro e x3 ⟨g3, m3, c3, rfl, em3, k3, r3, b3⟩
  have R3 := hid (r3)
  have EM3 : Hid (m3 = (headL role D.sn D.epoch D.seq).length) := em3
  have B3 := hid (B2.out.trans (b3.mono B2.out.size))
  have K3 := hid (K2.out.later b3)
  have KN3 := hid (KN.out.later b3)
  have YH : Hid (Bytes (headL role D.sn D.epoch D.seq)) := headL_bytes _ _ _ _ HR.out.sn.bytes
  clear em3 k3 r3 b3 d0 d1 d2 d3 d4 d5 d6 d7 d8 d9 d10
  go_wp2_with fail
  refine (putB ⟨some ⟨gb, 0, none⟩, 1, 1⟩ ⟨some ⟨g3, 0, none⟩, m3, c3⟩ [116] (headL role D.sn D.epoch D.seq) x3 (rd_one8 KN3.out) (rowRd R3.out EM3.out YH.out) (by simp) (by have := HHL.out; omega)).mono ?_
  rintro e x4 ⟨g4, m4, c4, rfl, em4, k4, r4, b4⟩
  have R4 := hid (r4)
  have EM4 : Hid (m4 = ([116] ++ headL role D.sn D.epoch D.seq).length) := em4
  have B4 := hid (B3.out.trans (b4.mono B3.out.size))
  have K4 := hid (K3.out.later b4)
  have Y4 : Hid (Bytes ([116] ++ headL role D.sn D.epoch D.seq)) := bytes_app (bytes_one (by omega) (by omega)) YH.out
  have LN4 : Hid (([116] ++ headL role D.sn D.epoch D.seq).length ≤ 30) := by show _ ≤ _; have := HHL.out; rw [List.length_append]; simp; omega
  clear em4 k4 r4 b4
  have d4_0 := K4.out.cell 0 rfl
  have d4_9 := K4.out.cell 9 rfl
  go_upto_region 4 with fail
  go_region_held3 (fun w' => w'.cell? ⟨ga, 0, none⟩ = some (.int .i64 D.kind) ∧ w'.cell? ⟨ga, 9, none⟩ = some (.slice S.body.a S.body.n S.body.c)) (first | exact ⟨d6_0, d6_9⟩ | exact ⟨d5_0, d5_9⟩ | exact ⟨d4_0, d4_9⟩ | go_keep)
   (first
    | (go_at_call 57; refine (putB ⟨some ⟨g5, 0, none⟩, m5, c5⟩ S.body ([116] ++ headL role D.sn D.epoch D.seq ++ putN D.kind 1) D.body x5 (rowRd R5.out EM5.out Y5.out) (HR.out.later B5.out).body (by have := LN5.out; omega) (by have := HBL.out; omega)).mono ?_; rintro e x6 ⟨g6, m6, c6, rfl, em6, k6, r6, b6⟩; have R6 := hid (r6); have EM6 : Hid (m6 = ([116] ++ headL role D.sn D.epoch D.seq ++ putN D.kind 1 ++ D.body).length) := em6; have GE6 : Hid (w.heap.size ≤ g6) := Nat.le_trans B5.out.size k6; have B6 := hid (B5.out.trans (b6.mono B5.out.size)); have d6_0 := (K5.out.later b6).cell 0 rfl; have d6_9 := (K5.out.later b6).cell 9 rfl; clear em6 k6 r6 b6)
    | (go_at_call 73; refine (putK ⟨some ⟨g4, 0, none⟩, m4, c4⟩ ([116] ++ headL role D.sn D.epoch D.seq) D.kind 1 x4.drew (rowRd (w := x4.drew) R4.out EM4.out Y4.out) (by have := LN4.out; omega)).mono ?_; rintro e x5 ⟨g5, m5, c5, rfl, em5, k5, r5, b5⟩; have R5 := hid (r5); have EM5 : Hid (m5 = ([116] ++ headL role D.sn D.epoch D.seq ++ putN D.kind 1).length) := em5; have Y5 : Hid (Bytes ([116] ++ headL role D.sn D.epoch D.seq ++ putN D.kind 1)) := bytes_app Y4.out (putN_bytes _ _); have B5 : Hid (Below w.heap.size w x5) := B4.out.trans (((Below.refl _ _).drew.trans b5).mono B4.out.size); have LN5 : Hid (([116] ++ headL role D.sn D.epoch D.seq ++ putN D.kind 1).length ≤ 40) := (by show _ ≤ _; have := LN4.out; have := putN_length D.kind 1; rw [List.length_append]; omega); have K5 : Hid (Blk x5 ga 27 [.int .i64 D.kind, .int .i64 D.id, .slice S.cn.a S.cn.n S.cn.c, .slice S.sn.a S.sn.n S.sn.c, .int .i64 D.tick, .slice S.cookie.a S.cookie.n S.cookie.c, .slice S.proof.a S.proof.n S.proof.c, .int .i64 D.epoch, .int .i64 D.seq, .slice S.body.a S.body.n S.body.c, .slice S.tag.a S.tag.n S.tag.c]) := K4.out.later ((Below.refl _ _).drew.trans b5); have d5_0 := K5.out.cell 0 rfl; have d5_9 := K5.out.cell 9 rfl; clear em5 k5 r5 b5))
  have HE : Hid ([116] ++ headL role D.sn D.epoch D.seq ++ putN D.kind 1 ++ D.body = H) := by rw [← HH.out]; exact lay_tag HC.out
  have R7 : Hid (Row x6 g6 c6 H) := by rw [← HE.out]; exact R6.out
  have EM7 : Hid (m6 = H.length) := by rw [← HE.out]; exact EM6.out
  clear d4_0 d4_9
  go_wp2
  go_ret
  exact ⟨g6, m6, c6, by simp, EM7.out, GE6.out, R7.out, B6.out⟩
end Go.Proofs.YtmcflfpckpjphaaGreatDoor.SlI

namespace Go.Proofs.YtmcflfpckpjphaaGreatDoor.MacI
open Go.RowKit Mem MemI Blk App Get ShaP Comp Cuts Pads Ends MacP

theorem keyI_short (k : List Int) (h : k.length ≤ 64) : keyI k = k ++ List.replicate (64 - k.length) 0 := by
 have hs : short k = k := by unfold short; rw [if_pos h]
 unfold keyI; rw [if_pos (by omega), hs]
theorem keyI_long (k : List Int) (h : 64 < k.length) (h1 : k.length ≤ 1048576) : keyI k = shaI k ++ List.replicate 32 0 := by
 have hs : short k = shaI k := by unfold short; rw [if_neg (by omega)]
 unfold keyI; rw [if_pos h1, hs, shaI_len k h1]

set_option maxHeartbeats 800000 in
theorem implBlockKey (a : Option Addr) (n cap : Nat) (k : List Int) (w : World) (hT : Tab w) (hn : n = k.length) (hr : Rd w a k) (na : a = none → cap = 0) (hb : Bytes k) (hl : n ≤ 2097152) :
  Calls Tryz.prog 113 #[.slice a n cap] w fun e w' =>
   ∃ g m c, e = .returned (.slice (some ⟨g, 0, none⟩) m c) ∧ m = (keyI k).length ∧ w.heap.size ≤ g ∧ Row w' g c (keyI k) ∧ Below w.heap.size w w' := by
 obtain ⟨i0, hi, hz0, hz1, hz2⟩ := info_parts info8
 have HT := hid (hT)
 have HN : Hid (n = k.length) := hn
 have HR := hid (hr)
 have HB := hid (hb)
 clear hT hn hr hb
 by_cases h1 : n ≤ 1048576
 ·
  have hl1 : isLen (n : Int) = true := isLen_yes ⟨by omega, by omega⟩
  by_cases h2 : n ≤ 64
  ·
   have HK : Hid (keyI k = k ++ List.replicate (64 - n) 0) := by show _ = _; rw [HN.out]; exact keyI_short k (by rw [← HN.out]; exact h2)
   obtain ⟨z, hz⟩ : ∃ z, 64 - n = z := ⟨_, rfl⟩
   have E1 : Hid ((64 : Int) - (n : Int) = (z : Int)) := by show _ = _; omega
   have HZ : Hid (64 - n = z) := hz
   have hz64 : z ≤ 64 := by omega
   clear hz
   have h2I : ¬ ((n : Int) > 64) := by omega
   go_enter Tryz.func113, Tryz.ntmps113
   go_wp2_with fail
   refine (isShaLength _ _).mono ?_
   rintro e w1 ⟨rfl, rfl⟩
   go_wp2_with (at_make; refine wpList_make_full _ rfl _ _ 22 rfl w.heap.size 5 i0 (.int .u8 0) 1 Tryz.underlying22 hi hz0 hz1 _ _ _ _ z rfl rfl (by first | rfl | exact E1.out | (rw [← E1.out]; go_num)) (by first | rfl | exact E1.out | (rw [← E1.out]; go_num)) (by rw [hz2]; omega) (by unfold maxLen; omega) (Nat.le_refl _) ?_; intro w1 hown hgr; have B1 : Hid (Below w.heap.size w w1) := (Below.refl _ _).grown hgr (Nat.le_refl _) (fun k h => by cases h); have R1 : Hid (Row w1 w.heap.size z (List.replicate z 0)) := (Row.of (l := List.replicate z 0) (base := w.heap.size) (by simpa [Value.cells, toList_madeCells_one] using hown)).1; clear hown hgr)
   refine (putBytes a _ n cap z z k (List.replicate z 0) w1 HN.out (by simp) (HR.out.later B1.out (Nat.le_refl _)) R1.out.rd na (by intro e; cases e) (by rw [← HN.out]; omega) (by simp; omega)).mono ?_
   rintro e w2 ⟨rfl, r2, b2⟩
   have R2 := hid (r2)
   have B2 := hid (B1.out.trans (b2.mono B1.out.size))
   clear r2 b2
   go_wp2
   go_ret
   exact ⟨w1.heap.size, n + z, n + z, by simp, by rw [HK.out, HZ.out, List.length_append, List.length_replicate, HN.out], B1.out.size, by rw [HK.out, HZ.out]; exact R2.out, B2.out⟩
  ·
   have HK : Hid (keyI k = shaI k ++ List.replicate 32 0) := keyI_long k (by rw [← HN.out]; omega) (by rw [← HN.out]; exact h1)
   have h2I : (n : Int) > 64 := by omega
   go_enter Tryz.func113, Tryz.ntmps113
   go_wp2_with fail
   refine (isShaLength _ _).mono ?_
   rintro e w1 ⟨rfl, rfl⟩
   go_wp2_with fail
   refine (implSha a n cap k w HT.out HN.out HR.out na HB.out hl).mono ?_
   rintro e w1 ⟨g, m, c, rfl, e1, k1, r1, b1⟩
   have E32 : Hid ((shaI k).length = 32) := shaI_len k (by rw [← HN.out]; exact h1)
   have hm : m = 32 := by rw [e1, E32.out]
   subst hm
   have R1 := hid (r1)
   have B1 := hid (b1)
   clear e1 k1 r1 b1
   go_wp2_with (at_make; refine wpList_make_full _ rfl _ _ 22 rfl w1.heap.size 5 i0 (.int .u8 0) 1 Tryz.underlying22 hi hz0 hz1 _ _ _ _ 32 rfl rfl rfl rfl (by rw [hz2]; omega) (by unfold maxLen; omega) (Nat.le_refl _) ?_; intro w2 hown hgr; have B2 : Hid (Below w1.heap.size w1 w2) := (Below.refl _ _).grown hgr (Nat.le_refl _) (fun k h => by cases h); have R2 : Hid (Row w2 w1.heap.size 32 (List.replicate 32 0)) := (Row.of (l := List.replicate 32 0) (base := w1.heap.size) (by simpa [Value.cells, toList_madeCells_one] using hown)).1; clear hown hgr)
   refine (putBytes _ _ 32 c 32 32 (shaI k) (List.replicate 32 0) w2 E32.out.symm (by simp) (R1.out.later B2.out).rd R2.out.rd (by intro e; cases e) (by intro e; cases e) (by rw [E32.out]; omega) (by simp)).mono ?_
   rintro e w3 ⟨rfl, r3, b3⟩
   have R3 := hid (r3)
   have B12 := hid (B1.out.trans (B2.out.mono B1.out.size))
   have B3 := hid (B12.out.trans (b3.mono B12.out.size))
   clear r3 b3
   go_wp2
   go_ret
   exact ⟨w2.heap.size, 64, 64, by simp, by rw [HK.out, List.length_append, List.length_replicate, E32.out], B12.out.size, by rw [HK.out]; exact R3.out, B3.out⟩
 ·
  have HK : Hid (keyI k = []) := keyI_none k (by rw [← HN.out]; exact h1)
  have hl1 : isLen (n : Int) = false := isLen_no (by omega)
  go_enter Tryz.func113, Tryz.ntmps113
  go_wp2_with fail
  refine (isShaLength _ _).mono ?_
  rintro e w1 ⟨rfl, rfl⟩
  go_wp2
  go_ret
  exact ⟨w.heap.size, 0, 0, by simp, by rw [HK.out]; rfl, Nat.le_refl _, by rw [HK.out]; exact row_new w [] (by simp), (Below.refl _ _).alloc (Nat.le_refl _) _⟩

def mixer (q : Nat) : Value := .func (.func 151) #[] #[.pointer (some ⟨q, 0, none⟩)]
theorem padMix (p : Int) (w : World) :
  Calls Tryz.prog 116 #[.int .u8 p] w fun e w' => e = .returned (mixer w.heap.size) ∧ Blk w' w.heap.size 5 [.int .u8 p] ∧ Below w.heap.size w w' := by
 have hmf : ∀ (fn : Fn) (first cap : Array Value) (w : World), (Instr.makeFunc fn first cap).run Tryz.prog w = .ok (.func fn first cap) w := fun _ _ _ _ => rfl
 go_enter Tryz.func116, Tryz.ntmps116
 go_wp2
 go_ret
 exact ⟨rfl, Blk.new w 5 [.int .u8 p], (Below.refl _ _).alloc (Nat.le_refl _) _⟩
theorem padMix1 (x p : Int) (q : Nat) (w : World) (h : Blk w q 5 [.int .u8 p]) :
  Calls Tryz.prog 151 #[.int .u8 x, .pointer (some ⟨q, 0, none⟩)] w fun e w' => e = .returned (.int .u8 (bits .xor .u8 x p)) ∧ w = w' := by
 have hc := h.cell 0 rfl
 clear h
 go_enter Tryz.func151, Tryz.ntmps151
 go_wp2
 go_ret
 exact ⟨rfl, rfl⟩

theorem mix_take (p : Int) (l : List Int) (k : Nat) (h : k < l.length) : mix p (l.take (k + 1)) = mix p (l.take k) ++ [bits .xor .u8 (l.getD k 0) p] := by
 have e : l.getD k 0 = l[k] := by simp [List.getD, h]
 rw [List.take_succ_eq_append_getElem h, e]
 simp only [mix, List.map_append, List.map_cons, List.map_nil]

set_option maxHeartbeats 800000 in
theorem mixed (a : Option Addr) (n cap q : Nat) (p : Int) (l : List Int) (w : World) (hn : n = l.length) (hr : Rd w a l) (hq : Blk w q 5 [.int .u8 p]) (hlen : n ≤ 4194304) :
  Calls Tryz.prog 115 #[.slice a n cap, mixer q] w fun e w' =>
   e = .returned (.slice (some ⟨w.heap.size, 0, none⟩) n n) ∧ Row w' w.heap.size n (mix p l) ∧ Below w.heap.size w w' := by
 obtain ⟨i0, hi, hz0, hz1, hz2⟩ := info_parts info8
 have HN : Hid (n = l.length) := hn
 have HR := hid (hr)
 have HQ := hid (hq)
 clear hn hr hq
 unfold mixer
 go_enter Tryz.func115, Tryz.ntmps115
 go_wp2_with (at_make; refine wpList_make_own _ rfl _ _ 22 rfl w.heap.size 5 i0 (.int .u8 0) 1 Tryz.underlying22 hi hz0 hz1 _ _ _ n rfl rfl (by omega) (by rw [hz2]; omega) (by unfold maxLen; omega) (Nat.le_refl _) ?_; intro w1 hown hgr; have B1 : Hid (Below w.heap.size w w1) := (Below.refl _ _).grown hgr (Nat.le_refl _) (fun k h => by cases h); have R1 : Hid (Row w1 w.heap.size n (mix p (l.take 0))) := (Row.of (l := []) hown).1; clear hown hgr)
 go_loopw [5, 13] (fun v i wr => ∃ k : Nat, k ≤ n ∧ i = .int .i64 k ∧ v = .slice (some ⟨w.heap.size, 0, none⟩) k n ∧ Row wr w.heap.size n (mix p (l.take k)) ∧ Below w.heap.size w wr)
  (fun _ i _ => n - (intOf i).toNat)
 case atStart => exact ⟨0, Nat.zero_le _, rfl, rfl, R1.out, B1.out⟩
 case round =>
  obtain ⟨k, hk, rfl, rfl, hRow, hbe⟩ := hrel
  have HRow := hid (hRow)
  have HBe := hid (hbe)
  clear R1 B1 hRow hbe
  by_cases hlt : k < n
  ·
   obtain ⟨b, off, rfl, _, hc⟩ := (HR.out.later HBe.out (Nat.le_refl _)) k (by rw [← HN.out]; exact hlt)
   have HT1 : Hid (mix p (l.take (k + 1)) = mix p (l.take k) ++ [bits .xor .u8 (l.getD k 0) p]) := mix_take p l k (by rw [← HN.out]; exact hlt)
   have HKL : Hid (k = (mix p (l.take k)).length) := by show _ = _; rw [mix_length, List.length_take, ← HN.out]; omega
   generalize l.getD k 0 = z at *
   go_wp2_with (first | (go_at_call 151; refine (padMix1 z p q wr (HQ.out.later HBe.out)).mono ?_; rintro e w2 ⟨rfl, rfl⟩) | (at_builtin; refine wpList_fit _ rfl (.tmp 17) (.tmp 21) rfl w.heap.size k n (mix p (l.take k)) [bits .xor .u8 z p] rfl HKL.out (row_alloc HRow.out _) _ 1 1 rfl rfl (rd_one wr _) (by intro e; cases e) (by rw [← HKL.out]; simp; omega) ?_; intro w3 r3 g3; have R3 := hid (r3); have B3 : Hid (Below w.heap.size w w3) := (HBe.out.alloc HBe.out.size _).grown g3 (by simp; exact Nat.le_trans HBe.out.size (Nat.le_succ _)) (fun k h => by cases h; exact Nat.le_refl _); clear r3 g3))
   go_roundw
   case rel => exact ⟨k + 1, by omega, by go_num, rfl, by rw [HT1.out]; exact R3.out, B3.out⟩
   case measure => simp [intOf]; omega
  ·
   obtain rfl : k = n := by omega
   have HTn : Hid (mix p l = mix p (l.take k)) := by show _ = _; rw [List.take_of_length_le (by rw [← HN.out]; exact Nat.le_refl _)]
   go_wp2
   go_ret
   exact ⟨rfl, by rw [HTn.out]; exact HRow.out, HBe.out⟩

set_option maxHeartbeats 1600000 in
theorem implHmac (a0 : Option Addr) (n0 c0 : Nat) (a1 : Option Addr) (n1 c1 : Nat) (k b : List Int) (w : World) (hT : Tab w) (e0 : n0 = k.length) (e1 : n1 = b.length) (r0 : Rd w a0 k) (r1 : Rd w a1 b) (na0 : a0 = none → c0 = 0) (na1 : a1 = none → c1 = 0) (hb0 : Bytes k) (hb1 : Bytes b) (l0 : n0 ≤ 2097152) (l1 : n1 ≤ 2097152) :
  Calls Tryz.prog 72 #[.slice a0 n0 c0, .slice a1 n1 c1] w fun e w' =>
   ∃ g m c, e = .returned (.slice (some ⟨g, 0, none⟩) m c) ∧ m = (hmacI k b).length ∧ w.heap.size ≤ g ∧ Row w' g c (hmacI k b) ∧ Below w.heap.size w w' := by
 have HT := hid (hT)
 have HN0 : Hid (n0 = k.length) := e0
 have HN1 : Hid (n1 = b.length) := e1
 have HR0 := hid (r0)
 have HR1 := hid (r1)
 have HB0 := hid (hb0)
 have HB1 := hid (hb1)
 clear hT e0 e1 r0 r1 hb0 hb1
 by_cases h1 : n0 ≤ 1048576
 ·
  have HL : Hid ((keyI k).length = 64) := keyI_len k (by rw [← HN0.out]; exact h1)
  by_cases h2 : n1 ≤ 1048512
  ·
   have HH : Hid (hmacI k b = shaI (mix 92 (keyI k) ++ shaI (mix 54 (keyI k) ++ b))) := by
    show _ = _
    unfold hmacI; rw [if_pos ⟨by rw [← HN0.out]; exact h1, by rw [← HN1.out]; exact h2⟩]
   have HKB : Hid (Bytes (keyI k)) := keyI_bytes k HB0.out
   have h2I : ¬ ((n1 : Int) > 1048512) := by omega
   go_enter Tryz.func72, Tryz.ntmps72
   go_wp2_with fail
   refine (implBlockKey a0 n0 c0 k w HT.out HN0.out HR0.out na0 HB0.out l0).mono ?_
   rintro e w1 ⟨gk, mk, ck, rfl, em, k1, r1, b1⟩
   have hm : mk = 64 := by rw [em, HL.out]
   subst hm
   have R1 := hid (r1)
   have B1 := hid (b1)
   clear em k1 r1 b1
   go_wp2_with fail
   refine (padMix 54 w1).mono ?_
   rintro e w2 ⟨rfl, k2, b2⟩
   have K2 := hid (k2)
   have B2 := hid (B1.out.trans (b2.mono B1.out.size))
   have R2 := hid (R1.out.later b2)
   clear k2 b2 R1
   go_wp2_with fail
   refine (mixed _ 64 ck w1.heap.size 54 (keyI k) w2 HL.out.symm R2.out.rd K2.out (by omega)).mono ?_
   rintro e w3 ⟨rfl, r3, b3⟩
   have R3 := hid (r3)
   have B3 := hid (B2.out.trans (b3.mono B2.out.size))
   have RK3 := hid (R2.out.later b3)
   have HML : Hid (64 = (mix 54 (keyI k)).length) := by show _ = _; rw [mix_length, HL.out]
   clear r3 b3 R2 K2
   go_wp2_with fail
   refine (putBytes _ a1 64 64 n1 c1 (mix 54 (keyI k)) b w3 HML.out HN1.out R3.out.rd (HR1.out.later B3.out (Nat.le_refl _)) (by intro e; cases e) na1 (by rw [← HML.out]; omega) (by rw [← HN1.out]; omega)).mono ?_
   rintro e w4 ⟨rfl, r4, b4⟩
   have R4 := hid (r4)
   have B4 := hid (B3.out.trans (b4.mono B3.out.size))
   have RK4 := hid (RK3.out.later b4)
   have HL4 : Hid (64 + n1 = (mix 54 (keyI k) ++ b).length) := by show _ = _; rw [List.length_append, ← HML.out, HN1.out]
   have HB4 : Hid (Bytes (mix 54 (keyI k) ++ b)) := bytes_append (mix_bytes 54 _ HKB.out (by omega) (by omega)) HB1.out
   clear r4 b4 R3 RK3
   go_wp2_with fail
   refine (implSha _ (64 + n1) (64 + n1) _ w4 (HT.out.later B4.out) HL4.out R4.out.rd (by intro e; cases e) HB4.out (by omega)).mono ?_
   rintro e w5 ⟨g5, m5, c5, rfl, em, k5, r5, b5⟩
   have HS5 : Hid ((shaI (mix 54 (keyI k) ++ b)).length = 32) := shaI_len _ (by rw [← HL4.out]; omega)
   have hm5 : m5 = 32 := by rw [em, HS5.out]
   subst hm5
   have R5 := hid (r5)
   have B5 := hid (B4.out.trans (b5.mono B4.out.size))
   have RK5 := hid (RK4.out.later b5)
   clear em k5 r5 b5 R4 RK4
   go_wp2_with fail
   refine (padMix 92 w5).mono ?_
   rintro e w6 ⟨rfl, k6, b6⟩
   have K6 := hid (k6)
   have B6 := hid (B5.out.trans (b6.mono B5.out.size))
   have R6 := hid (R5.out.later b6)
   have RK6 := hid (RK5.out.later b6)
   clear k6 b6 R5 RK5
   go_wp2_with fail
   refine (mixed _ 64 ck w5.heap.size 92 (keyI k) w6 HL.out.symm RK6.out.rd K6.out (by omega)).mono ?_
   rintro e w7 ⟨rfl, r7, b7⟩
   have R7 := hid (r7)
   have B7 := hid (B6.out.trans (b7.mono B6.out.size))
   have RI7 := hid (R6.out.later b7)
   have HML2 : Hid (64 = (mix 92 (keyI k)).length) := by show _ = _; rw [mix_length, HL.out]
   clear r7 b7 R6 K6 RK6
   go_wp2_with fail
   refine (putBytes _ _ 64 64 32 c5 (mix 92 (keyI k)) _ w7 HML2.out HS5.out.symm R7.out.rd RI7.out.rd (by intro e; cases e) (by intro e; cases e) (by rw [← HML2.out]; omega) (by rw [HS5.out]; omega)).mono ?_
   rintro e w8 ⟨rfl, r8, b8⟩
   have R8 := hid (r8)
   have B8 := hid (B7.out.trans (b8.mono B7.out.size))
   have HL8 : Hid (64 + 32 = (mix 92 (keyI k) ++ shaI (mix 54 (keyI k) ++ b)).length) := by show _ = _; rw [List.length_append, ← HML2.out, HS5.out]
   have HB8 : Hid (Bytes (mix 92 (keyI k) ++ shaI (mix 54 (keyI k) ++ b))) := bytes_append (mix_bytes 92 _ HKB.out (by omega) (by omega)) (shaI_bytes _)
   clear r8 b8 R7 RI7
   go_wp2_with fail
   refine (implSha _ (64 + 32) (64 + 32) _ w8 (HT.out.later B8.out) HL8.out R8.out.rd (by intro e; cases e) HB8.out (by omega)).mono ?_
   rintro e w9 ⟨g9, m9, c9, rfl, em, k9, r9, b9⟩
   have EM : Hid (m9 = (hmacI k b).length) := by show _ = _; rw [HH.out]; exact em
   have K9 : Hid (w.heap.size ≤ g9) := Nat.le_trans B8.out.size k9
   have R9 : Hid (Row w9 g9 c9 (hmacI k b)) := by show Row _ _ _ _; rw [HH.out]; exact r9
   have B9 := hid (B8.out.trans (b9.mono B8.out.size))
   clear em k9 r9 b9
   go_wp2
   go_ret
   exact ⟨g9, m9, c9, rfl, EM.out, K9.out, R9.out, B9.out⟩
  ·
   have HH : Hid (hmacI k b = []) := hmacI_none k b (by rw [← HN0.out, ← HN1.out]; omega)
   have h2I : (n1 : Int) > 1048512 := by omega
   go_enter Tryz.func72, Tryz.ntmps72
   go_wp2_with fail
   refine (implBlockKey a0 n0 c0 k w HT.out HN0.out HR0.out na0 HB0.out l0).mono ?_
   rintro e w1 ⟨gk, mk, ck, rfl, em, k1, r1, b1⟩
   have hm : mk = 64 := by rw [em, HL.out]
   subst hm
   have B1 := hid (b1)
   clear em k1 r1 b1
   go_wp2
   go_ret
   exact ⟨w1.heap.size, 0, 0, by simp, by rw [HH.out]; rfl, B1.out.size, by rw [HH.out]; exact row_new w1 [] (by simp), B1.out.alloc B1.out.size _⟩
 ·
  have HH : Hid (hmacI k b = []) := hmacI_none k b (by rw [← HN0.out, ← HN1.out]; omega)
  have HK : Hid (keyI k = []) := keyI_none k (by rw [← HN0.out]; exact h1)
  go_enter Tryz.func72, Tryz.ntmps72
  go_wp2_with fail
  refine (implBlockKey a0 n0 c0 k w HT.out HN0.out HR0.out na0 HB0.out l0).mono ?_
  rintro e w1 ⟨gk, mk, ck, rfl, em, k1, r1, b1⟩
  have hm : mk = 0 := by rw [em, HK.out]; rfl
  subst hm
  have B1 := hid (b1)
  clear em k1 r1 b1
  go_wp2
  go_ret
  exact ⟨w1.heap.size, 0, 0, by simp, by rw [HH.out]; rfl, B1.out.size, by rw [HH.out]; exact row_new w1 [] (by simp), B1.out.alloc B1.out.size _⟩

theorem tag_cut (k b : List Int) : cutOf (hmacI k b) 0 16 = tagI k b := by
 unfold cutOf tagI
 by_cases h : k.length ≤ 1048576 ∧ b.length ≤ 1048512
 ·
  have := hmacI_len k b h.1 h.2
  rw [if_pos (by rw [this]; decide)]
  simp [piece]
 ·
  rw [hmacI_none k b h]; rfl

set_option maxHeartbeats 800000 in
theorem implTag (a0 : Option Addr) (n0 c0 : Nat) (a1 : Option Addr) (n1 c1 : Nat) (k b : List Int) (w : World) (hT : Tab w) (e0 : n0 = k.length) (e1 : n1 = b.length) (r0 : Rd w a0 k) (r1 : Rd w a1 b) (na0 : a0 = none → c0 = 0) (na1 : a1 = none → c1 = 0) (hb0 : Bytes k) (hb1 : Bytes b) (l0 : n0 ≤ 2097152) (l1 : n1 ≤ 2097152) :
  Calls Tryz.prog 20 #[.slice a0 n0 c0, .slice a1 n1 c1] w fun e w' =>
   ∃ g m c, e = .returned (.slice (some ⟨g, 0, none⟩) m c) ∧ m = (tagI k b).length ∧ w.heap.size ≤ g ∧ Row w' g c (tagI k b) ∧ Below w.heap.size w w' := by
 have HT := hid (hT)
 have HN0 : Hid (n0 = k.length) := e0
 have HN1 : Hid (n1 = b.length) := e1
 have HR0 := hid (r0)
 have HR1 := hid (r1)
 have HB0 := hid (hb0)
 have HB1 := hid (hb1)
 clear hT e0 e1 r0 r1 hb0 hb1
 go_enter Tryz.func20, Tryz.ntmps20
 go_wp2_with fail
 refine (implHmac a0 n0 c0 a1 n1 c1 k b w HT.out HN0.out HN1.out HR0.out HR1.out na0 na1 HB0.out HB1.out l0 l1).mono ?_
 rintro e w1 ⟨g, m, c, rfl, em, k1, r1, b1⟩
 have EM : Hid (m = (hmacI k b).length) := em
 have R1 := hid (r1)
 have B1 := hid (b1)
 have hm : m ≤ 32 := by rw [em]; exact hmacI_le k b
 have hmc : m ≤ c := by rw [em]; exact r1.1
 clear em k1 r1 b1
 go_wp2_with fail
 refine (implCut g 0 m c (hmacI k b) 0 16 w1 EM.out R1.out.rd hmc (by omega) (by omega)).mono ?_
 rw [tag_cut]
 rintro e w2 ⟨g2, m2, c2, rfl, em, k2, r2, b2⟩
 have E2 : Hid (m2 = (tagI k b).length) := em
 have K2 : Hid (w.heap.size ≤ g2) := Nat.le_trans B1.out.size k2
 have R2 := hid (r2)
 have B2 := hid (B1.out.trans (b2.mono B1.out.size))
 clear em k2 r2 b2
 go_wp2
 go_ret
 exact ⟨g2, m2, c2, rfl, E2.out, K2.out, R2.out, B2.out⟩
end Go.Proofs.YtmcflfpckpjphaaGreatDoor.MacI

namespace Go.Proofs.YtmcflfpckpjphaaGreatDoor.Ranges
open Go.RowKit

structure CellsKept (W W' : World) : Prop where
 size : W.heap.size ≤ W'.heap.size
 same : ∀ (k : Nat) (o : Obj), W.heap[k]? = some o → o.isCells = true → W'.heap[k]? = some o

theorem CellsKept.of_below {W W' : World} (h : Below W.heap.size W W') : CellsKept W W' :=
 ⟨h.size, fun k _ hk _ => (h.block k (Array.getElem?_eq_some_iff.1 hk).1).trans hk⟩
theorem CellsKept.put {W : World} {l : Nat} {o : Obj} (o' : Obj) (h : W.heap[l]? = some o) (ho : o.isCells = false) : CellsKept W (W.putObj l o') :=
 ⟨by simp, fun k x hk hx => by
  have e : k ≠ l := by rintro rfl; rw [h] at hk; cases hk; rw [ho] at hx; cases hx
  exact (World.putObj_heap_other e).trans hk⟩
theorem below_put {n₀ l : Nat} {u W : World} {o : Obj} (o' : Obj) (h : Below n₀ u W) (hl : n₀ ≤ l) (ho : W.heap[l]? = some o) : Below n₀ u (W.putObj l o') :=
 h.grown (grownBy_putObj' W l o') (by have := (Array.getElem?_eq_some_iff.1 ho).1; omega) (fun k e => by cases e; exact hl)

def Celled (n₀ : Nat) (p : World → Prop) : Prop := ∀ W W', p W → CellsKept W W' → Below n₀ W W' → p W'

def Feeds (F : Fence) (n : Nat) (P : Program) (gf : Nat) (lb : Array Value) (N : Nat) (G : Nat → Value → World → Prop) (U : World → Prop) (W : World) : Prop :=
 ∀ (l : Nat) (J : Nat → World → Prop) (Jx : World → Prop), (∀ i A B, J i A → Below A.heap.size A B → J i B) → (∀ i A, J i A → U A) →
  (∀ i v A, i < N → J i A → G i v A → YieldAt F (n - 1) P l #[v] A fun e B => (e = .returned (.bool true) ∧ J (i + 1) B) ∨ (e = .returned (.bool false) ∧ Jx B)) →
  J 0 W → CallsIn F n P gf (#[.func (.yield l) #[] #[]] ++ lb) W fun e B => (∃ v, e = .returned v) ∧ (J N B ∨ Jx B)

def bodyPost (J : World → Prop) (Jx : Code → World → Prop) (A : World) : Exit → Act → World → Prop
 | .normal, _, B => KeepsOthers A B ∧ J B
 | .ret, _, B => KeepsOthers A B ∧ Jx .ret B
 | .exit id, _, B => KeepsOthers A B ∧ Jx (.exit id) B
 | .goto t, _, B => KeepsOthers A B ∧ Jx (.goto t) B
 | _, _, _ => False

theorem range_fed {F : Fence} {n : Nat} {P : Program} {g : Operand} {p : Tmp} {assign body : Code} {Q : Exit → Act → World → Prop} {a : Act} {w : World}
  (hro : F.round = none) (h1 : 1 ≤ n) {gf : Nat} {lb : Array Value} (hg : a.eval g = .func (.func gf) #[] lb) (hF : F.fn gf) (eg : ∀ args w, (callFunc gf args).run P w = .ok (.enter gf args) w)
  (N : Nat) (G : Nat → Value → World → Prop) (U : World → Prop) (hfeed : ∀ W, Feeds F (n - 1) P gf lb N G U W)
  (I : Nat → World → Prop) (Ix : Code → World → Prop) (hG : ∀ i v, Celled w.heap.size (G i v)) (hI : ∀ i, Celled w.heap.size (I i)) (hIx : ∀ c, Celled w.heap.size (Ix c)) (hU : ∀ i W, I i W → U W) (h0 : I 0 w) (a₁ : Value → Act)
  (hassign : ∀ (l : Nat) (v : Value) (W : World) (K : Act → World → Prop), K (a₁ v) W →
   assign.wpIn (F.inRound l) (n - 1 - 1) P (Exit.then K (fun _ _ _ => False)) { tmps := a.tmps.setIfInBounds p v, defers := [] } W)
  (hbody : ∀ (l i : Nat) (v : Value) (W : World), i < N → I i W → G i v W → body.wpIn (F.inRound l) (n - 1 - 1) P (bodyPost (I (i + 1)) Ix W) (a₁ v) W)
  (hdone : ∀ (D : Nat) (W : World), w.heap.size ≤ D → I N W → W.heap[D]? = some (.deferred (some [])) → Q .normal { a with defers := { target := .collected D, args := #[] } :: a.defers } W)
  (hstop : ∀ (D : Nat) (c : Code) (W : World), w.heap.size ≤ D → Ix c W → W.heap[D]? = some (.deferred (some [])) → c.wpIn F n P Q { a with defers := { target := .collected D, args := #[] } :: a.defers } W) :
  (Code.rangeFunc g #[p] assign body).wpIn F n P Q a w := by
 refine wpIn_rangeFunc fun fn hfn => ?_
 rw [hro]
 generalize hrec : (fun (st : LoopState) (pe : Option Code) => ({ state := st, pending := pe, fn, tmps := a.tmps, params := #[p], assign, body, defers := w.heap.size } : Loop)) = mk
 generalize hD : w.heap.size = D at *
 have hA := run_enterLoop_outer (P := P) (w := w) fn a.tmps #[p] assign body
 rw [hD] at hA
 generalize hW : (w.alloc (.deferred (some []))).alloc (.loop { state := .ready, pending := none, fn, tmps := a.tmps, params := #[p], assign, body, defers := D }) = W at hA
 have hl : W.heap[D + 1]? = some (.loop (mk .ready none)) := by
  have := World.alloc_heap_new (w.alloc (.deferred (some []))) (.loop (mk .ready none))
  rw [World.size_alloc, hD] at this
  rw [← hW, ← hrec]; rw [← hrec] at this; exact this
 have hd : W.heap[D]? = some (.deferred (some [])) := by
  rw [← hW, ← hD]; exact (Below.heap_alloc _ _ _ (by simp)).trans (World.alloc_heap_new w _)
 have hb : Below D w W := by rw [← hW, ← hD]; exact ((Below.refl _ w).alloc (Nat.le_refl _) _).alloc (by simp) _
 have hw0 : CellsKept w W := CellsKept.of_below (by rw [hD]; exact hb)
 refine ⟨D + 1, _, W, { target := .fn (.func gf) lb, args := #[.func (.yield (D + 1)) #[] #[]] }, W, gf, #[.func (.yield (D + 1)) #[] #[]] ++ lb, W, hA, ?_, ?_, ?_, fun _ => h1, ?_⟩
 ·
  simp only [resolve, hg]; simp [go_sem]
 ·
  intro f hf; simp [Target.leads] at hf; subst hf; exact hF
 ·
  simp [invoke, go_sem, eg]
 refine (hfeed W (D + 1)
  (fun i A => I i A ∧ D ≤ A.heap.size ∧ A.heap[D + 1]? = some (.loop (mk .ready none)) ∧ A.heap[D]? = some (.deferred (some [])))
  (fun A => ∃ c, Ix c A ∧ D ≤ A.heap.size ∧ A.heap[D + 1]? = some (.loop (mk .done (some c))) ∧ A.heap[D]? = some (.deferred (some [])))
  ?_ (fun i A h => hU i A h.1) ?_ ⟨hI _ _ _ h0 hw0 hb, by rw [← hD]; exact hb.size, hl, hd⟩).mono ?_
 ·
  rintro i A B ⟨q1, q2, q3, q4⟩ hAB
  have c1 := (Array.getElem?_eq_some_iff.1 q3).1
  have c2 := (Array.getElem?_eq_some_iff.1 q4).1
  exact ⟨hI _ _ _ q1 (CellsKept.of_below hAB) (hAB.mono (by omega)), Nat.le_trans q2 hAB.size, (hAB.block _ c1).trans q3, (hAB.block _ c2).trans q4⟩
 ·
  rintro i v A hi ⟨q1, q2, q3, q4⟩ hv
  have lt1 := (Array.getElem?_eq_some_iff.1 q3).1
  have y := run_yield (P := P) (args := #[v]) q3 (by rw [← hrec]; rfl)
  refine ⟨fn, a.tmps.setIfInBounds p v, assign, body, ?_, roundIn_of_wpIn hfn (hassign _ v A _ ⟨_, run_beginRound q3 (by rw [← hrec]), ?_⟩)⟩
  ·
   rw [y, ← hrec]; simp
  generalize hB : A.putObj (D + 1) (.loop { mk .ready none with state := .busy }) = B
  have kB : CellsKept A B := by rw [← hB]; exact CellsKept.put _ q3 rfl
  have bB : Below D A B := by rw [← hB]; exact below_put _ (Below.refl _ _) (by omega) q3
  have lB : B.heap[D + 1]? = some (.loop { mk .ready none with state := .busy }) := by rw [← hB]; exact World.putObj_heap_same lt1
  have dB : B.heap[D]? = some (.deferred (some [])) := by rw [← hB]; exact (World.putObj_heap_other (by omega)).trans q4
  refine wpIn_mono (hbody _ i v B hi (hI _ _ _ q1 kB bB) (hG _ _ _ _ hv kB bB)) ?_
  have last : ∀ (j : Option Code) (C : World), KeepsOthers B C →
    ∃ C', (Instr.endRound (D + 1) j).run P C = .ok (.bool j.isNone) C' ∧ CellsKept C C' ∧ Below D C C' ∧ D ≤ C'.heap.size ∧ C'.heap[D + 1]? = some (.loop (mk (if j.isNone then .ready else .done) j)) ∧ C'.heap[D]? = some (.deferred (some [])) := by
   intro j C hk
   have lC := hk.same _ _ lB rfl
   have dC := hk.same _ _ dB rfl
   refine ⟨_, run_endRound j lC, CellsKept.put _ lC rfl, below_put _ (Below.refl _ _) (by omega) lC, by have := (Array.getElem?_eq_some_iff.1 lC).1; simp; omega, ?_, (World.putObj_heap_other (by omega)).trans dC⟩
   rw [World.putObj_heap_same (Array.getElem?_eq_some_iff.1 lC).1, ← hrec]
  rintro e a3 C hp
  cases e with
  | normal =>
   obtain ⟨hk, hj⟩ := hp
   obtain ⟨C', r, k', b', s', l', d'⟩ := last none C hk
   exact ⟨_, C', r, .inl ⟨rfl, hI _ _ _ hj k' b', s', l', d'⟩⟩
  | ret =>
   obtain ⟨hk, hj⟩ := hp
   obtain ⟨C', r, k', b', s', l', d'⟩ := last (some .ret) C hk
   exact ⟨_, C', r, .inr ⟨rfl, .ret, hIx _ _ _ hj k' b', s', l', d'⟩⟩
  | exit id =>
   obtain ⟨hk, hj⟩ := hp
   obtain ⟨C', r, k', b', s', l', d'⟩ := last (some (.exit id)) C hk
   exact ⟨_, C', r, .inr ⟨rfl, .exit id, hIx _ _ _ hj k' b', s', l', d'⟩⟩
  | goto t =>
   obtain ⟨hk, hj⟩ := hp
   obtain ⟨C', r, k', b', s', l', d'⟩ := last (some (.goto t)) C hk
   exact ⟨_, C', r, .inr ⟨rfl, .goto t, hIx _ _ _ hj k' b', s', l', d'⟩⟩
  | panic ch => exact hp.elim
  | outgrown => exact hp.elim
 ·
  rintro e B ⟨⟨v, rfl⟩, ⟨q1, q2, q3, q4⟩ | ⟨c, q1, q2, q3, q4⟩⟩
  ·
   refine ⟨none, B.putObj (D + 1) (.loop { mk .ready none with state := .exhausted }), ?_, ?_⟩
   ·
    rw [run_endLoop q3 (by rw [← hrec]; simp), ← hrec]
   ·
    exact hdone D _ (Nat.le_refl _) (hI _ _ _ q1 (CellsKept.put _ q3 rfl) (below_put _ (Below.refl _ _) (by omega) q3)) ((World.putObj_heap_other (by omega)).trans q4)
  ·
   refine ⟨some c, B.putObj (D + 1) (.loop { mk .done (some c) with state := .exhausted }), ?_, ?_⟩
   ·
    rw [run_endLoop q3 (by rw [← hrec]; simp), ← hrec]
   ·
    exact hstop D c _ (Nat.le_refl _) (hIx _ _ _ q1 (CellsKept.put _ q3 rfl) (below_put _ (Below.refl _ _) (by omega) q3)) ((World.putObj_heap_other (by omega)).trans q4)
end Go.Proofs.YtmcflfpckpjphaaGreatDoor.Ranges

namespace Go.Proofs.YtmcflfpckpjphaaGreatDoor.StrB
open Go.RowKit Mem App Blk Pads ShaP Comp MacP MacI KdfP Ranges
attribute [local go_sem] Oper.semAt_some

set_option maxHeartbeats 1600000 in
theorem implBlockOf (a0 : Option Addr) (n0 c0 : Nat) (a1 : Option Addr) (n1 c1 : Nat) (k h : List Int) (i : Int) (w : World) (hT : Tab w) (e0 : n0 = k.length) (e1 : n1 = h.length) (r0 : Rd w a0 k) (r1 : Rd w a1 h) (na0 : a0 = none → c0 = 0) (na1 : a1 = none → c1 = 0) (hb0 : Bytes k) (hb1 : Bytes h) (l0 : n0 ≤ 2097152) (l1 : n1 ≤ 2097152) :
  Calls Tryz.prog 162 #[.slice a0 n0 c0, .slice a1 n1 c1, .int .i64 i] w fun e w' =>
   ∃ g m c, e = .returned (.slice (some ⟨g, 0, none⟩) m c) ∧ m = (blockI k h i).length ∧ w.heap.size ≤ g ∧ Row w' g c (blockI k h i) ∧ Below w.heap.size w w' := by
 have HT := hid (hT)
 have HN0 : Hid (n0 = k.length) := e0
 have HN1 : Hid (n1 = h.length) := e1
 have HR0 := hid (r0)
 have HR1 := hid (r1)
 have HB0 := hid (hb0)
 have HB1 := hid (hb1)
 clear e0 e1 r0 r1 hb0 hb1 hT
 by_cases hm : 0 ≤ i ∧ i ≤ 6 ∧ n1 ≤ 100
 ·
  have HBI : Hid (blockI k h i = hmacI k (([115] ++ h) ++ putN i 4)) := by
   show _ = _
   unfold blockI; rw [if_pos ⟨hm.1, hm.2.1, by rw [← HN1.out]; exact hm.2.2⟩]
   unfold sblk
   rw [Int.toNat_of_nonneg hm.1]; rfl
  have q0 : ¬ (i < 0) := by omega
  have q6 : ¬ (i > 6) := by omega
  have q1 : ¬ ((n1 : Int) > 100) := by omega
  have hn1 : n1 ≤ 100 := hm.2.2
  have A0 : Hid (Below w.heap.size w (w.alloc (.cells #[.int .u8 115] 5))) := (Below.refl _ _).alloc (Nat.le_refl _) _
  have R0 : Hid (Row (w.alloc (.cells #[.int .u8 115] 5)) w.heap.size 1 [115]) := row_new w [115] (by simp [maxLen])
  clear hm
  go_enter Tryz.func162, Tryz.ntmps162
  go_wp2_with fail
  refine (putBytes _ _ 1 1 n1 c1 [115] h _ rfl HN1.out R0.out.rd (HR1.out.later A0.out (Nat.le_refl _)) (by intro e; cases e) na1 (by simp) (by rw [← HN1.out]; omega)).mono ?_
  rintro e w1 ⟨rfl, r1, b1⟩
  have R1 : Hid (Row w1 (w.heap.size + 1) (1 + n1) ([115] ++ h)) := (by have := r1; rw [World.size_alloc] at this; exact this)
  have B1 := hid (A0.out.trans (b1.mono A0.out.size))
  clear r1 b1
  rw [World.size_alloc]
  generalize w.heap.size + 1 = g1 at *
  have L1 : Hid (1 + n1 = ([115] ++ h).length) := by show _ = _; rw [List.length_append, ← HN1.out]; rfl
  go_wp2_with fail
  refine (implPutN (some ⟨g1, 0, none⟩) (1 + n1) (1 + n1) ([115] ++ h) i 4 w1 L1.out R1.out.rd (by intro e; cases e) (by rw [← L1.out]; omega)).mono ?_
  rintro e w2 ⟨g2, m2, c2, rfl, e2, k2, r2, b2⟩
  have E2 : Hid (m2 = (([115] ++ h) ++ putN i 4).length) := e2
  have R2 := hid (r2)
  have B2 := hid (B1.out.trans (b2.mono B1.out.size))
  have hm2 : m2 ≤ 200 := by have := putN_length i 4; rw [e2, List.length_append, ← L1.out]; omega
  have Y2 : Hid (Bytes (([115] ++ h) ++ putN i 4)) := bytes_append (bytes_append (by intro z hz; simp at hz; omega) HB1.out) (num_bytes i 4)
  clear e2 k2 r2 b2
  go_wp2_with fail
  refine (implHmac a0 n0 c0 (some ⟨g2, 0, none⟩) m2 c2 k _ w2 (HT.out.later B2.out) HN0.out E2.out (HR0.out.later B2.out (Nat.le_refl _)) R2.out.rd na0 (by intro e; cases e) HB0.out Y2.out l0 (by omega)).mono ?_
  rw [← HBI.out]
  rintro e w3 ⟨g3, m3, c3, rfl, e3, k3, r3, b3⟩
  have E3 : Hid (m3 = (blockI k h i).length) := e3
  have K3 : Hid (w.heap.size ≤ g3) := Nat.le_trans B2.out.size k3
  have R3 := hid (r3)
  have B3 := hid (B2.out.trans (b3.mono B2.out.size))
  clear e3 k3 r3 b3
  go_wp2
  go_ret
  exact ⟨g3, m3, c3, rfl, E3.out, K3.out, R3.out, B3.out⟩
 ·
  have HBI : Hid (blockI k h i = []) := by
   show _ = _
   unfold blockI; rw [if_neg (by rw [← HN1.out]; exact hm)]
  have A0 : Hid (Below w.heap.size w (w.alloc (.cells #[] 5))) := (Below.refl _ _).alloc (Nat.le_refl _) _
  have R0 : Hid (Row (w.alloc (.cells #[] 5)) w.heap.size 0 []) := row_new w [] (by simp)
  by_cases h0 : i < 0
  ·
   clear hm
   go_enter Tryz.func162, Tryz.ntmps162
   go_wp2
   go_ret
   exact ⟨w.heap.size, 0, 0, by simp, by rw [HBI.out]; rfl, Nat.le_refl _, by rw [HBI.out]; exact R0.out, A0.out⟩
  ·
   by_cases h6 : i > 6
   ·
    clear hm
    go_enter Tryz.func162, Tryz.ntmps162
    go_wp2
    go_ret
    exact ⟨w.heap.size, 0, 0, by simp, by rw [HBI.out]; rfl, Nat.le_refl _, by rw [HBI.out]; exact R0.out, A0.out⟩
   ·
    have q1 : (n1 : Int) > 100 := by omega
    clear hm
    go_enter Tryz.func162, Tryz.ntmps162
    go_wp2
    go_ret
    exact ⟨w.heap.size, 0, 0, by simp, by rw [HBI.out]; rfl, Nat.le_refl _, by rw [HBI.out]; exact R0.out, A0.out⟩

theorem canStream (a0 : Option Addr) (n0 c0 : Nat) (a1 : Option Addr) (n1 c1 : Nat) (k f : List Int) (n : Int) (w : World) (e0 : n0 = k.length) (e1 : n1 = f.length) :
  Calls Tryz.prog 140 #[.slice a0 n0 c0, .slice a1 n1 c1, .int .i64 n] w fun e w' => e = .returned (.bool (mayStr k f n)) ∧ w = w' := by
 by_cases h1 : 0 ≤ n
 ·
  by_cases h2 : n ≤ 200
  ·
   by_cases h3 : n1 ≤ 100
   ·
    have h3I : (n1 : Int) ≤ 100 := by omega
    have H : Hid (mayStr k f n = isLen (n0 : Int)) := by
     show _ = _
     unfold mayStr isLen
     rw [← e0, ← e1]
     apply decide_eq_decide.2
     omega
    clear e0 e1
    go_enter Tryz.func140, Tryz.ntmps140
    go_wp2_with fail
    refine (isShaLength _ _).mono ?_
    rintro e w1 ⟨rfl, rfl⟩
    go_wp2
    go_ret
    exact ⟨by rw [H.out]; simp, rfl⟩
   ·
    have h3I : ¬ ((n1 : Int) ≤ 100) := by omega
    have H : Hid (mayStr k f n = false) := by
     show _ = _
     unfold mayStr
     rw [← e1]
     exact decide_eq_false (by omega)
    clear e0 e1
    go_enter Tryz.func140, Tryz.ntmps140
    go_wp2
    go_ret
    exact ⟨by rw [H.out]; simp, rfl⟩
  ·
   have H : Hid (mayStr k f n = false) := by
    show _ = _
    unfold mayStr
    exact decide_eq_false (by omega)
   clear e0 e1
   go_enter Tryz.func140, Tryz.ntmps140
   go_wp2
   go_ret
   exact ⟨by rw [H.out]; simp, rfl⟩
 ·
  have H : Hid (mayStr k f n = false) := by
   show _ = _
   unfold mayStr
   exact decide_eq_false (by omega)
  clear e0 e1
  go_enter Tryz.func140, Tryz.ntmps140
  go_wp2
  go_ret
  exact ⟨by rw [H.out]; simp, rfl⟩

def caught (q : Nat) : Array Value := #[.pointer (some ⟨q, 0, none⟩), .pointer (some ⟨q + 1, 0, none⟩)]
theorem streamBlocks (a0 : Option Addr) (n0 c0 : Nat) (a1 : Option Addr) (n1 c1 : Nat) (w : World) :
  Calls Tryz.prog 141 #[.slice a0 n0 c0, .slice a1 n1 c1] w fun e w' =>
   e = .returned (.func (.func 161) #[] (caught w.heap.size)) ∧ Blk w' w.heap.size 22 [.slice a0 n0 c0] ∧ Blk w' (w.heap.size + 1) 22 [.slice a1 n1 c1] ∧ Below w.heap.size w w' := by
 have hmf : ∀ (fn : Fn) (first cap : Array Value) (w : World), (Instr.makeFunc fn first cap).run Tryz.prog w = .ok (.func fn first cap) w := fun _ _ _ _ => rfl
 go_enter Tryz.func141, Tryz.ntmps141
 go_wp2
 go_ret
 have h1 := Blk.new (w.alloc (.cells #[.slice a0 n0 c0] 22)) 22 [.slice a1 n1 c1]
 rw [World.size_alloc] at h1
 exact ⟨rfl, (Blk.new w 22 [.slice a0 n0 c0]).alloc _, h1, ((Below.refl _ _).alloc (Nat.le_refl _) _).alloc (by simp) _⟩

def Given (k h : List Int) (i : Nat) (v : Value) (W : World) : Prop := ∃ g c, v = .slice (some ⟨g, 0, none⟩) 32 c ∧ Row W g c (sblk k h i)

def Reads (q : Nat) (a0 : Option Addr) (n0 c0 : Nat) (a1 : Option Addr) (n1 c1 : Nat) (k h : List Int) (W : World) : Prop :=
 Tab W ∧ Rd W a0 k ∧ Rd W a1 h ∧ Blk W q 22 [.slice a0 n0 c0] ∧ Blk W (q + 1) 22 [.slice a1 n1 c1]

set_option maxHeartbeats 1600000 in
theorem feeds (n q : Nat) (hn : 1 ≤ n) (a0 : Option Addr) (n0 c0 : Nat) (a1 : Option Addr) (n1 c1 : Nat) (k h : List Int) (W : World) (e0 : n0 = k.length) (e1 : n1 = h.length) (na0 : a0 = none → c0 = 0) (na1 : a1 = none → c1 = 0) (hb0 : Bytes k) (hb1 : Bytes h) (l0 : n0 ≤ 1048576) (l1 : n1 ≤ 100) :
  Feeds Fence.wide n Tryz.prog 161 (caught q) 7 (Given k h) (Reads q a0 n0 c0 a1 n1 c1 k h) W := by
 intro l J Jx hJ hJu hY h0
 refine callsIn_of_wp Tryz.func161 rfl trivial ?_ rfl
 unfold caught
 simp only [Tryz.ntmps161, List.size_toArray, List.length_cons, List.length_nil, Nat.reduceAdd, Nat.reduceSub, Array.replicate_succ, Array.replicate_zero, List.push_toArray, List.append_toArray, List.nil_append, List.cons_append]
 have HJ : Hid (∀ i A B, J i A → Below A.heap.size A B → J i B) := hJ
 have HJu : Hid (∀ i A, J i A → Reads q a0 n0 c0 a1 n1 c1 k h A) := hJu
 have HN0 : Hid (n0 = k.length) := e0
 have HN1 : Hid (n1 = h.length) := e1
 have HB0 := hid (hb0)
 have HB1 := hid (hb1)
 clear hJ hJu e0 e1 hb0 hb1
 gi_wp2
 gi_loopw [5] (fun p wr => ∃ i : Nat, i ≤ 7 ∧ p = .int .i64 (i : Int) ∧ J i wr)
  (fun p _ => 7 - (intOf p).toNat)
 case atStart => exact ⟨0, by omega, rfl, h0⟩
 case round =>
  obtain ⟨i, hi, rfl, hj⟩ := hrel
  by_cases hlt : i < 7
  ·
   have hltI : (i : Int) < 7 := by omega
   have HBI : Hid (blockI k h (i : Int) = sblk k h i) := by show _ = _; unfold blockI; rw [if_pos ⟨by omega, by omega, by rw [← HN1.out]; exact l1⟩, Int.toNat_natCast]
   have H32 : Hid ((sblk k h i).length = 32) := sblk_len k h (by rw [← HN0.out]; exact l0) (by rw [← HN1.out]; exact l1) i
   have HU : Hid (Reads q a0 n0 c0 a1 n1 c1 k h wr) := HJu.out i wr hj
   have q0 := HU.out.2.2.2.1.cell 0 rfl
   have q1 := HU.out.2.2.2.2.cell 0 rfl
   gi_wp2_with (refine ⟨trivial, ?_⟩; gi_at_call 162; refine (callsIn_wide.2 (implBlockOf a0 n0 c0 a1 n1 c1 k h (i : Int) wr HU.out.1 HN0.out HN1.out HU.out.2.1 HU.out.2.2.1 na0 na1 HB0.out HB1.out (by omega) (by omega))).mono ?_; rw [HBI.out]; rintro e w1 ⟨g, m, c, rfl, em, k1, rr1, b1⟩; obtain rfl : 32 = m := (by rw [em, H32.out]); obtain ⟨fn, tmps, assign, body, hy, hR⟩ := hY i _ w1 hlt (HJ.out i wr w1 hj b1) ⟨g, c, rfl, rr1⟩; clear em)
   refine hR.mono ?_
   rintro e w2 (⟨rfl, hj2⟩ | ⟨rfl, hx⟩)
   ·
    gi_wp2
    go_roundw
    case rel => exact ⟨i + 1, by omega, by go_num, hj2⟩
    case measure => simp [intOf]; omega
   ·
    gi_wp2
    refine bodyPost_ret (results_none rfl _ _ _) rfl ?_
    exact ⟨⟨_, rfl⟩, .inr hx⟩
  ·
   have hltI : ¬ ((i : Int) < 7) := by omega
   obtain rfl : 7 = i := by omega
   gi_wp2
   go_end0
   exact ⟨⟨_, rfl⟩, .inl hj⟩
end Go.Proofs.YtmcflfpckpjphaaGreatDoor.StrB

namespace Go.Proofs.YtmcflfpckpjphaaGreatDoor.EachIn
open Go.RowKit Mem App Blk Each Copy

def fitB2 (ops : Array Oper) (last : Nat) (D : List Nat) (dst : Nat → Nat) : Bool :=
 ops.size == last + 2 &&
 (List.range (last + 2)).all (fun i => (pre ops i).all (fun j => decide (j < i))) &&
 (List.range last).all (fun j => (List.range (last + 1)).any (fun k => decide (j < k) && (pre ops k).contains j)) &&
 (List.range last).all (fun i => D.contains (dst i) && (List.range last).all (fun j => i == j || dst i != dst j)) &&
 (pre ops (last + 1)).contains last

theorem region_two_in {F' : Fence} {m' : Nat} {P : Program} {ops : Array Oper} {Q : Exit → Act → World → Prop} {id : Nat} {a0 : Act} {w0 : World}
  (hm : P.follows .mixedOrders = true) (D : List Nat) (last : Nat) (dst : Nat → Nat) (cls : Nat → Nat)
  (F : Nat → Nat → Value → World → Prop) (B : World → Prop) (hfit : fitB2 ops last D dst = true)
  (hB : B w0.drew)
  (hkeep : ∀ i g v w w', i < last → F i g v w → Below w.heap.size w w' → B w' → F i g v w')
  (hstep : ∀ i, i < last → ∀ (t : Nat → Value) (ρ : Nat → Nat) (w : World), B w → (∀ j ∈ pre ops i, F j (ρ j) (t (dst j)) w) → (∀ x y, x ∈ pre ops i → y ∈ pre ops i → cls x ≠ 0 → cls y ≠ 0 → cls x ≠ cls y → ρ x ≠ ρ y) →
   wpOpIn F' m' P ops Q i (fun a' w' => ∃ v g, a' = (fr D a0 t).put (some (dst i)) v ∧ B w' ∧ Below w.heap.size w w' ∧ F i g v w' ∧ (cls i = 0 ∨ g < w'.heap.size ∧ (w.heap.size ≤ g ∨ ∃ j ∈ pre ops i, cls j = cls i ∧ g = ρ j))) (fr D a0 t) w)
  (hlast : ∀ (t : Nat → Value) (ρ : Nat → Nat) (w : World), B w → (∀ j, j < last → F j (ρ j) (t (dst j)) w) →
   (∀ i j, i < last → j < last → cls i ≠ 0 → cls j ≠ 0 → cls i ≠ cls j → ρ i ≠ ρ j) →
   wpOpIn F' m' P ops Q last (fun a' w' => wpOpIn F' m' P ops Q (last + 1) (fun a'' w'' => Q .normal a'' w'') a' w') (fr D a0 t) w) :
  (Code.region id ops true).wpIn F' m' P Q a0 w0 := by
 unfold fitB2 at hfit
 simp only [Bool.and_eq_true, beq_iff_eq, List.all_eq_true, List.mem_range, decide_eq_true_eq, List.any_eq_true, Bool.or_eq_true, bne_iff_ne, ne_eq] at hfit
 obtain ⟨⟨⟨⟨hsz, hord⟩, hcov⟩, hdst⟩, hlst⟩ := hfit
 have hlst' : last ∈ pre ops (last + 1) := by simpa using hlst
 have main : ∀ (fuel : Nat) (listed : Array Bool) (a : Act) (w : World), listed.size = ops.size → listed.getD last true = false → listed.getD (last + 1) true = false → listed.toList.count false ≤ fuel →
   (∀ i, i < last + 2 → listed.getD i true = true → ∀ j ∈ pre ops i, listed.getD j true = true) →
   (∃ (t : Nat → Value) (ρ : Nat → Nat), a = fr D a0 t ∧ B w ∧ (∀ i, i < last → listed.getD i true = true → F i (ρ i) (t (dst i)) w ∧ (cls i = 0 ∨ ρ i < w.heap.size)) ∧
    (∀ i j, i < last → j < last → listed.getD i true = true → listed.getD j true = true → cls i ≠ 0 → cls j ≠ 0 → cls i ≠ cls j → ρ i ≠ ρ j)) →
   wpAnyIn F' m' P .any ops Q fuel listed a w := by
  intro fuel
  induction fuel with
  | zero =>
   intro listed a w hls hl hl2 hc _ _
   exfalso
   have hlt : last < listed.size := by omega
   have : false ∈ listed.toList := by
    rw [Array.mem_toList_iff]
    have : listed[last] = false := by simpa [Array.getD, hlt] using hl
    rw [← this]; exact Array.getElem_mem hlt
   have := List.count_pos_iff.2 this
   omega
  | succ fuel ih =>
   intro listed a w hls hl hl2 hc hcl ⟨t, ρ, ha, hBw, hF, hne⟩
   have hop : ∀ i, i < last + 2 → ∃ o, ops[i]? = some o := fun i hi => ⟨ops[i]'(by omega), by simp⟩
   refine ⟨fun h0 => ?_, fun i hi => ?_⟩
   ·
    exfalso
    -- the least that is not listed may come up
    have : ∃ i, i < last + 1 ∧ listed.getD i true = false ∧ ∀ j, j < i → listed.getD j true = true := by
     have aux : ∀ m, m ≤ last + 1 → (∀ j, j < m → listed.getD j true = true) ∨ ∃ i, i < m ∧ listed.getD i true = false ∧ ∀ j, j < i → listed.getD j true = true := by
      intro m
      induction m with
      | zero => intro _; exact .inl fun j hj => by omega
      | succ m ihm =>
       intro hm1
       rcases ihm (by omega) with h | ⟨i, h1, h2, h3⟩
       ·
        cases hv : listed.getD m true with
        | false => exact .inr ⟨m, by omega, hv, h⟩
        | true =>
         left; intro j hj
         rcases Nat.lt_or_ge j m with h' | h'
         ·
          exact h j h'
         ·
          obtain rfl : j = m := by omega
          exact hv
       ·
        exact .inr ⟨i, by omega, h2, h3⟩
     rcases aux (last + 1) (Nat.le_refl _) with h | h
     ·
      have := h last (by omega); rw [hl] at this; cases this
     ·
      exact h
    obtain ⟨i, hi, hu, hb⟩ := this
    obtain ⟨o, ho⟩ := hop i (by omega)
    have : i ∈ Region.ready .any ops listed := mem_ready.2 ⟨hu, o, ho, fun e he hbi => by
     have hj := hord i (by omega) e.on ((mem_pre ho).2 ⟨e, he, hbi, rfl⟩)
     have := hb e.on hj
     have hlt : e.on < listed.size := by omega
     simpa [Array.getD, hlt] using this⟩
    rw [h0] at this; cases this
   ·
    obtain ⟨hu, o, ho, hpre⟩ := mem_ready.1 hi
    have hil0 : i < last + 2 := by
     have := (Array.getElem?_eq_some_iff.1 ho).1; omega
    have hpre' : ∀ j ∈ pre ops i, listed.getD j true = true := fun j hj => by
     obtain ⟨e, he, hbi, rfl⟩ := (mem_pre ho).1 hj
     have h1 := hpre e he hbi
     have hlt : e.on < listed.size := by
      have := hord i hil0 e.on hj; omega
     simpa [Array.getD, hlt] using h1
    have hil : i < last + 1 := by
     rcases Nat.lt_or_ge i (last + 1) with h | h
     ·
      exact h
     ·
      obtain rfl : i = last + 1 := by omega
      have := hpre' last hlst'; rw [hl] at this; cases this
    have hset : ∀ j, (listed.setIfInBounds i true).getD j true = true ↔ j = i ∨ listed.getD j true = true := fun j => by
     by_cases hji : j = i
     ·
      subst hji
      have hlt : j < listed.size := by omega
      simp [Array.getD, hlt]
     ·
      simp only [hji, false_or]
      rw [getD_set_ne true (Ne.symm hji)]
    by_cases hlast' : i = last
    ·
     subst hlast'
     have hall : ∀ d j, j + d = i → j < i → listed.getD j true = true := by
      intro d
      induction d using Nat.strongRecOn with
      | ind d ihd =>
       intro j hjd hji
       obtain ⟨k, hk, hjk, hmem⟩ := hcov j hji
       have hmem' : j ∈ pre ops k := by simpa using hmem
       by_cases hki : k = i
       ·
        subst hki; exact hpre' j hmem'
       ·
        exact hcl k (by omega) (ihd (i - k) (by omega) k (by omega) (by omega)) j hmem'
     have hl3 := hlast t ρ w hBw (fun j hj => (hF j hj (hall (i - j) j (by omega) hj)).1) (fun x y hx hy => hne x y hx hy (hall (i - x) x (by omega) hx) (hall (i - y) y (by omega) hy))
     rw [ha]
     have hS : ∀ k, k < i + 1 → (listed.setIfInBounds i true).getD k true = true := fun k hk => (hset k).2 (by
      by_cases hki : k = i
      ·
       exact .inl hki
      ·
       exact .inr (hall (i - k) k (by omega) (by omega)))
     have hU : (listed.setIfInBounds i true).getD (i + 1) true = false := by
      cases hx : (listed.setIfInBounds i true).getD (i + 1) true with
      | false => rfl
      | true =>
       rcases (hset (i + 1)).1 hx with h | h
       ·
        omega
       ·
        rw [hl2] at h; cases h
     have hT : ∀ k, ((listed.setIfInBounds i true).setIfInBounds (i + 1) true).getD k true = true := fun k => by
      by_cases hk1 : k = i + 1
      ·
       subst hk1
       have hlt : i + 1 < (listed.setIfInBounds i true).size := by simp; omega
       simp [Array.getD]
      ·
       rw [getD_set_ne true (Ne.symm hk1)]
       rcases Nat.lt_or_ge k (i + 1) with h | h
       ·
        exact hS k h
       ·
        have : ¬ k < (listed.setIfInBounds i true).size := by simp; omega
        rw [Array.getD, dif_neg this]
     refine wpOpIn_mono (fun a' w' hQ => ?_) hl3
     cases fuel with
     | zero =>
      exfalso
      have q1 : i < listed.toList.length := by simp; omega
      have q2 : i + 1 < listed.toList.length := by simp; omega
      have v1 : listed.toList[i] = false := by
       have h' : i < listed.size := by omega
       simpa [Array.getD, h'] using hu
      have v2 : listed.toList[i + 1] = false := by
       have h' : i + 1 < listed.size := by omega
       simpa [Array.getD, h'] using hl2
      have hc2 : (listed.toList.set i true).count false + 1 = listed.toList.count false := by
       rw [List.count_set q1, v1]
       have : 0 < listed.toList.count false := List.count_pos_iff.2 (by rw [← v1]; exact List.getElem_mem q1)
       rw [if_pos (by rfl), if_neg (by decide)]
       omega
      have : 0 < (listed.toList.set i true).count false := List.count_pos_iff.2 (by
       have q3 : i + 1 < (listed.toList.set i true).length := by simpa using q2
       have : (listed.toList.set i true)[i + 1] = false := by rw [List.getElem_set_ne (by omega)]; exact v2
       rw [← this]; exact List.getElem_mem q3)
      omega
     | succ fuel =>
      obtain ⟨o2, ho2⟩ := hop (i + 1) (by omega)
      refine ⟨fun h0 => ?_, fun j hj => ?_⟩
      ·
       exfalso
       have : i + 1 ∈ Region.ready .any ops (listed.setIfInBounds i true) := mem_ready.2 ⟨hU, o2, ho2, fun e he hbi => by
        have hj := hord (i + 1) (by omega) e.on ((mem_pre ho2).2 ⟨e, he, hbi, rfl⟩)
        have := hS e.on hj
        have hlt : e.on < listed.size := by omega
        simpa [Array.getD, hlt] using this⟩
       rw [h0] at this; cases this
      ·
       obtain ⟨hju, oj, hoj, _⟩ := mem_ready.1 hj
       have hj2 : j < i + 2 := by have := (Array.getElem?_eq_some_iff.1 hoj).1; omega
       obtain rfl : j = i + 1 := by
        rcases Nat.lt_or_ge j (i + 1) with h | h
        ·
         rw [hS j h] at hju; cases hju
        ·
         omega
       refine wpOpIn_mono (fun a'' w'' hQ2 => wpAnyIn_done ?_ hQ2 fuel) hQ
       apply List.eq_nil_iff_forall_not_mem.2
       intro k hk
       obtain ⟨hku, _⟩ := mem_ready.1 hk
       rw [hT k] at hku; cases hku
    ·
     have hilt : i < last := by omega
     have hs := hstep i hilt t ρ w hBw (fun j hj => (hF j (by have := hord i (by omega) j hj; omega) (hpre' j hj)).1) (fun x y hx hy => hne x y (by have := hord i (by omega) x hx; omega) (by have := hord i (by omega) y hy; omega) (hpre' x hx) (hpre' y hy))
     rw [ha]
     refine wpOpIn_mono (fun a' w' h => ?_) hs
     obtain ⟨v, g, rfl, hB', hbe, hFi, hg⟩ := h
     rw [fr_put D a0 t (dst i) v (hdst i hilt).1]
     apply ih
     ·
      simp [hls]
     ·
      cases hx : (listed.setIfInBounds i true).getD last true with
      | false => rfl
      | true =>
       rcases (hset last).1 hx with h | h
       ·
        exact absurd h.symm hlast'
       ·
        rw [hl] at h; cases h
     ·
      cases hx : (listed.setIfInBounds i true).getD (last + 1) true with
      | false => rfl
      | true =>
       rcases (hset (last + 1)).1 hx with h | h
       ·
        omega
       ·
        rw [hl2] at h; cases h
     ·
      have hlt : i < listed.toList.length := by simp; omega
      have hfi : listed.toList[i] = false := by
       have hlt' : i < listed.size := by omega
       simpa [Array.getD, hlt'] using hu
      rw [Array.toList_setIfInBounds, List.count_set hlt, hfi]
      have : 0 < listed.toList.count false := List.count_pos_iff.2 (by rw [← hfi]; exact List.getElem_mem hlt)
      rw [if_pos (by rfl), if_neg (by decide)]
      omega
     ·
      intro k hk hkl j hj
      rcases (hset k).1 hkl with rfl | h
      ·
       exact (hset j).2 (.inr (hpre' j hj))
      ·
       exact (hset j).2 (.inr (hcl k hk h j hj))
     ·
      refine ⟨upd t (dst i) v, fun k => if k = i then g else ρ k, rfl, hB', ?_, ?_⟩
      ·
       intro k hk hkl
       by_cases hki : k = i
       ·
        subst hki
        simp only [if_true, upd_same]
        exact ⟨hFi, hg.imp (fun h => h) And.left⟩
       ·
        have hdk : dst k ≠ dst i := by
         have := (hdst k hk).2 i hilt
         rcases this with h | h
         ·
          exact absurd h hki
         ·
          exact h
        have := hF k hk (((hset k).1 hkl).resolve_left hki)
        simp only [hki, if_false, upd_other _ _ _ _ hdk]
        exact ⟨hkeep k _ _ w w' hk this.1 hbe hB', this.2.imp (fun h => h) (fun h => Nat.lt_of_lt_of_le h hbe.size)⟩
      ·
       intro x y hx hy hxl hyl cx cy cxy
       have key : ∀ y, y < last → y ≠ i → (listed.setIfInBounds i true).getD y true = true → cls i ≠ 0 → cls y ≠ 0 → cls i ≠ cls y → g ≠ ρ y := by
        intro y hy hyi hyl ci cy ciy
        have hyl' := ((hset y).1 hyl).resolve_left hyi
        rcases hg with h | ⟨_, h | ⟨j, hj, hcj, rfl⟩⟩
        ·
         exact absurd h ci
        ·
         have := (hF y hy hyl').2
         rcases this with h' | h'
         ·
          exact absurd h' cy
         ·
          omega
        ·
         have hjl : j < last := by have := hord i (by omega) j hj; omega
         exact hne j y hjl hy (hpre' j hj) hyl' (by rw [hcj]; exact ci) cy (by rw [hcj]; exact ciy)
       by_cases hxi : x = i
       ·
        subst hxi
        have hyx : y ≠ x := fun h => cxy (by rw [h])
        simp only [if_true, hyx, if_false]
        exact key y hy hyx hyl cx cy cxy
       ·
        by_cases hyi : y = i
        ·
         subst hyi
         simp only [if_true, hxi, if_false]
         exact Ne.symm (key x hx hxi hxl cy cx (Ne.symm cxy))
        ·
         simp only [hxi, hyi, if_false]
         exact hne x y hx hy (((hset x).1 hxl).resolve_left hxi) (((hset y).1 hyl).resolve_left hyi) cx cy cxy
 refine wpIn_region_any hm ?_
 have hrep : ∀ i, i < last + 2 → (Array.replicate ops.size false).getD i true = false := fun i hi => by
  have : i < ops.size := by omega
  simp [Array.getD, this]
 refine main ops.size (Array.replicate ops.size false) a0 w0.drew (by simp) (hrep last (by omega)) (hrep (last + 1) (by omega)) (by simp) (fun i hi h => by rw [hrep i hi] at h; cases h) ?_
 exact ⟨_, fun _ => 0, (fr_start D a0).symm, hB, (fun i hi h => by rw [hrep i (by omega)] at h; cases h), (fun i j hi _ h => by rw [hrep i (by omega)] at h; cases h)⟩

theorem op_wp_in {F : Fence} {n : Nat} {P : Program} {ops : Array Oper} {Q : Exit → Act → World → Prop} {i : Nat} {o : Oper} {K : Act → World → Prop} {a : Act} {w : World}
  (hi : ops[i]? = some o) (hg : o.guard = none) (h : Oper.wpIn F n P o a w K Q) : wpOpIn F n P ops Q i K a w := by
 unfold wpOpIn
 rw [hi]
 have hw : Region.wanted o (yielded ops a.tmps) = true := by simp [Region.wanted, hg]
 simp only [hw, if_true]
 exact h
theorem op_run_in {F : Fence} {n : Nat} {P : Program} {ops : Array Oper} {Q : Exit → Act → World → Prop} {i : Nat} {o : Oper} {K : Act → World → Prop} {a : Act} {w w' : World} {v : Value}
  (hi : ops[i]? = some o) (hg : o.guard = none) (ha : ∀ f, o.about P w a.eval = some f → F.fn f) (hs : o.semAt F.round a.eval = execOp a.eval o) (hr : (execOp a.eval o).run P w = .ok (.value v) w') (hk : K (a.put o.dst v) w') : wpOpIn F n P ops Q i K a w := by
 refine op_wp_in hi hg ⟨ha, ?_⟩
 rw [hs, hr]
 exact hk
theorem op_fit_in {F : Fence} {n : Nat} {ops : Array Oper} {Q : Exit → Act → World → Prop} {i : Nat} {o : Oper} {K : Act → World → Prop} {a : Act} {w : World}
  (hi : ops[i]? = some o) (hgd : o.guard = none) (s x : Operand) (hop : o.op = .call { callee := .builtin .append, args := #[s, x], argTypes := #[22, 22] })
  (g k cap : Nat) (l y : List Int) (hs : a.eval s = .slice (some ⟨g, 0, none⟩) k cap) (hk : k = l.length) (hrow : Row w g cap l)
  (ad : Addr) (m c : Nat) (hx : a.eval x = .slice (some ad) m c) (hm : m = y.length) (hrd : Rd w (some ad) y) (hsum : l.length + y.length ≤ cap)
  (hK : ∀ w', Row w' g cap (l ++ y) → w.grownBy w' (some g) → K (a.put o.dst (.slice (some ⟨g, 0, none⟩) (k + m) cap)) w') : wpOpIn F n Tryz.prog ops Q i K a w := by
 obtain ⟨i0, h2, hz0, hz1, hz2⟩ := info_parts info8
 subst hk hm
 obtain ⟨w', hrun, r1, r2⟩ := run_append_fits (P := Tryz.prog) w g 22 o.type 5 i0 1 Tryz.underlying22 h2 hz1 g l.length cap _ (hrow.owns (Nat.le_refl _)) ad y.length c (y.map (Value.int .u8)) (by simp) (Rd.cells hrd) (ints_oneCell _ _) hsum
 refine op_wp_in hi hgd ⟨?_, ?_⟩
 ·
  simp [Oper.about, hop, resolve, Target.leads, Sem.run_pure]
 ·
  rw [Oper.semAt_plain F _ _ (by rw [hop]; intro c hc'; cases hc')]
  simp [execOp, hop, resolve, invoke, builtin, hs, hx, hrun, Result.andThen]
  rw [← List.map_append] at r1
  exact hK w' (Row.of r1).1 r2
end Go.Proofs.YtmcflfpckpjphaaGreatDoor.EachIn

namespace Go.Proofs.YtmcflfpckpjphaaGreatDoor.AppAt
open Go.RowKit Mem App

theorem wpList_app_at (w : World) {ops : Array Oper} {rest : List Oper} {o : Oper} {a : Act} {Q : Exit → Act → World → Prop} (hgd : o.guard = none) (s x : Operand)
  (ho : o.op = .call { callee := .builtin .append, args := #[s, x], argTypes := #[22, 22] })
  (base g n cap : Nat) (l y : List Int) (hs : a.eval s = .slice (some ⟨g, 0, none⟩) n cap) (hn : n = l.length) (hrow : Row w g cap l) (hbg : base ≤ g)
  (ao : Option Addr) (m c : Nat) (hx : a.eval x = .slice ao m c) (hm : m = y.length) (hrd : Rd w ao y) (hnone : ao = none → c = 0) (hsum : l.length + y.length ≤ 100000000)
  (h : ∀ g' cap' w', Row w' g' cap' (l ++ y) → base ≤ g' → (g' = g ∨ w.heap.size ≤ g') → w.grownBy w' (some g) → wpList Tryz.prog ops Q rest (a.put o.dst (.slice (some ⟨g', 0, none⟩) (n + m) cap')) w') :
  wpList Tryz.prog ops Q (o :: rest) a w := by
 obtain ⟨i0, hi, hz0, hz1, hz2⟩ := info_parts info8
 subst hn hm
 have hlt := hrow.lt
 cases ao with
 | none =>
  have hy : y = [] := by
   cases y with
   | nil => rfl
   | cons z r => obtain ⟨_, _, e, _⟩ := hrd 0 (by simp); cases e
  subst hy
  have hc0 := hnone rfl
  subst hc0
  refine wpList_append_own_none hgd s x 22 ho base 5 i0 1 Tryz.underlying22 hi _ _ _ hs (hrow.owns hbg) hx ?_
  simpa using h g cap w (by simpa using hrow) hbg (.inl rfl) (World.grownBy.refl _ _)
 | some ad =>
  refine wpList_append_own_at w hgd s x 22 ho base 5 i0 (.int .u8 0) 1 1 Tryz.underlying22 hi hz0 hz1 hz2 rfl (by decide) _ _ _ hs (hrow.owns hbg) ad y.length c (y.map (Value.int .u8)) hx (by simp) (Rd.cells hrd) (ints_oneCell _ _) (by unfold maxLen; omega) (by omega) (by omega) ?_
  intro v' w' hown hgr hiff hat
  rcases hown.2 with ⟨hv, _⟩ | ⟨g', cap', cur, rfl, hb, hg', _⟩
  ·
   exact absurd (hiff.1 hv).1 (by simp)
  ·
   rw [← List.map_append] at hown
   obtain ⟨r1, r2, _, r4⟩ := Row.of hown
   refine h g' cap' w' r1 r2 ?_ hgr
   rcases hat with e | e
   ·
    simp only [Value.ownBlock, Option.some.injEq] at e; exact .inl e
   ·
    simp only [Value.ownBlock, Option.some.injEq] at e; exact .inr (by omega)
end Go.Proofs.YtmcflfpckpjphaaGreatDoor.AppAt

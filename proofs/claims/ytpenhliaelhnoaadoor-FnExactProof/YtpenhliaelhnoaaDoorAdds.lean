/-
  What impl's add does to a sum behind a pointer, for every slice of bytes, where the table of round words holds what the program's text lays into it: the blocks are compressed, the rest is held.
-/
import Derived.Test.YtpenhliaelhnoaaDoorCuts
import Derived.Test.YtpenhliaelhnoaaDoorCompI
import Derived.Test.YtpenhliaelhnoaaDoorStart
namespace Go.Proofs.YtpenhliaelhnoaaDoor.Adds
open Go.RowKit Go.Proofs.YtpenhliaelhnoaaDoor.Mem Go.Proofs.YtpenhliaelhnoaaDoor.MemI Go.Proofs.YtpenhliaelhnoaaDoor.Blk Go.Proofs.YtpenhliaelhnoaaDoor.App Go.Proofs.YtpenhliaelhnoaaDoor.Get Go.Proofs.YtpenhliaelhnoaaDoor.ShaP Go.Proofs.YtpenhliaelhnoaaDoor.Word Go.Proofs.YtpenhliaelhnoaaDoor.Bits Go.Proofs.YtpenhliaelhnoaaDoor.Sched Go.Proofs.YtpenhliaelhnoaaDoor.Words Go.Proofs.YtpenhliaelhnoaaDoor.WordsOf Go.Proofs.YtpenhliaelhnoaaDoor.Comp Go.Proofs.YtpenhliaelhnoaaDoor.CompS Go.Proofs.YtpenhliaelhnoaaDoor.Start Go.Proofs.YtpenhliaelhnoaaDoor.Cuts Go.Proofs.YtpenhliaelhnoaaDoor.Pads

set_option maxRecDepth 100000 in
theorem sum_held (h : List Int) (a : Option Addr) (m c : Nat) (n : Int) (a' : Option Addr) (m' c' : Nat) (hh : h.length = 8) : (sumCells h a m c n).set 8 (.slice a' m' c') = sumCells h a' m' c' n := by
  unfold sumCells
  rw [List.set_append, if_neg (by simp [hh]), List.length_map, hh]; rfl
set_option maxRecDepth 100000 in
theorem sum_n (h : List Int) (a : Option Addr) (m c : Nat) (n n' : Int) (hh : h.length = 8) : (sumCells h a m c n).set 9 (.int .i64 n') = sumCells h a m c n' := by
  unfold sumCells
  rw [List.set_append, if_neg (by simp [hh]), List.length_map, hh]; rfl
set_option maxRecDepth 100000 in
theorem sum_len (h : List Int) (a : Option Addr) (m c : Nat) (n : Int) (hh : h.length = 8) : (sumCells h a m c n).length = 10 := by simp [sumCells, hh]
set_option maxRecDepth 100000 in
theorem sum_at8 {w : World} {g : Nat} {t : TypeId} {h : List Int} {a : Option Addr} {m c : Nat} {n : Int} (hB : Blk w g t (sumCells h a m c n)) (hh : h.length = 8) : w.cell? ⟨g, 8, none⟩ = some (.slice a m c) :=
  hB.cell 8 (by simp [sumCells, hh])
set_option maxRecDepth 100000 in
theorem sum_at9 {w : World} {g : Nat} {t : TypeId} {h : List Int} {a : Option Addr} {m c : Nat} {n : Int} (hB : Blk w g t (sumCells h a m c n)) (hh : h.length = 8) : w.cell? ⟨g, 9, none⟩ = some (.int .i64 n) :=
  hB.cell 9 (by simp [sumCells, hh])
set_option maxRecDepth 100000 in
theorem grown_of_below {w w' : World} (b : Below w.heap.size w w') (g : Nat) : w.grownBy w' (some g) := ⟨b.os, b.tape, b.output, b.size, fun i hi _ => b.block i hi⟩
set_option maxRecDepth 100000 in
theorem grown_store {w w' : World} {g : Nat} {t : TypeId} {cs : List Value} (hg : w.grownBy w' (some g)) (hB : Blk w' g t cs) (hl : cs.length ≤ maxLen) (i : Nat) (v : Value) : w.grownBy (w'.setCell ⟨g, i, none⟩ v) (some g) :=
  grown_trans hg ((hB.owns hl).stored i v).2

set_option maxRecDepth 100000 in
set_option maxHeartbeats 4000000 in
theorem add (g : Nat) (h : List Int) (ao : Option Addr) (m c : Nat) (n : Int) (held : List Int) (a : Option Addr) (nb cap : Nat) (b : List Int) (w : World)
    (hB : Blk w g 80 (sumCells h ao m c n)) (hg : 0 < g) (hh : h.length = 8) (hw : Wds h) (hT : Tab w) (hm : m = held.length) (hx : Rd w ao held) (nx : ao = none → c = 0) (hxb : Bytes held) (hml : m ≤ 2097152)
    (hn : nb = b.length) (hy : Rd w a b) (ny : a = none → cap = 0) (hyb : Bytes b) (hnl : nb ≤ 2097152) (hn0 : 0 ≤ n) (hn1 : n ≤ 4194304) :
    Calls Tryd.prog 74 #[.pointer (some ⟨g, 0, none⟩), .slice a nb cap] w fun e w' =>
      ∃ a' m' c', e = .returned (.tuple #[]) ∧ Blk w' g 80 (sumCells (run h (held ++ b) ((held ++ b).length / 64)) a' m' c' (n + nb)) ∧ m' = ((held ++ b).drop (64 * ((held ++ b).length / 64))).length ∧ Rd w' a' ((held ++ b).drop (64 * ((held ++ b).length / 64))) ∧ (a' = none → c' = 0) ∧ w.grownBy w' (some g) := by
  have HB : Hid (Blk w g 80 (sumCells h ao m c n)) := hB
  have HH : Hid (h.length = 8) := hh
  have HW : Hid (Wds h) := hw
  have HT : Hid (Tab w) := hT
  have HX : Hid (Rd w ao held) := hx
  have HY : Hid (Rd w a b) := hy
  have HM : Hid (m = held.length) := hm
  have HN : Hid (nb = b.length) := hn
  have HA : Hid (Bytes (held ++ b)) := fun z hz => (List.mem_append.1 hz).elim (hxb z) (hyb z)
  have HGL : Hid (g < w.heap.size) := hB.lt
  have c8 := sum_at8 hB hh
  clear hB hh hw hT hx hy hm hn hxb hyb
  go_enter Tryd.func74, Tryd.ntmps74
  go_wp2_with fail
  refine (putBytes ao a m c nb cap held b w HM.out HN.out HX.out HY.out nx ny (by rw [← HM.out]; omega) (by rw [← HN.out]; omega)).mono ?_
  rintro e w1 ⟨rfl, r1, b1⟩
  obtain ⟨x, hx⟩ : ∃ x, held ++ b = x := ⟨_, rfl⟩
  rw [hx] at HA r1
  obtain ⟨L, hL⟩ : ∃ L, m + nb = L := ⟨_, rfl⟩
  rw [hL] at r1 ⊢
  have HL : Hid (x.length = L) := by rw [← hx, ← hL, HM.out, HN.out]; simp [Hid]
  have HLL : Hid (m + nb = L) := hL
  have hLm : L ≤ 4194304 := by omega
  have HXX : Hid (held ++ b = x) := hx
  obtain ⟨ga, hga⟩ : ∃ ga, w.heap.size = ga := ⟨_, rfl⟩
  have HGA : Hid (w.heap.size = ga) := hga
  rw [hga] at r1 ⊢
  have R1 : Hid (Row w1 ga L x) := r1
  have B1 : Hid (Below w.heap.size w w1) := b1
  have G1 : Hid (w.grownBy w1 (some g)) := grown_of_below b1 g
  have K1 : Hid (Blk w1 g 80 (sumCells (run h x 0) ao m c n)) := HB.out.later b1
  have HNE : Hid (ga ≠ g) := by show _ ≠ _; have := HGL.out; omega
  have T1 : Hid (Tab w1) := HT.out.later b1
  clear r1 b1 hx hL hga c8
  go_wp2
  go_loopw [4] (fun v wr => ∃ q off R : Nat, 64 * q + R = L ∧ v = .slice (some ⟨ga, off, none⟩) R R ∧ (0 < R → off = 64 * q) ∧ Blk wr g 80 (sumCells (run h x q) ao m c n) ∧ Row wr ga L x ∧ w.grownBy wr (some g))
    (fun v _ => lenOf v)
  case atStart => exact ⟨0, 0, L, by omega, rfl, (fun _ => rfl), K1.out, R1.out, G1.out⟩
  case round =>
    obtain ⟨q, off, R, hR, rfl, hoff, hK, hRow, hG⟩ := hrel
    clear K1 R1 G1 B1 T1
    have HR : Hid (64 * q + R = L) := hR
    have HK : Hid (Blk wr g 80 (sumCells (run h x q) ao m c n)) := hK
    have HRow : Hid (Row wr ga L x) := hRow
    have HG : Hid (w.grownBy wr (some g)) := hG
    have hRm : R ≤ 4194304 := by omega
    clear hR hK hRow hG
    by_cases h64 : 64 ≤ R
    · obtain rfl := hoff (by omega)
      have hT2 : Tab wr := HT.out.grown hg HG.out
      have hP : Rd wr (some ⟨ga, 64 * q, none⟩) (piece x (64 * q) 64) := by
        have := rd_piece HRow.out.rd (64 * q) 64 (by rw [HL.out]; have := HR.out; omega)
        rwa [Nat.zero_add] at this
      have hPl : (piece x (64 * q) 64).length = 64 := piece_length x (64 * q) 64 (by rw [HL.out]; have := HR.out; omega)
      have HP : Hid (Rd wr.drew (some ⟨ga, 64 * q, none⟩) (piece x (64 * q) 64)) := Rd.drewN hP 1
      have HPL : Hid ((piece x (64 * q) 64).length = 64) := hPl
      have HPB : Hid (Bytes (piece x (64 * q) 64)) := piece_bytes HA.out _ _
      have HKD : Hid (Blk wr.drew g 80 ((run h x q).map (Value.int .i64) ++ [.slice ao m c, .int .i64 n])) := blk_drew HK.out
      have HTD : Hid (Tab wr.drew) := hT2
      have HRL : Hid ((run h x q).length = 8) := run_length h x q HH.out
      have HRW : Hid (Wds (run h x q)) := run_wds h x q HW.out
      clear hT2 hP hPl hoff
      go_wp2
      go_region_with (go_at_call 81; refine (compress g 80 (run h x q) [.slice ao m c, .int .i64 n] _ R (piece x (64 * q) 64) wr.drew HKD.out (by simp) HRL.out HRW.out HTD.out HPL.out HP.out HPB.out h64).mono ?_; rintro e w5 ⟨rfl, k5, g5⟩)
      have HN1 : Hid (run h x (q + 1) = comp (run h x q) (piece x (64 * q) 64)) := (rfl : run h x (q + 1) = _)
      have K5 : Hid (Blk w5 g 80 (sumCells (run h x (q + 1)) ao m c n)) := by
        show Blk _ _ _ _
        rw [HN1.out]; exact k5
      have R5 : Hid (Row w5 ga L x) := HRow.out.keep (w' := w5) (g5.block ga HRow.out.lt (by simpa using HNE.out))
      have G5 : Hid (w.grownBy w5 (some g)) := grown_trans (b := wr.drew) ⟨HG.out.os, HG.out.tape, HG.out.output, HG.out.size, HG.out.block⟩ g5
      clear k5 g5 HK HRow HG HP HPL HPB HKD HTD HRL HRW HN1
      by_cases hc : R = 64
      · subst hc
        go_wp2
        go_roundw
        case rel => exact ⟨q + 1, _, 0, by have := HR.out; omega, rfl, (fun e => by omega), K5.out, R5.out, G5.out⟩
        case measure => simp [lenOf]
      · go_wp2
        go_roundw
        case rel => exact ⟨q + 1, _, R - 64, by have := HR.out; omega, rfl, (fun _ => by omega), K5.out, R5.out, G5.out⟩
        case measure => simp [lenOf]; omega
    · have hq : L / 64 = q := by have := HR.out; omega
      have HQ : Hid ((held ++ b).length / 64 = q) := by show _ = _; rw [HXX.out, HL.out]; exact hq
      have c9 := sum_at9 HK.out (run_length h x q HH.out)
      have HRL : Hid ((run h x q).length = 8) := run_length h x q HH.out
      have c8 := sum_at8 HK.out HRL.out
      have f8 := HK.out.frozen 8
      have f9 := HK.out.frozen 9
      have m10 : ∀ l : List Value, l.length = 10 → l.length ≤ maxLen := by intro l e; rw [e]; simp [maxLen]
      have K6 : Hid (Blk (wr.setCell ⟨g, 8, none⟩ (.slice (some ⟨ga, off, none⟩) R R)) g 80 (sumCells (run h x q) (some ⟨ga, off, none⟩) R R n)) := by
        have := HK.out.set 8 (.slice (some ⟨ga, off, none⟩) R R) (m10 _ (sum_len _ _ _ _ _ HRL.out))
        rw [sum_held _ _ _ _ _ _ _ _ HRL.out] at this
        exact this
      have K7 : Hid (Blk ((wr.setCell ⟨g, 8, none⟩ (.slice (some ⟨ga, off, none⟩) R R)).setCell ⟨g, 9, none⟩ (.int .i64 (n + nb))) g 80 (sumCells (run h x q) (some ⟨ga, off, none⟩) R R (n + nb))) := by
        have := K6.out.set 9 (.int .i64 (n + nb)) (m10 _ (sum_len _ _ _ _ _ HRL.out))
        rw [sum_n _ _ _ _ _ _ HRL.out] at this
        exact this
      have G7 : Hid (w.grownBy ((wr.setCell ⟨g, 8, none⟩ (.slice (some ⟨ga, off, none⟩) R R)).setCell ⟨g, 9, none⟩ (.int .i64 (n + nb))) (some g)) :=
        grown_store (grown_store HG.out HK.out (m10 _ (sum_len _ _ _ _ _ HRL.out)) 8 _) K6.out (m10 _ (sum_len _ _ _ _ _ HRL.out)) 9 _
      have R7 : Hid (Row ((wr.setCell ⟨g, 8, none⟩ (.slice (some ⟨ga, off, none⟩) R R)).setCell ⟨g, 9, none⟩ (.int .i64 (n + nb))) ga L x) :=
        (HRow.out.keep (Below.heap_setCell _ _ _ _ HNE.out)).keep (Below.heap_setCell _ _ _ _ HNE.out)
      have HD : Hid (x.drop (64 * q) = piece x (64 * q) R) := by
        show _ = _
        unfold piece
        rw [List.take_of_length_le (by rw [List.length_drop, HL.out]; have := HR.out; omega)]
      have X7 : Hid (Rd ((wr.setCell ⟨g, 8, none⟩ (.slice (some ⟨ga, off, none⟩) R R)).setCell ⟨g, 9, none⟩ (.int .i64 (n + nb))) (some ⟨ga, off, none⟩) (x.drop (64 * q))) := by
        show Rd _ _ _
        rw [HD.out]
        by_cases h0 : 0 < R
        · have e := hoff h0
          have := rd_piece R7.out.rd off R (by rw [HL.out, e]; have := HR.out; omega)
          rw [Nat.zero_add] at this
          rw [← e]
          exact this
        · obtain rfl : R = 0 := by omega
          intro i hi
          simp [piece] at hi
      have HDL : Hid (R = (x.drop (64 * q)).length) := by show _ = _; rw [List.length_drop, HL.out]; have := HR.out; omega
      clear HK HRow HG K6 R7 hq m10 hoff
      go_wp2
      go_end0
      exact ⟨some ⟨ga, off, none⟩, R, R, rfl, by rw [HQ.out, HXX.out]; exact K7.out, by rw [HQ.out, HXX.out]; exact HDL.out, by rw [HQ.out, HXX.out]; exact X7.out, (fun e => by cases e), G7.out⟩
end Go.Proofs.YtpenhliaelhnoaaDoor.Adds

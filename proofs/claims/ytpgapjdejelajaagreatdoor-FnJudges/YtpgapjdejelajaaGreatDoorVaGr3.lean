/-
  Blocks of the call's own whose cells are known one by one (arrays, structs), and appending to a row of ints that the call itself made.
  What impl's and spec's Pad answer at every int: the same bytes, in new memory.
  What impl's and spec's Rot and Add32 answer at every two ints: the same number; nothing in memory turns.
  What impl's and spec's Schedule answer at every slice of bytes of at most 4,194,304: the same words, in new memory.
  What spec's l1In, l2Words and l2K and impl's list of eight words answer, at every slice of ints of at most 4,194,304.
  What a call hands back, result by result: a temporary's value, or a struct that lies in a block of its own.
-/
import Derived.Test.YtpgapjdejelajaaGreatDoorVaGr2
import Derived.Test.YtpgapjdejelajaaGreatDoorVaGr1
import Derived.Laws.Rows
import Derived.Laws.Tables
import Derived.Deep.WholeRow
import Derived.Great.BuildSlice
import Derived.Test.YtpgapjdejelajaaGreatDoorProg
import Derived.WalkLawsBesides
import Derived.Deep.QuietTactic
import Derived.BigQuiet
import Derived.Deep.RegionWith
set_option linter.unusedVariables false
set_option maxRecDepth 100000
namespace Go.Proofs.YtpgapjdejelajaaGreatDoor.Blk
open Go.RowKit Mem MemI

def Blk (w : World) (g : Nat) (t : TypeId) (cs : List Value) : Prop := w.heap[g]? = some (.cells cs.toArray t (0, 0))
theorem Blk.keep {w w' : World} {g : Nat} {t : TypeId} {cs : List Value} (h : Blk w g t cs) (e : w'.heap[g]? = w.heap[g]?) : Blk w' g t cs := e.trans h
theorem Blk.lt {w : World} {g : Nat} {t : TypeId} {cs : List Value} (h : Blk w g t cs) : g < w.heap.size := (Array.getElem?_eq_some_iff.1 h).1
theorem Blk.below {w w' : World} {g : Nat} {t : TypeId} {cs : List Value} (h : Blk w g t cs) {B : Nat} (b : Below B w w') (hg : g < B) : Blk w' g t cs := h.keep (b.block g hg)
theorem Blk.later {w w' : World} {g : Nat} {t : TypeId} {cs : List Value} (h : Blk w g t cs) (b : Below w.heap.size w w') : Blk w' g t cs := h.below b h.lt
theorem Blk.drewN {w : World} {g : Nat} {t : TypeId} {cs : List Value} (h : Blk w g t cs) (m : Nat) : Blk (w.drewN m) g t cs := h
theorem Blk.cell {w : World} {g : Nat} {t : TypeId} {cs : List Value} (h : Blk w g t cs) (i : Nat) {v : Value} (hv : cs[i]? = some v) : w.cell? ⟨g, i, none⟩ = some v := by
 rw [cell_of_row w g i cs.toArray t (0, 0) h]; simpa using hv
theorem Blk.frozen {w : World} {g : Nat} {t : TypeId} {cs : List Value} (h : Blk w g t cs) (i : Nat) : w.frozen? ⟨g, i, none⟩ = false := frozen_of_row w g i cs.toArray t h
theorem Blk.owns {w : World} {g : Nat} {t : TypeId} {cs : List Value} (h : Blk w g t cs) (hl : cs.length ≤ maxLen) : w.ownsRow g t 1 (.slice (some ⟨g, 0, none⟩) cs.length cs.length) cs.length cs :=
 ⟨by simp, .inr ⟨g, cs.length, cs.toArray, rfl, Nat.le_refl _, h, Nat.le_refl _, hl, by simp, by simp⟩⟩
theorem Blk.set {w : World} {g : Nat} {t : TypeId} {cs : List Value} (h : Blk w g t cs) (i : Nat) (v : Value) (hl : cs.length ≤ maxLen) : Blk (w.setCell ⟨g, i, none⟩ v) g t (cs.set i v) := by
 obtain ⟨h1, h2⟩ := (h.owns hl).stored i v
 obtain ⟨h0, h⟩ := h1
 rcases h with ⟨h, _⟩ | ⟨g', cap', cur, hv, hb, hg, h1, h2, h3, h4⟩
 ·
  simp at h
 ·
  simp only [Value.slice.injEq, Option.some.injEq, Addr.mk.injEq, and_true, true_and] at hv
  obtain ⟨rfl, rfl⟩ := hv
  have : cur = (cs.set i v).toArray := by
   apply Array.toList_inj.1
   rw [List.take_of_length_le (by rw [Array.length_toList]; omega)] at h4
   simpa using h4
  rw [this] at hg
  exact hg
theorem Blk.new (w : World) (t : TypeId) (cs : List Value) : Blk (w.alloc (.cells cs.toArray t)) w.heap.size t cs := heap_alloc_new w _
theorem Blk.alloc {w : World} {g : Nat} {t : TypeId} {cs : List Value} (h : Blk w g t cs) (o : Obj) : Blk (w.alloc o) g t cs := h.keep (Below.heap_alloc w o g h.lt)
theorem Blk.other {w : World} {g : Nat} {t : TypeId} {cs : List Value} (h : Blk w g t cs) {a : Addr} (ne : g ≠ a.block) (v : Value) : Blk (w.setCell a v) g t cs := h.keep (Below.heap_setCell w a v g ne)
theorem Blk.int {w : World} {g : Nat} {t : TypeId} {l : List Int} {r : List Value} (h : Blk w g t (l.map (Value.int .i64) ++ r)) (i : Nat) (hi : i < l.length) : w.cell? ⟨g, i, none⟩ = some (.int .i64 (l.getD i 0)) :=
 h.cell i (by simp [List.getElem?_append, hi, List.getD])
theorem set_ints (l : List Int) (r : List Value) (i : Nat) (z : Int) (hi : i < l.length) : (l.map (Value.int .i64) ++ r).set i (.int .i64 z) = (l.set i z).map (Value.int .i64) ++ r := by
 rw [List.set_append, if_pos (by simpa using hi), List.map_set]
theorem below_drewN {B : Nat} {a w : World} (h : Below B a w) (m : Nat) : Below B a (w.drewN m) := ⟨h.os, h.tape, h.output, h.size, h.block⟩
theorem Rd.drewN {w : World} {a : Option Addr} {l : List Int} (h : Rd w a l) (m : Nat) : Rd (w.drewN m) a l := h.later (below_drewN (Below.refl w.heap.size w) m) (Nat.le_refl _)
theorem IRd.cells {w : World} {ad : Addr} {y : List Int} (h : IRd w (some ad) y) : ∀ j u, (y.map (Value.int .i64))[j]? = some u → w.cell? (ad.add j) = some u := by
 intro j u hu
 have hj : j < y.length := by
  have := (List.getElem?_eq_some_iff.1 hu).1
  simpa using this
 obtain ⟨b, off, e, _, hc⟩ := h j hj
 obtain rfl := Option.some.inj e
 rw [Addr.add_lit, hc]
 simpa [List.getD, hj] using hu

theorem iwpList_app (w : World) {ops : Array Oper} {rest : List Oper} {o : Oper} {a : Act} {Q : Exit → Act → World → Prop} (hgd : o.guard = none) (s x : Operand)
  (ho : o.op = .call { callee := .builtin .append, args := #[s, x], argTypes := #[63, 63] })
  (base g n cap : Nat) (l y : List Int) (hs : a.eval s = .slice (some ⟨g, 0, none⟩) n cap) (hn : n = l.length) (hrow : IRow w g cap l) (hbg : base ≤ g)
  (ao : Option Addr) (m c : Nat) (hx : a.eval x = .slice ao m c) (hm : m = y.length) (hrd : IRd w ao y) (hnone : ao = none → c = 0) (hsum : l.length + y.length ≤ 100000000)
  (h : ∀ g' cap' w', IRow w' g' cap' (l ++ y) → base ≤ g' → g' < w'.heap.size → w.grownBy w' (some g) → wpList Tryz.prog ops Q rest (a.put o.dst (.slice (some ⟨g', 0, none⟩) (n + m) cap')) w') :
  wpList Tryz.prog ops Q (o :: rest) a w := by
 obtain ⟨i0, hi, hz0, hz1, hz2⟩ := info_parts info64
 subst hn hm
 have hlt := hrow.lt
 cases ao with
 | none =>
  have hy : y = [] := by
   cases y with
   | nil => rfl
   | cons z r => obtain ⟨_, _, e, _⟩ := hrd 0 (by simp); cases e
  subst hy
  have hc0 := hnone rfl
  subst hc0
  refine wpList_append_own_none hgd s x 63 ho base 3 i0 1 Tryz.underlying63 hi _ _ _ hs (hrow.owns hbg) hx ?_
  simpa using h g cap w (by simpa using hrow) hbg hlt (World.grownBy.refl _ _)
 | some ad =>
  refine wpList_append_own w hgd s x 63 ho base 3 i0 (.int .i64 0) 1 8 Tryz.underlying63 hi hz0 hz1 hz2 rfl (by decide) _ _ _ hs (hrow.owns hbg) ad y.length c (y.map (Value.int .i64)) hx (by simp) (IRd.cells hrd) (ints_oneCell _ _) (by unfold maxLen; omega) (by omega) (by omega) ?_
  intro v' w' hown hgr hiff
  rcases hown.2 with ⟨hv, _⟩ | ⟨g', cap', cur, rfl, hb, hg', _⟩
  ·
   exact absurd (hiff.1 hv).1 (by simp)
  ·
   rw [← List.map_append] at hown
   obtain ⟨r1, r2, _, r4⟩ := IRow.of hown
   exact h g' cap' w' r1 r2 r4 hgr

theorem ird_one (w : World) (z : Int) : IRd (w.alloc (.cells #[.int .i64 z] 3)) (some ⟨w.heap.size, 0, none⟩) [z] := by
 intro i hi
 have : i = 0 := by simpa using hi
 subst this
 exact ⟨_, _, rfl, by simp, by simp [World.cell?_alloc_at]⟩
theorem irow_new (w : World) (z : List Int) (hz : z.length ≤ maxLen) : IRow (w.alloc (.cells (z.map (Value.int .i64)).toArray 3)) w.heap.size z.length z :=
 ⟨Nat.le_refl _, hz, _, heap_alloc_new w _, by simp, by simp [← List.map_take]⟩
theorem irow_alloc {w : World} {g cap : Nat} {l : List Int} (h : IRow w g cap l) (o : Obj) : IRow (w.alloc o) g cap l := h.keep (Below.heap_alloc w o g h.lt)
theorem cells5 {w : World} {g : Nat} {t : TypeId} {v0 v1 v2 v3 v4 : Value} (h : Blk w g t [v0, v1, v2, v3, v4]) : w.cell? ⟨g, 0, none⟩ = some v0 ∧ w.cell? ⟨g, 1, none⟩ = some v1 ∧ w.cell? ⟨g, 2, none⟩ = some v2 ∧ w.cell? ⟨g, 3, none⟩ = some v3 ∧ w.cell? ⟨g, 4, none⟩ = some v4 := ⟨h.cell 0 rfl, h.cell 1 rfl, h.cell 2 rfl, h.cell 3 rfl, h.cell 4 rfl⟩
theorem froz5 {w : World} {g : Nat} {t : TypeId} {v0 v1 v2 v3 v4 : Value} (h : Blk w g t [v0, v1, v2, v3, v4]) : w.frozen? ⟨g, 0, none⟩ = false ∧ w.frozen? ⟨g, 1, none⟩ = false ∧ w.frozen? ⟨g, 2, none⟩ = false ∧ w.frozen? ⟨g, 3, none⟩ = false ∧ w.frozen? ⟨g, 4, none⟩ = false := ⟨h.frozen 0, h.frozen 1, h.frozen 2, h.frozen 3, h.frozen 4⟩
theorem cells11 {w : World} {g : Nat} {t : TypeId} {v0 v1 v2 v3 v4 v5 v6 v7 v8 v9 v10 : Value} (h : Blk w g t [v0, v1, v2, v3, v4, v5, v6, v7, v8, v9, v10]) : w.cell? ⟨g, 0, none⟩ = some v0 ∧ w.cell? ⟨g, 1, none⟩ = some v1 ∧ w.cell? ⟨g, 2, none⟩ = some v2 ∧ w.cell? ⟨g, 3, none⟩ = some v3 ∧ w.cell? ⟨g, 4, none⟩ = some v4 ∧ w.cell? ⟨g, 5, none⟩ = some v5 ∧ w.cell? ⟨g, 6, none⟩ = some v6 ∧ w.cell? ⟨g, 7, none⟩ = some v7 ∧ w.cell? ⟨g, 8, none⟩ = some v8 ∧ w.cell? ⟨g, 9, none⟩ = some v9 ∧ w.cell? ⟨g, 10, none⟩ = some v10 := ⟨h.cell 0 rfl, h.cell 1 rfl, h.cell 2 rfl, h.cell 3 rfl, h.cell 4 rfl, h.cell 5 rfl, h.cell 6 rfl, h.cell 7 rfl, h.cell 8 rfl, h.cell 9 rfl, h.cell 10 rfl⟩
theorem froz11 {w : World} {g : Nat} {t : TypeId} {v0 v1 v2 v3 v4 v5 v6 v7 v8 v9 v10 : Value} (h : Blk w g t [v0, v1, v2, v3, v4, v5, v6, v7, v8, v9, v10]) : w.frozen? ⟨g, 0, none⟩ = false ∧ w.frozen? ⟨g, 1, none⟩ = false ∧ w.frozen? ⟨g, 2, none⟩ = false ∧ w.frozen? ⟨g, 3, none⟩ = false ∧ w.frozen? ⟨g, 4, none⟩ = false ∧ w.frozen? ⟨g, 5, none⟩ = false ∧ w.frozen? ⟨g, 6, none⟩ = false ∧ w.frozen? ⟨g, 7, none⟩ = false ∧ w.frozen? ⟨g, 8, none⟩ = false ∧ w.frozen? ⟨g, 9, none⟩ = false ∧ w.frozen? ⟨g, 10, none⟩ = false := ⟨h.frozen 0, h.frozen 1, h.frozen 2, h.frozen 3, h.frozen 4, h.frozen 5, h.frozen 6, h.frozen 7, h.frozen 8, h.frozen 9, h.frozen 10⟩
end Go.Proofs.YtpgapjdejelajaaGreatDoor.Blk

namespace Go.Proofs.YtpgapjdejelajaaGreatDoor.Pads
open Go.RowKit Mem App Get ShaP

def isLen (n : Int) : Bool := decide (0 ≤ n ∧ n ≤ 1048576)
theorem isLen_yes {n : Int} (h : 0 ≤ n ∧ n ≤ 1048576) : isLen n = true := by simpa [isLen] using h
theorem isLen_no {n : Int} (h : ¬ (0 ≤ n ∧ n ≤ 1048576)) : isLen n = false := by unfold isLen; exact decide_eq_false h

theorem isShaLength (n : Int) (w : World) :
  Calls Tryz.prog 100 #[.int .i64 n] w fun e w' => e = .returned (.bool (isLen n)) ∧ w = w' := by
 by_cases h1 : 0 ≤ n
 ·
  by_cases h2 : n ≤ 1048576
  ·
   have H : Hid (isLen n = true) := isLen_yes ⟨h1, h2⟩
   go_enter Tryz.func100, Tryz.ntmps100
   go_wp2
   go_ret
   exact ⟨by rw [H.out]; simp, rfl⟩
  ·
   have H : Hid (isLen n = false) := isLen_no (by omega)
   go_enter Tryz.func100, Tryz.ntmps100
   go_wp2
   go_ret
   exact ⟨by rw [H.out]; simp, rfl⟩
 ·
  have H : Hid (isLen n = false) := isLen_no (by omega)
  go_enter Tryz.func100, Tryz.ntmps100
  go_wp2
  go_ret
  exact ⟨by rw [H.out]; simp, rfl⟩

def padI (n : Int) : List Int := if 0 ≤ n ∧ n ≤ 1048576 then padOf n.toNat else []
theorem padI_length (n : Int) : (padI n).length ≤ 72 := by
 unfold padI; split
 ·
  rw [padOf_length]; omega
 ·
  simp

set_option maxHeartbeats 800000 in
theorem implPad (n : Int) (w : World) :
  Calls Tryz.prog 114 #[.int .i64 n] w fun e w' =>
   ∃ g m cap, e = .returned (.slice (some ⟨g, 0, none⟩) m cap) ∧ m = (padI n).length ∧ w.heap.size ≤ g ∧ Row w' g cap (padI n) ∧ Below w.heap.size w w' := by
 by_cases hn : 0 ≤ n ∧ n ≤ 1048576
 ·
  have hl := isLen_yes hn
  obtain ⟨h0, h1⟩ := hn
  obtain ⟨N, rfl⟩ := Int.eq_ofNat_of_zero_le h0
  have HP : Hid (padI (N : Int) = padOf N) := by show padI _ = _; unfold padI; rw [if_pos ⟨h0, h1⟩, Int.toNat_natCast]
  obtain ⟨z, hz⟩ : ∃ z : Nat, (64 - (N + 9) % 64) % 64 = z := ⟨_, rfl⟩
  have HZ : Hid ((64 - (N + 9) % 64) % 64 = z) := hz
  have E1 : Hid (((64 : Int) - ((N : Int) + 1 + 8) % 64) % 64 = (z : Int)) := by show _ = _; omega
  have hz64 : z < 64 := by omega
  obtain ⟨i0, hi, hz0, hz1, hz2⟩ := info_parts info8
  clear hz
  have H1 : Hid (Below w.heap.size w (w.alloc (.cells #[.int .u8 128] 5))) := (Below.refl _ _).alloc (Nat.le_refl _) _
  go_enter Tryz.func114, Tryz.ntmps114
  go_wp2_with fail
  refine (isShaLength _ _).mono ?_
  rintro e w1 ⟨rfl, rfl⟩
  go_wp2_with (at_make; refine wpList_make_full _ rfl _ _ 22 rfl w.heap.size 5 i0 (.int .u8 0) 1 Tryz.underlying22 hi hz0 hz1 _ _ _ _ z rfl rfl (by first | rfl | exact E1.out) (by first | rfl | exact E1.out) (by rw [hz2]; omega) (by unfold maxLen; omega) (by simp) ?_; intro w1 hown hgr; have HB : Hid (Below w.heap.size w w1) := H1.out.grown hgr (by simp) (fun k h => by cases h); have HR : Hid (Row w1 w.heap.size 1 [128]) := (row_new w [128] (by simp [maxLen])).keep (hgr.block _ (by simp) (by simp)); have HO : Hid (Row w1 (w.heap.size + 1) z (List.replicate z 0)) := (Row.of (l := List.replicate z 0) (base := w.heap.size) (by simpa [Value.cells, toList_madeCells_one] using hown)).1; clear hown hgr)
  have HL : Hid ((List.replicate z (0 : Int)).length = z) := List.length_replicate
  refine (putBytes _ _ 1 1 z z [128] (List.replicate z 0) w1 rfl HL.out.symm HR.out.rd HO.out.rd (by intro h; cases h) (by intro h; cases h) (by simp) (by rw [HL.out]; omega)).mono ?_
  rintro e w2 ⟨rfl, r2, b2⟩
  have HB2 := hid (HB.out.trans (b2.mono HB.out.size))
  have HR2 := hid (r2)
  have HS := hid (HB.out.size)
  clear r2 b2
  go_wp2_with fail
  refine (highestFirst _ 8 w2 (by omega) (by omega)).mono ?_
  rintro e w3 ⟨rfl, r3, b3⟩
  have HR3 := hid (r3)
  have HB3 := hid (b3)
  clear r3 b3
  have HN : Hid ((num ((N : Int) * 8) 8).length = 8) := num_length _ 8
  have HM : Hid (([128] ++ List.replicate z (0 : Int)).length = 1 + z) := by show _ = _; simp; omega
  go_wp2_with fail
  refine (putBytes _ _ (1 + z) (1 + z) 8 8 ([128] ++ List.replicate z 0) (num ((N : Int) * 8) 8) w3 HM.out.symm HN.out.symm (HR2.out.later HB3.out).rd HR3.out.rd (by intro h; cases h) (by intro h; cases h) (by rw [HM.out]; omega) (by rw [HN.out]; omega)).mono ?_
  rintro e w4 ⟨rfl, r4, b4⟩
  have HB4 := hid (HB2.out.trans ((HB3.out.mono HB2.out.size).trans (b4.mono (Nat.le_trans HB2.out.size HB3.out.size))))
  have HF : Hid (padI (N : Int) = [128] ++ List.replicate z 0 ++ num ((N : Int) * 8) 8) := by
   show _ = _
   rw [HP.out]; unfold padOf; rw [HZ.out, Int.mul_comm]; simp
  have HS3 : Hid (w.heap.size ≤ w3.heap.size) := Nat.le_trans HB2.out.size HB3.out.size
  have HR4 := hid (r4)
  clear r4 b4
  go_wp2
  go_ret
  exact ⟨w3.heap.size, _, _, rfl, by rw [HF.out, List.length_append, HM.out, HN.out], HS3.out, by rw [HF.out]; exact HR4.out, HB4.out⟩
 ·
  have hl := isLen_no hn
  have HP : Hid (padI n = []) := by show padI _ = _; unfold padI; rw [if_neg hn]
  clear hn
  go_enter Tryz.func114, Tryz.ntmps114
  go_wp2_with fail
  refine (isShaLength _ _).mono ?_
  rintro e w1 ⟨rfl, rfl⟩
  go_wp2
  go_ret
  exact ⟨w.heap.size, 0, 0, by simp, by rw [HP.out]; rfl, Nat.le_refl _, by rw [HP.out]; exact row_new w [] (by simp), (Below.refl _ _).alloc (Nat.le_refl _) _⟩

def lenOf : Value → Nat
 | .slice _ n _ => n
 | _ => 0

set_option maxHeartbeats 800000 in
theorem specPad (n : Int) (w : World) :
  Calls Tryz.prog 105 #[.int .i64 n] w fun e w' =>
   ∃ g m cap, e = .returned (.slice (some ⟨g, 0, none⟩) m cap) ∧ m = (padI n).length ∧ w.heap.size ≤ g ∧ Row w' g cap (padI n) ∧ Below w.heap.size w w' := by
 by_cases hn : 0 ≤ n ∧ n ≤ 1048576
 ·
  obtain ⟨h0, h1⟩ := hn
  obtain ⟨N, rfl⟩ := Int.eq_ofNat_of_zero_le h0
  have HP : Hid (padI (N : Int) = padOf N) := by show padI _ = _; unfold padI; rw [if_pos ⟨h0, h1⟩, Int.toNat_natCast]
  obtain ⟨z, hz⟩ : ∃ z : Nat, (64 - (N + 9) % 64) % 64 = z := ⟨_, rfl⟩
  have HZ : Hid ((64 - (N + 9) % 64) % 64 = z) := hz
  have hz64 : z < 64 := by omega
  clear hz
  have H1 : Hid (Below w.heap.size w (w.alloc (.cells #[.int .u8 128] 5))) := (Below.refl _ _).alloc (Nat.le_refl _) _
  have HR1 : Hid (Row (w.alloc (.cells #[.int .u8 128] 5)) w.heap.size 1 [128]) := row_new w [128] (by simp [maxLen])
  go_enter Tryz.func105, Tryz.ntmps105
  go_wp2
  go_loopw [3] (fun v wr => ∃ (j g c : Nat), j ≤ z ∧ v = .slice (some ⟨g, 0, none⟩) (1 + j) c ∧ w.heap.size ≤ g ∧ Row wr g c ([128] ++ List.replicate j 0) ∧ Below w.heap.size w wr)
   (fun v _ => z + 1 - lenOf v)
  case atStart => exact ⟨0, w.heap.size, 1, Nat.zero_le _, rfl, Nat.le_refl _, HR1.out, H1.out⟩
  case round =>
   obtain ⟨j, g, c, hj, rfl, hg, hrow, hb⟩ := hrel
   clear H1 HR1
   have HRow := hid (hrow)
   have HB := hid (hb)
   have HL : Hid (([128] ++ List.replicate j (0 : Int)).length = 1 + j) := by show _ = _; simp; omega
   clear hrow hb
   by_cases hlt : j < z
   ·
    have ht : 1 ≤ ((N : Int) + ((1 + j : Nat) : Int) + 8) % 64 := by have := HZ.out; omega
    go_wp2_with (at_builtin; refine wpList_app _ rfl (.tmp 19) (.tmp 20) rfl w.heap.size g (1 + j) c ([128] ++ List.replicate j 0) [0] rfl HL.out.symm (row_alloc HRow.out _) hg (some ⟨wr.heap.size, 0, none⟩) 1 1 rfl rfl (rd_one _ _) (by intro h; cases h) (by rw [HL.out]; simp; omega) ?_; intro g2 c2 w2 r2 b2 l2 gr2; have R2 := hid (r2); have B2 : Hid (Below w.heap.size w w2) := (HB.out.alloc HB.out.size _).grown gr2 (Nat.le_trans HB.out.size (by simp)) (fun k h => by cases h; exact hg); clear r2 gr2 l2)
    go_roundw
    case rel => exact ⟨j + 1, g2, c2, by omega, by simp [Nat.add_assoc], b2, by rw [List.replicate_succ', ← List.append_assoc]; exact R2.out, B2.out⟩
    case measure => simp [lenOf]; omega
   ·
    obtain rfl : j = z := by omega
    have ht : ((N : Int) + ((1 + j : Nat) : Int) + 8) % 64 = 0 := by have := HZ.out; omega
    go_wp2_with fail
    refine (specPutN _ (1 + j) c _ 0 4 wr HL.out.symm HRow.out.rd (by intro h; cases h) (by rw [HL.out]; omega)).mono ?_
    rintro e w2 ⟨g2, m2, c2, rfl, e2, k2, r2, b2⟩
    have HR2 := hid (r2)
    have HB2 := hid (HB.out.trans (b2.mono HB.out.size))
    have HE2 : Hid (m2 = ([128] ++ List.replicate j 0 ++ putN 0 4).length) := e2
    have HL2 : Hid (([128] ++ List.replicate j 0 ++ putN 0 4).length = 5 + j) := by show _ = _; rw [List.length_append, HL.out]; simp [putN, num_length]; omega
    clear r2 b2 e2 k2
    go_wp2_with fail
    refine (specPutN _ m2 c2 _ _ 4 w2 HE2.out HR2.out.rd (by intro h; cases h) (by rw [HL2.out]; omega)).mono ?_
    rintro e w3 ⟨g3, m3, c3, rfl, e3, k3, r3, b3⟩
    have HF : Hid (padI (N : Int) = [128] ++ List.replicate j 0 ++ putN 0 4 ++ putN (8 * (N : Int)) 4) := by
     show _ = _
     rw [HP.out]; unfold padOf; rw [HZ.out, pad_nums N (by omega)]; simp [putN]
    have HR3 := hid (r3)
    have HE3 : Hid (m3 = ([128] ++ List.replicate j 0 ++ putN 0 4 ++ putN (8 * (N : Int)) 4).length) := e3
    have HK3 : Hid (w.heap.size ≤ g3) := Nat.le_trans HB2.out.size k3
    have HB3 := hid (HB2.out.trans (b3.mono HB2.out.size))
    clear r3 b3 e3 k3
    go_wp2
    go_ret
    exact ⟨g3, m3, c3, rfl, by rw [HF.out]; exact HE3.out, HK3.out, by rw [HF.out]; exact HR3.out, HB3.out⟩
 ·
  have HP : Hid (padI n = []) := by show padI _ = _; unfold padI; rw [if_neg hn]
  rcases (show n < 0 ∨ (0 ≤ n ∧ 1048576 < n) by omega) with hk | ⟨hk0, hk⟩
  all_goals
   go_enter Tryz.func105, Tryz.ntmps105
   go_wp2
   go_ret
   exact ⟨w.heap.size, 0, 0, by simp, by rw [HP.out]; rfl, Nat.le_refl _, by rw [HP.out]; exact row_new w [] (by simp), (Below.refl _ _).alloc (Nat.le_refl _) _⟩
end Go.Proofs.YtpgapjdejelajaaGreatDoor.Pads

namespace Go.Proofs.YtpgapjdejelajaaGreatDoor.Word
open Go.RowKit Bits

theorem rot_none (x : Int) : wrap64 (bits BinOp.or IntKind.u32 (x % 4294967296) 0) = rot x 0 := by
 obtain ⟨X, hX⟩ := Int.eq_ofNat_of_zero_le (show 0 ≤ x % 4294967296 by omega)
 have h : bits BinOp.or IntKind.u32 (X : Int) ((0 : Nat) : Int) = ((X ||| 0 : Nat) : Int) := or_u32 X 0 (by omega) (by omega)
 unfold rot
 rw [if_neg (by omega), hX, show (0 : Int) = ((0 : Nat) : Int) from rfl, h, Nat.or_zero, IntWalk.wrap64_in _ (by omega)]

theorem implRot (x n : Int) (w : World) :
  Calls Tryz.prog 120 #[.int .i64 x, .int .i64 n] w fun e w' => e = .returned (.int .i64 (rot x n)) ∧ ∃ m, w' = w.drewN m := by
 by_cases h1 : n < 0
 ·
  have hr : rot x n = x % 4294967296 := by unfold rot; rw [if_neg (by omega)]
  have H : Hid (rot x n = x % 4294967296) := hr
  clear hr
  go_enter Tryz.func120, Tryz.ntmps120
  go_wp2
  go_ret
  exact ⟨by rw [H.out]; rfl, 0, rfl⟩
 ·
  by_cases h2 : 32 ≤ n
  ·
   have hr : rot x n = x % 4294967296 := by unfold rot; rw [if_neg (by omega)]
   have H : Hid (rot x n = x % 4294967296) := hr
   clear hr
   go_enter Tryz.func120, Tryz.ntmps120
   go_wp2
   go_ret
   exact ⟨by rw [H.out]; rfl, 0, rfl⟩
  ·
   by_cases h3 : n = 0
   ·
    subst h3
    go_enter Tryz.func120, Tryz.ntmps120
    go_wp2
    go_quiet (fail)
    go_wp2
    go_ret
    exact ⟨congrArg (fun z => Ending.returned (.int .i64 z)) (rot_none x), _, rfl⟩
   ·
    have a1 : 1 ≤ n := by omega
    have a2 : n ≤ 31 := by omega
    clear h1 h2 h3
    go_enter Tryz.func120, Tryz.ntmps120
    go_wp2
    go_quiet (fail)
    go_wp2
    go_ret
    exact ⟨congrArg (fun z => Ending.returned (.int .i64 z)) (rot_word x n a1 a2), _, rfl⟩

theorem specRot (x n : Int) (w : World) :
  Calls Tryz.prog 118 #[.int .i64 x, .int .i64 n] w fun e w' => e = .returned (.int .i64 (rot x n)) ∧ ∃ m, w' = w.drewN m := by
 have hm := mask32 x
 by_cases h : 1 ≤ n ∧ n ≤ 31
 ·
  obtain ⟨a1, a2⟩ := h
  go_enter Tryz.func118, Tryz.ntmps118
  go_wp2
  go_quiet (fail)
  go_wp2
  go_ret
  exact ⟨congrArg (fun z => Ending.returned (.int .i64 z)) (rot_wide x n a1 a2), _, rfl⟩
 ·
  have hr : rot x n = x % 4294967296 := by unfold rot; rw [if_neg h]
  have H : Hid (rot x n = x % 4294967296) := hr
  clear hr
  rcases (show n < 1 ∨ 31 < n by omega) with h' | h'
  all_goals
   go_enter Tryz.func118, Tryz.ntmps118
   go_wp2
   go_ret
   exact ⟨by rw [H.out]; rfl, 0, rfl⟩

theorem implAdd (a b : Int) (w : World) :
  Calls Tryz.prog 121 #[.int .i64 a, .int .i64 b] w fun e w' => e = .returned (.int .i64 ((a + b) % 4294967296)) ∧ w' = w := by
 go_enter Tryz.func121, Tryz.ntmps121
 go_wp2
 go_ret
 exact ⟨rfl, rfl⟩

end Go.Proofs.YtpgapjdejelajaaGreatDoor.Word

namespace Go.Proofs.YtpgapjdejelajaaGreatDoor.Sched
open Go.RowKit Mem MemI Blk App Get ShaP Word Bits

abbrev z64 : List Int := List.replicate 64 0
theorem info65 : (Tryz.prog.info? 137).map (fun i => (i.zero, i.size)) = some (some (.agg ((z64.map (Value.int .i64)).toArray)), 64) := by kernel_rfl

def filled (l : List Int) : List Int := l ++ List.replicate (64 - l.length) 0
theorem filled_set (l : List Int) (z : Int) (h : l.length < 64) : (filled l).set l.length z = filled (l ++ [z]) := by
 unfold filled
 rw [List.set_append, if_neg (by omega), Nat.sub_self, List.length_append, show 64 - l.length = (64 - (l.length + [z].length)) + 1 by simp; omega, List.replicate_succ]
 simp
theorem filled_length (l : List Int) (h : l.length ≤ 64) : (filled l).length = 64 := by simp [filled]; omega
theorem filled_getD (l : List Int) (i : Nat) (h : i < l.length) : (filled l).getD i 0 = l.getD i 0 := by simp [filled, List.getD, List.getElem?_append, h]

theorem blk_setRow {w : World} {g : Nat} {t : TypeId} {cs : List Value} (h : Blk w g t cs) (c' : Array Value) {l : List Value} (e : c' = l.toArray) : Blk (w.setRow g c') g t l := by
 subst e
 unfold Blk at *
 show (w.heap.modify g _)[g]? = _
 rw [Array.getElem?_modify, if_pos rfl, h]; rfl
theorem below_setRow (w : World) {B g : Nat} (h : B ≤ g) (c' : Array Value) : Below B w (w.setRow g c') := by
 refine ⟨rfl, rfl, rfl, ?_, fun k hk => ?_⟩
 ·
  show w.heap.size ≤ (w.heap.modify g _).size
  rw [Array.size_modify]; exact Nat.le_refl _
 ·
  show (w.heap.modify g _)[k]? = _
  rw [Array.getElem?_modify, if_neg (by omega)]

theorem implRotD (x n : Int) (w : World) (q : Nat) :
  Calls Tryz.prog 120 #[.int .i64 x, .int .i64 n] (w.drewN q) fun e w' => e = .returned (.int .i64 (rot x n)) ∧ ∃ m, w' = w.drewN m :=
 (implRot x n _).mono fun _ _ h => ⟨h.1, h.2.elim fun _ e => ⟨_, e.trans (World.drewN_drewN _ _ _)⟩⟩
theorem specRotD (x n : Int) (w : World) (q : Nat) :
  Calls Tryz.prog 118 #[.int .i64 x, .int .i64 n] (w.drewN q) fun e w' => e = .returned (.int .i64 (rot x n)) ∧ ∃ m, w' = w.drewN m :=
 (specRot x n _).mono fun _ _ h => ⟨h.1, h.2.elim fun _ e => ⟨_, e.trans (World.drewN_drewN _ _ _)⟩⟩

set_option maxHeartbeats 1000000 in
theorem implSchedule64 (a : Option Addr) (cap : Nat) (b : List Int) (w : World) (hl : b.length = 64) (hr : Rd w a b) (hb : Bytes b) (hc : 64 ≤ cap) :
  Calls Tryz.prog 119 #[.slice a 64 cap] w fun e w' => e = .returned (.agg ((sched b).map (Value.int .i64)).toArray) ∧ Below w.heap.size w w' := by
 have HR := hid (hr)
 have HB := hid (hb)
 have HL : Hid (b.length = 64) := hl
 clear hr hb hl
 obtain ⟨zv, zs⟩ := zero_of_info info65
 go_enter Tryz.func119, Tryz.ntmps119
 have HZ1 : Hid (Blk (w.alloc (.cells (z64.map (Value.int .i64)).toArray 137)) w.heap.size 137 (z64.map (Value.int .i64))) := Blk.new _ _ _
 have HA1 : Hid (Below w.heap.size w (w.alloc (.cells (z64.map (Value.int .i64)).toArray 137))) := (Below.refl _ _).alloc (Nat.le_refl _) _
 go_wp2
 go_loopw [8] (fun i wr => ∃ k : Nat, k ≤ 16 ∧ i = .int .i64 k ∧ Blk wr (w.heap.size + 1) 137 ((filled (first b k)).map (Value.int .i64)) ∧ Blk wr w.heap.size 137 (z64.map (Value.int .i64)) ∧ Below w.heap.size w wr)
  (fun i _ => 16 - (intOf i).toNat)
 case atStart =>
  refine ⟨0, Nat.zero_le _, rfl, ?_, ?_, ?_⟩
  ·
   have := Blk.new (w.alloc (.cells (z64.map (Value.int .i64)).toArray 137)) 137 (z64.map (Value.int .i64))
   rw [show (w.alloc (.cells (z64.map (Value.int .i64)).toArray 137)).heap.size = w.heap.size + 1 by simp] at this
   exact this
  ·
   exact HZ1.out.alloc _
  ·
   exact HA1.out.alloc (by simp) _
 case round =>
  obtain ⟨k, hk, rfl, hB1, hB0, hbe⟩ := hrel
  clear HZ1 HA1
  by_cases hlt : k < 16
  ·
   have hG : gotN b ((k : Int) * 4) 4 = .tuple #[.int .i64 (val (piece b (4 * k) 4)), .int .i64 ((k : Int) * 4 + 4), .bool true] := by
    unfold gotN
    rw [if_pos ⟨(isSize_iff 4).2 (by omega), there_yes (by rw [HL.out]; omega)⟩]
    rw [show ((k : Int) * 4).toNat = 4 * k by omega]; rfl
   have hfr := hB1.frozen k
   have hca := hB1.cell k (v := .int .i64 ((filled (first b k)).getD k 0)) (by have := filled_length (first b k) (by rw [first_length]; omega); simp [List.getD, this, show k < 64 by omega])
   have N1 : Hid (Blk (wr.setCell ⟨w.heap.size + 1, k, none⟩ (.int .i64 (val (piece b (4 * k) 4)))) (w.heap.size + 1) 137 ((filled (first b (k + 1))).map (Value.int .i64))) := by
    have := hB1.set k (.int .i64 (val (piece b (4 * k) 4))) (by rw [List.length_map, filled_length _ (by rw [first_length]; omega)]; simp [maxLen])
    rw [← List.map_set] at this
    have e := filled_set (first b k) (val (piece b (4 * k) 4)) (by rw [first_length]; omega)
    rw [first_length, ← first_succ] at e
    rw [e] at this
    exact this
   have N0 : Hid (Blk (wr.setCell ⟨w.heap.size + 1, k, none⟩ (.int .i64 (val (piece b (4 * k) 4)))) w.heap.size 137 (z64.map (Value.int .i64))) := hB0.other (by simp) _
   have NB : Hid (Below w.heap.size w (wr.setCell ⟨w.heap.size + 1, k, none⟩ (.int .i64 (val (piece b (4 * k) 4))))) := hbe.setCell (by simp) _
   have HR' : Hid (Rd wr a b) := HR.out.later hbe (Nat.le_refl _)
   clear hB1 hB0 hbe
   generalize (filled (first b k)).getD k 0 = v0 at *
   generalize val (piece b (4 * k) 4) = v1 at *
   go_wp2_with fail
   refine (implGetN a 64 cap b ((k : Int) * 4) 4 wr HL.out.symm HR'.out HB.out hc (by omega) (by omega)).mono ?_
   rintro e w1 ⟨rfl, rfl⟩
   go_wp2
   go_roundw
   case rel => exact ⟨k + 1, by omega, by go_num, N1.out, N0.out, NB.out⟩
   case measure => simp [intOf]; omega
  ·
   obtain rfl : k = 16 := by omega
   have HB1 := hid (hB1)
   have HB0 := hid (hB0)
   have HBE := hid (hbe)
   clear hB1 hB0 hbe
   go_wp2
   go_loopw [5] (fun i wr => ∃ n : Nat, n ≤ 48 ∧ i = .int .i64 ((n : Int) + 16) ∧ Blk wr (w.heap.size + 1) 137 ((filled (more (first b 16) n)).map (Value.int .i64)) ∧ Blk wr w.heap.size 137 (z64.map (Value.int .i64)) ∧ Below w.heap.size w wr)
    (fun i _ => 64 - (intOf i).toNat)
   case atStart => exact ⟨0, Nat.zero_le _, rfl, HB1.out, HB0.out, HBE.out⟩
   case round =>
    obtain ⟨n, hn, rfl, hB1, hB0, hbe⟩ := hrel
    clear HB1 HB0 HBE
    by_cases hlt : n < 48
    ·
     have hlen : (more (first b 16) n).length = n + 16 := by rw [more_length, first_length]; omega
     have hfl := filled_length (more (first b 16) n) (by omega)
     have hcl : ∀ i, i < n + 16 → wr.cell? ⟨w.heap.size + 1, i, none⟩ = some (.int .i64 ((more (first b 16) n).getD i 0)) := by
      intro i hi
      rw [← filled_getD _ i (by omega)]
      exact hB1.cell i (by simp [List.getD, hfl, show i < 64 by omega])
     have c1 := hcl (n + 1) (by omega)
     have c2 := hcl (n + 14) (by omega)
     have c3 := hcl (n + 9) (by omega)
     have c4 := hcl n (by omega)
     have hws : Wds (more (first b 16) n) := more_wds _ _ (first_wds b 16 HB.out)
     have w1 := hws.at (n + 1)
     have w2 := hws.at (n + 14)
     have w3 := hws.at (n + 9)
     have w4 := hws.at n
     obtain ⟨z, hz⟩ : ∃ z, nextW (more (first b 16) n) (16 + n) = z := ⟨_, rfl⟩
     have HN : Hid (((more (first b 16) n).getD (n + 9) 0 + (more (first b 16) n).getD n 0 + s0 ((more (first b 16) n).getD (n + 1) 0) + s1 ((more (first b 16) n).getD (n + 14) 0)) % 4294967296 = z) := by
      show _ = _
      rw [← hz]; unfold nextW
      rw [show 16 + n - 7 = n + 9 by omega, show 16 + n - 16 = n by omega, show 16 + n - 15 = n + 1 by omega, show 16 + n - 2 = n + 14 by omega]
     have hfr := hB1.frozen (n + 16)
     have hca := hB1.cell (n + 16) (v := .int .i64 ((filled (more (first b 16) n)).getD (n + 16) 0)) (by simp [List.getD, hfl, show n + 16 < 64 by omega])
     have N1 : Hid (Blk (wr.setCell ⟨w.heap.size + 1, n + 16, none⟩ (.int .i64 z)) (w.heap.size + 1) 137 ((filled (more (first b 16) (n + 1))).map (Value.int .i64))) := by
      have := hB1.set (n + 16) (.int .i64 z) (by rw [List.length_map, hfl]; simp [maxLen])
      rw [← List.map_set] at this
      have e := filled_set (more (first b 16) n) z (by omega)
      rw [hlen] at e
      rw [e] at this
      show Blk _ _ _ ((filled (more (first b 16) n ++ [nextW (more (first b 16) n) (16 + n)])).map (Value.int .i64))
      rw [hz]
      exact this
     have N0 : Hid (Blk (wr.setCell ⟨w.heap.size + 1, n + 16, none⟩ (.int .i64 z)) w.heap.size 137 (z64.map (Value.int .i64))) := hB0.other (by simp) _
     have NB : Hid (Below w.heap.size w (wr.setCell ⟨w.heap.size + 1, n + 16, none⟩ (.int .i64 z))) := hbe.setCell (by simp) _
     have N1 : Hid (∀ m, Blk ((wr.drewN m).setCell ⟨w.heap.size + 1, n + 16, none⟩ (.int .i64 z)) (w.heap.size + 1) 137 ((filled (more (first b 16) (n + 1))).map (Value.int .i64))) := fun m => N1.out
     have N0 : Hid (∀ m, Blk ((wr.drewN m).setCell ⟨w.heap.size + 1, n + 16, none⟩ (.int .i64 z)) w.heap.size 137 (z64.map (Value.int .i64))) := fun m => N0.out
     have NB : Hid (∀ m, Below w.heap.size w ((wr.drewN m).setCell ⟨w.heap.size + 1, n + 16, none⟩ (.int .i64 z))) := fun m => (below_drewN hbe m).setCell (by simp) _
     clear hB1 hB0 hbe hz hws hcl hlen hfl
     generalize (filled (more (first b 16) n)).getD (n + 16) 0 = v0 at *
     generalize (more (first b 16) n).getD (n + 1) 0 = x1 at *
     generalize (more (first b 16) n).getD (n + 14) 0 = x2 at *
     generalize (more (first b 16) n).getD (n + 9) 0 = x3 at *
     generalize (more (first b 16) n).getD n 0 = x4 at *
     obtain ⟨w1a, w1b⟩ := w1
     obtain ⟨w2a, w2b⟩ := w2
     obtain ⟨w3a, w3b⟩ := w3
     obtain ⟨w4a, w4b⟩ := w4
     have hs0 : Wd (bits .xor .i64 (bits .xor .i64 (rot x1 7) (rot x1 18)) (x1 / 8)) := wd_s0 (x := x1) ⟨w1a, w1b⟩
     have hs1 : Wd (bits .xor .i64 (bits .xor .i64 (rot x2 17) (rot x2 19)) (x2 / 1024)) := wd_s1 (x := x2) ⟨w2a, w2b⟩
     have HN : Hid ((x3 + x4 + (bits .xor .i64 (bits .xor .i64 (rot x1 7) (rot x1 18)) (x1 / 8) + bits .xor .i64 (bits .xor .i64 (rot x2 17) (rot x2 19)) (x2 / 1024))) % 4294967296 = z) := by
      show _ = _
      rw [← HN.out]; unfold s0 s1 xor3; rw [Int.add_assoc (x3 + x4)]
     go_wp2
     go_quiet (fail)
     go_wp2_with fail
     refine (implRotD _ _ _ _).mono ?_
     rintro e _ ⟨rfl, q1, rfl⟩
     go_wp2_with fail
     refine (implRotD _ _ _ _).mono ?_
     rintro e _ ⟨rfl, q2, rfl⟩
     go_wp2_with fail
     refine (implRotD _ _ _ _).mono ?_
     rintro e _ ⟨rfl, q3, rfl⟩
     go_wp2_with fail
     refine (implRotD _ _ _ _).mono ?_
     rintro e _ ⟨rfl, q4, rfl⟩
     go_wp2_with fail
     generalize bits .xor .i64 (bits .xor .i64 (rot x1 7) (rot x1 18)) (x1 / 8) = f0 at *
     generalize bits .xor .i64 (bits .xor .i64 (rot x2 17) (rot x2 19)) (x2 / 1024) = f1 at *
     obtain ⟨f0a, f0b⟩ := hs0
     obtain ⟨f1a, f1b⟩ := hs1
     obtain ⟨p, hp⟩ : ∃ p : Nat, n + 9 = p := ⟨_, rfl⟩
     rw [hp] at c3
     have hp64 : (p : Int) < 64 := by omega
     have hn64 : (n : Int) < 64 := by omega
     have j1 : IntKind.i64.wrap ((n : Int) + 16 - 7) = (p : Int) := by rw [IntKind.wrap_i64]; omega
     have j2 : IntKind.i64.wrap (n : Int) = (n : Int) := by rw [IntKind.wrap_i64]; omega
     have j3 : IntKind.i64.wrap (x3 + x4) = x3 + x4 := by rw [IntKind.wrap_i64]; omega
     have j4 : IntKind.i64.wrap (f0 + f1) = f0 + f1 := by rw [IntKind.wrap_i64]; omega
     have i5 : (0 : Int) ≤ (n : Int) + 16 := by omega
     have i6 : (n : Int) + 16 < 64 := by omega
     have t16 : ((n : Int) + 16).toNat = n + 16 := by omega
     clear hp
     go_region_with (go_at_call 121; refine (implAdd _ _ _).mono ?_; rintro e w' ⟨rfl, rfl⟩)
     all_goals
      go_wp2
      refine ⟨?_, ?measure⟩
      (repeat apply Exists.intro)
      refine ⟨?rel, rfl⟩
      case rel => exact ⟨n + 1, by omega, by go_num, by rw [HN.out]; exact N1.out _, by rw [HN.out]; exact N0.out _, by rw [HN.out]; exact NB.out _⟩
      case measure => simp [intOf]; omega
    ·
     obtain rfl : n = 48 := by omega
     have e : filled (more (first b 16) 48) = sched b := by
      unfold filled; rw [more_length, first_length]; simp [sched]
     rw [e] at hB1
     obtain ⟨cs, hcs⟩ : ∃ cs, cs = ((sched b).map (Value.int .i64)).toArray := ⟨_, rfl⟩
     obtain ⟨zc, hzc⟩ : ∃ zc, zc = (z64.map (Value.int .i64)).toArray := ⟨_, rfl⟩
     have hsz : cs.size = 64 := by rw [hcs]; simp [sched_length]
     have HCS : Hid (cs = ((sched b).map (Value.int .i64)).toArray) := hcs
     have HB1 : Hid (wr.heap[w.heap.size + 1]? = some (.cells cs 137 (0, 0))) := by rw [hcs]; exact hB1
     have HB0 : Hid (wr.heap[w.heap.size]? = some (.cells zc 137 (0, 0))) := by rw [hzc]; exact hB0
     have HZS : Hid ((Tryz.prog.info? 137).map (·.size) = some cs.size) := by rw [hsz]; exact zs
     have HON : Hid (cs.all (·.oneCell') = true) := by show _ = _; rw [hcs]; simp [Value.oneCell']
     have HST : Hid ((wr.setRow w.heap.size cs).heap[w.heap.size]? = some (.cells cs 137 (0, 0))) := by
      have := blk_setRow hB0 cs hcs
      rw [hcs] at this ⊢; exact this
     have HBB : Hid (Below w.heap.size w (wr.setRow w.heap.size cs)) := hbe.trans (below_setRow wr (Nat.le_refl _) _)
     have HZE : Hid (zc.size = cs.size) := by show _ = _; rw [hsz, hzc]; simp
     clear hB1 hB0 hbe hsz zv zs e hcs hzc
     go_wp2_with (first | refine wpList_load_row rfl 137 _ rfl (w.heap.size + 1) rfl 137 cs (0, 0) _ HB1.out Tryz.underlying137 rfl HZS.out ?_ | refine wpList_store_row rfl 137 _ _ rfl w.heap.size cs rfl rfl 137 zc HB0.out HZS.out HZE.out HON.out ?_)
     refine bodyPost_ret (v := .agg cs) ?_ rfl ⟨by rw [HCS.out], HBB.out⟩
     exact results_cell_row rfl _ _ w.heap.size 137 cs (0, 0) _ rfl HST.out Tryz.underlying137 rfl HZS.out
end Go.Proofs.YtpgapjdejelajaaGreatDoor.Sched

namespace Go.Proofs.YtpgapjdejelajaaGreatDoor.Words
open Go.RowKit Mem MemI Blk App Get ShaP Word Bits Sched

def isIn (x a b : Int) : Bool := decide (a ≤ x ∧ x ≤ b)
theorem isIn_no {x a b : Int} (h : ¬ (a ≤ x ∧ x ≤ b)) : isIn x a b = false := by unfold isIn; exact decide_eq_false h
theorem isIn_yes {x a b : Int} (h : a ≤ x ∧ x ≤ b) : isIn x a b = true := by unfold isIn; exact decide_eq_true h

theorem l1In (x a b : Int) (w : World) :
  Calls Tryz.prog 55 #[.int .i64 x, .int .i64 a, .int .i64 b] w fun e w' => e = .returned (.bool (isIn x a b)) ∧ w = w' := by
 by_cases h1 : a ≤ x
 ·
  by_cases h2 : x ≤ b
  ·
   have H : Hid (isIn x a b = true) := isIn_yes ⟨h1, h2⟩
   go_enter Tryz.func55, Tryz.ntmps55
   go_wp2
   go_ret
   exact ⟨by rw [H.out]; simp, rfl⟩
  ·
   have H : Hid (isIn x a b = false) := isIn_no (fun h => h2 h.2)
   go_enter Tryz.func55, Tryz.ntmps55
   go_wp2
   go_ret
   exact ⟨by rw [H.out]; simp, rfl⟩
 ·
  have H : Hid (isIn x a b = false) := isIn_no (fun h => h1 h.1)
  go_enter Tryz.func55, Tryz.ntmps55
  go_wp2
  go_ret
  exact ⟨by rw [H.out]; simp, rfl⟩

def okw (h : List Int) : Bool := decide (h.length = 8) && h.all (fun z => isIn z 0 4294967295)
theorem okw_iff (h : List Int) : okw h = true ↔ h.length = 8 ∧ Wds h := by
 simp only [okw, Bool.and_eq_true, decide_eq_true_eq, List.all_eq_true, isIn]
 exact Iff.rfl
theorem okw_bad {h : List Int} (i : Nat) (hb : ¬ Wd (h.getD i 0)) : okw h = false := by
 cases e : okw h with
 | false => rfl
 | true => exact absurd (((okw_iff h).1 e).2.at i) hb
theorem okw_len {h : List Int} (hb : h.length ≠ 8) : okw h = false := by simp [okw, hb]
theorem wds_of {h : List Int} {k : Nat} (hk : ¬ k < h.length) (hj : ∀ j, j < k → Wd (h.getD j 0)) : Wds h := by
 intro z hz
 obtain ⟨i, hi, rfl⟩ := List.getElem_of_mem hz
 have := hj i (by omega)
 simpa [List.getD, hi] using this

set_option maxHeartbeats 400000 in
theorem l2Words (a : Option Addr) (n cap : Nat) (h : List Int) (w : World) (hn : n = h.length) (hr : IRd w a h) (hl : n ≤ 4194304) :
  Calls Tryz.prog 115 #[.slice a n cap] w fun e w' => e = .returned (.bool (okw h)) ∧ w = w' := by
 subst hn
 go_enter Tryz.func115, Tryz.ntmps115
 go_wp2
 go_loop [3] (fun i => ∃ k : Nat, k ≤ h.length ∧ i = .int .i64 k ∧ (∀ j, j < k → Wd (h.getD j 0))) (fun i => h.length - (intOf i).toNat)
 case atStart => exact ⟨0, Nat.zero_le _, rfl, (fun j hj => by omega)⟩
 case round =>
  obtain ⟨k, hk, rfl, hj⟩ := hrel
  have HJ : Hid (∀ j, j < k → Wd (h.getD j 0)) := hj
  clear hj
  by_cases hlt : k < h.length
  ·
   obtain ⟨b, off, rfl, _, hc⟩ := hr k hlt
   clear hr
   by_cases hw : Wd (h.getD k 0)
   ·
    have HJ2 : Hid (∀ j, j < k + 1 → Wd (h.getD j 0)) := by
     intro j hj
     by_cases e : j = k
     ·
      subst e; exact hw
     ·
      exact HJ.out j (by omega)
    have hin : isIn (h.getD k 0) 0 4294967295 = true := isIn_yes hw
    clear hw
    generalize h.getD k 0 = z at *
    go_wp2_with fail
    refine (l1In z 0 4294967295 w).mono ?_
    rintro e w1 ⟨rfl, rfl⟩
    go_wp2
    go_round
    case rel => exact ⟨k + 1, by omega, by go_num, HJ2.out⟩
    case measure => simp [intOf]; omega
   ·
    have HO : Hid (okw h = false) := okw_bad k hw
    have hin : isIn (h.getD k 0) 0 4294967295 = false := isIn_no hw
    clear hw
    generalize h.getD k 0 = z at *
    go_wp2_with fail
    refine (l1In z 0 4294967295 w).mono ?_
    rintro e w1 ⟨rfl, rfl⟩
    go_wp2
    go_ret
    exact ⟨by simp [HO.out], rfl⟩
  ·
   clear hr
   have HWs : Hid (Wds h) := wds_of hlt HJ.out
   by_cases h8 : h.length = 8
   ·
    have HO : Hid (okw h = true) := (okw_iff h).2 ⟨h8, HWs.out⟩
    have he : ((h.length : Int) == 8) = true := by simp [h8]
    clear h8
    go_wp2
    go_ret
    exact ⟨by rw [HO.out]; simp, rfl⟩
   ·
    have HO : Hid (okw h = false) := okw_len h8
    have he : ((h.length : Int) == 8) = false := by simp; omega
    clear h8
    go_wp2
    go_ret
    exact ⟨by rw [HO.out]; simp, rfl⟩

set_option maxRecDepth 8000 in
theorem l2K (w : World) :
  Calls Tryz.prog 116 #[] w fun e w' => e = .returned (.slice (some ⟨w.heap.size, 0, none⟩) 64 64) ∧ IRow w' w.heap.size 64 kk ∧ Below w.heap.size w w' := by
 go_enter Tryz.func116, Tryz.ntmps116
 go_wp2
 go_ret
 exact ⟨rfl, irow_new w kk (by simp [maxLen, kk_length]), (Below.refl _ _).alloc (Nat.le_refl _) _⟩

end Go.Proofs.YtpgapjdejelajaaGreatDoor.Words

namespace Go.Proofs.YtpgapjdejelajaaGreatDoor.Res
open Go.RowKit Blk

def one (tmps : Array Value) : ResultVar → Sem Value
 | .tmp t => pure (tmps.getD t undef)
 | .cell a t => do loadVar t (← asAddr (tmps.getD a undef))
def Is (P : Program) (tmps : Array Value) (w : World) (r : ResultVar) (v : Value) : Prop := (one tmps r).run P w = .ok v w
theorem is_tmp {P : Program} {tmps : Array Value} {w : World} {t : Tmp} {v : Value} (h : tmps.getD t undef = v) : Is P tmps w (.tmp t) v := by
 show (pure (tmps.getD t undef) : Sem Value).run P w = _; rw [h]; rfl
def aggB (P : Program) (ty : TypeId) (n : Nat) : Bool := (match P.underlying ty with | some (.struct _) | some (.array _ _) => true | _ => false) && (P.info? ty).map (·.size) == some n
theorem is_cell {P : Program} {tmps : Array Value} {w : World} {p : Tmp} {ty : TypeId} {g : Nat} {t : TypeId} {cs : List Value} (hp : tmps.getD p undef = .pointer (some ⟨g, 0, none⟩)) (hg : Blk w g t cs) (hu : aggB P ty cs.length = true) :
  Is P tmps w (.cell p ty) (.agg cs.toArray) := by
 unfold aggB at hu
 rw [Bool.and_eq_true, beq_iff_eq] at hu
 obtain ⟨h1, h2⟩ := hu
 show (do loadVar ty (← asAddr (tmps.getD p undef)) : Sem Value).run P w = _
 rw [hp]
 cases hd : P.underlying ty with
 | none => rw [hd] at h1; cases h1
 | some d =>
  rw [hd] at h1
  cases d with
  | struct fs => simp [asAddr, run_loadVar_row w g t ty cs.toArray (0, 0) (.struct fs) hg hd rfl (by simpa using h2)]
  | array n e => simp [asAddr, run_loadVar_row w g t ty cs.toArray (0, 0) (.array n e) hg hd rfl (by simpa using h2)]
  | _ => cases h1
theorem res1 {P : Program} {fn : Func} {tmps : Array Value} {w : World} {r0 : ResultVar} {v0 : Value} (h : fn.results = #[r0]) (h0 : Is P tmps w r0 v0) : (results fn tmps).run P w = .ok v0 w := by
 have e : results fn tmps = (do let vs ← fn.results.mapM (one tmps); pure (if h : vs.size = 1 then vs[0] else .tuple vs)) := rfl
 unfold Is at h0
 simp [e, h, h0]
theorem res2 {P : Program} {fn : Func} {tmps : Array Value} {w : World} {r0 r1 : ResultVar} {v0 v1 : Value} (h : fn.results = #[r0, r1]) (h0 : Is P tmps w r0 v0) (h1 : Is P tmps w r1 v1) : (results fn tmps).run P w = .ok (.tuple #[v0, v1]) w := by
 have e : results fn tmps = (do let vs ← fn.results.mapM (one tmps); pure (if h : vs.size = 1 then vs[0] else .tuple vs)) := rfl
 unfold Is at h0 h1
 simp [e, h, h0, h1]
theorem res3 {P : Program} {fn : Func} {tmps : Array Value} {w : World} {r0 r1 r2 : ResultVar} {v0 v1 v2 : Value} (h : fn.results = #[r0, r1, r2]) (h0 : Is P tmps w r0 v0) (h1 : Is P tmps w r1 v1) (h2 : Is P tmps w r2 v2) : (results fn tmps).run P w = .ok (.tuple #[v0, v1, v2]) w := by
 have e : results fn tmps = (do let vs ← fn.results.mapM (one tmps); pure (if h : vs.size = 1 then vs[0] else .tuple vs)) := rfl
 unfold Is at h0 h1 h2
 simp [e, h, h0, h1, h2]
theorem res4 {P : Program} {fn : Func} {tmps : Array Value} {w : World} {r0 r1 r2 r3 : ResultVar} {v0 v1 v2 v3 : Value} (h : fn.results = #[r0, r1, r2, r3]) (h0 : Is P tmps w r0 v0) (h1 : Is P tmps w r1 v1) (h2 : Is P tmps w r2 v2) (h3 : Is P tmps w r3 v3) : (results fn tmps).run P w = .ok (.tuple #[v0, v1, v2, v3]) w := by
 have e : results fn tmps = (do let vs ← fn.results.mapM (one tmps); pure (if h : vs.size = 1 then vs[0] else .tuple vs)) := rfl
 unfold Is at h0 h1 h2 h3
 simp [e, h, h0, h1, h2, h3]
end Go.Proofs.YtpgapjdejelajaaGreatDoor.Res

/-
  Further draws: a number out of a list, an odd number, bytes, and a new cursor. No value of a draw is told but its bounds.
  Slices of ints as rows of numbers, and what the laws' own four helpers on them do: copy, compare, mark, and look for imarks. Each contract asks that the slice is read as the list that it names, and a length of at most 4,194,304.
  Blocks of the call's own whose cells are known one by one (arrays, structs), and appending to a row of ints that the call itself made.
  Memory in zones: a step keeps all blocks outside of a zone; what lies in a zone is carried over steps that keep it.
  How what stands ahead of a draw is carried on.
  Slices of ints as values whose memory lies in a zone, and what the laws' helpers over them answer.
  Slices that came in, as slices that read; answers in new memory, as slices that own theirs.
  What a call hands back, result by result: a temporary's value, or a struct that lies in a block of its own.
-/
import Derived.Test.YtpenhliaelhnoaaDoorGd1
import Derived.Laws.Rows
import Derived.Laws.Tables
import Derived.Deep.WholeRow
import Derived.Great.BuildSlice
set_option linter.unusedVariables false
namespace Go.Proofs.YtpenhliaelhnoaaDoor.Draw
open Go.RowKit Go.Proofs.YtpenhliaelhnoaaDoor.Mem Go.Proofs.YtpenhliaelhnoaaDoor.App

/-- A block of ints. -/
def IntsAt (w : World) (q : Nat) (L : List Int) : Prop := ∀ j, j < L.length → w.cell? ⟨q, j, none⟩ = some (.int .i64 (L.getD j 0))
set_option maxRecDepth 100000 in
theorem ints_new (w : World) (L : List Int) : IntsAt (w.alloc (.cells (L.map (Value.int .i64)).toArray 3)) w.heap.size L := by
  intro j hj
  rw [cell_of_row _ w.heap.size j _ _ (0, 0) (heap_alloc_new w _)]
  simp [List.getD, hj]
set_option maxRecDepth 100000 in
theorem IntsAt.but {w w' : World} {p q : Nat} {L : List Int} (h : IntsAt w q L) (b : But p w w') (hq : q ≠ p) : IntsAt w' q L := by
  intro j hj
  have := h j hj
  rw [World.cell?_of_block (w := w) (b.block q (World.block_lt_of_cell? w _ this) (by simp only [ne_eq, Option.some.injEq]; exact hq))]
  exact this

set_option maxRecDepth 100000 in
set_option maxHeartbeats 800000 in
theorem intOfList {W0 : World} {a : Option Addr} {len cap : Nat} {l : List Int} {p : Nat} {w : World} (h : Ready W0 a len cap l p w) (q n : Nat) (L : List Int) (hn : n = L.length) (hL : IntsAt w q L) (hq : q ≠ p) (h0 : 0 < n) (h1 : n ≤ 256) :
    Calls Tryd.prog 31 #[.pointer (some ⟨p, 0, none⟩), .slice (some ⟨q, 0, none⟩) n n] w fun e w' => ∃ x : Int, e = .returned (.int .i64 x) ∧ x ∈ L ∧ Ready W0 a len cap l p w' ∧ But p w w' := by
  have HR : Hid (Ready W0 a len cap l p w) := h
  have HL : Hid (IntsAt w q L) := hL
  have HN : Hid (n = L.length) := hn
  clear h hL hn
  go_enter Tryd.func31, Tryd.ntmps31
  go_wp2_with fail
  refine (below HR.out n (by omega) (by omega)).mono ?_
  rintro e w1 ⟨x, rfl, x0, x1, r1, b1⟩
  have R1 : Hid (Ready W0 a len cap l p w1) := r1
  have B1 : Hid (But p w w1) := b1
  obtain ⟨X, rfl⟩ := Int.eq_ofNat_of_zero_le x0
  have hX : X < L.length := by have := HN.out; omega
  have hc := (HL.out.but b1 hq) X hX
  have HM : Hid (L.getD X 0 ∈ L) := by
    show _ ∈ _
    simp [List.getD, hX]
  clear r1 b1 hX
  generalize L.getD X 0 = z at *
  go_wp2
  go_ret
  exact ⟨z, rfl, HM.out, R1.out, B1.out⟩

set_option maxRecDepth 100000 in
theorem but_grown {p g : Nat} {a b c : World} (h : But p a b) (k : b.grownBy c (some g)) (hg : a.heap.size ≤ g) : But p a c :=
  ⟨k.os.trans h.os, k.tape.trans h.tape, k.output.trans h.output, Nat.le_trans h.size k.size, fun i hi hne => (k.block i (Nat.lt_of_lt_of_le hi h.size) (by simp only [ne_eq, Option.some.injEq]; omega)).trans (h.block i hi hne)⟩

set_option maxRecDepth 100000 in
set_option maxHeartbeats 1600000 in
theorem bytesOf {W0 : World} {a : Option Addr} {len cap : Nat} {l : List Int} {p : Nat} {w : World} (h : Ready W0 a len cap l p w) (N : Nat) (hN : N ≤ 1000) :
    Calls Tryd.prog 30 #[.pointer (some ⟨p, 0, none⟩), .int .i64 N] w fun e w' => ∃ (g c : Nat) (r : List Int), e = .returned (.slice (some ⟨g, 0, none⟩) N c) ∧ N = r.length ∧ Bytes r ∧ w.heap.size ≤ g ∧ Row w' g c r ∧ Ready W0 a len cap l p w' ∧ But p w w' := by
  have HR : Hid (Ready W0 a len cap l p w) := h
  have hlt := h.hc.lt
  clear h
  go_enter Tryd.func30, Tryd.ntmps30
  go_wp2
  go_loopw [5, 6] (fun v i wr => ∃ (k g c : Nat) (r : List Int), k ≤ N ∧ i = .int .i64 k ∧ v = .slice (some ⟨g, 0, none⟩) k c ∧ k = r.length ∧ Bytes r ∧ w.heap.size ≤ g ∧ Row wr g c r ∧ Ready W0 a len cap l p wr ∧ But p w wr)
    (fun _ i _ => N - (intOf i).toNat)
  case atStart => exact ⟨0, w.heap.size, 0, [], Nat.zero_le _, rfl, rfl, rfl, (fun z hz => by cases hz), Nat.le_refl _, row_new w [] (by simp), HR.out.alloc _, (But.refl p w).alloc _⟩
  case round =>
    obtain ⟨k, g, c, r, hk, rfl, rfl, hkr, hby, hg, hrow, hrd, hbu⟩ := hrel
    have HRow : Hid (Row wr g c r) := hrow
    have HRd : Hid (Ready W0 a len cap l p wr) := hrd
    have HBu : Hid (But p w wr) := hbu
    have HKR : Hid (k = r.length) := hkr
    have HBy : Hid (Bytes r) := hby
    clear hrow hrd hbu hkr hby HR
    by_cases hkN : k < N
    · go_wp2_with fail
      refine (byteOf HRd.out).mono ?_
      rintro e w1 ⟨x, rfl, x0, x1, r1, b1⟩
      have R1 : Hid (Ready W0 a len cap l p w1) := r1
      have RW : Hid (Row w1 g c r) := Row.but HRow.out b1 (by omega)
      have B1 : Hid (But p w w1) := HBu.out.trans b1
      clear r1 b1 HRow HRd HBu
      go_wp2_with (at_builtin; refine wpList_app _ rfl (.tmp 13) (.tmp 17) rfl w.heap.size g k c r [x] rfl HKR.out (row_alloc RW.out _) hg (some ⟨w1.heap.size, 0, none⟩) 1 1 rfl rfl (rd_one _ _) (by intro h; cases h) (by rw [← HKR.out]; simp; omega) ?_; intro g2 c2 w2 r2 b2 l2 gr2)
      have R2 : Hid (Row w2 g2 c2 (r ++ [x])) := r2
      have C2 : Hid (Cur w2 p a len cap) := (R1.out.hc.alloc (.cells #[.int .u8 x] 5)).keep (gr2.block p (by have := R1.out.hc.lt; simp; omega) (by simp only [ne_eq, Option.some.injEq]; omega))
      have B2 : Hid (But p w w2) := but_grown (B1.out.alloc _) gr2 hg
      have Q2 : Hid (Ready W0 a len cap l p w2) := ⟨R1.out.hl, R1.out.hr, R1.out.hb, R1.out.hlen, Below.grown (R1.out.hB.alloc R1.out.hB.size _) gr2 (Nat.le_trans R1.out.hB.size (by simp)) (fun k h => by cases h; have := R1.out.hp; omega), R1.out.hp, C2.out⟩
      clear r2 gr2 l2
      go_roundw
      case rel => exact ⟨k + 1, g2, c2, r ++ [x], by omega, by go_num, rfl, by have := HKR.out; simp; omega, (fun z hz => by rcases List.mem_append.1 hz with h | h; exact HBy.out z h; simp at h; omega), b2, R2.out, Q2.out, B2.out⟩
      case measure => simp [intOf]; omega
    · obtain rfl : k = N := by omega
      go_wp2
      go_ret
      exact ⟨g, c, r, rfl, HKR.out, HBy.out, hg, HRow.out, HRd.out, HBu.out⟩

set_option maxRecDepth 100000 in
set_option maxHeartbeats 1600000 in
theorem newCur (a : Option Addr) (len cap : Nat) (l : List Int) (w : World) (hl : len = l.length) (hr : Rd w a l) (hb : Bytes l) (hlen : len ≤ 1048576) :
    Calls Tryd.prog 28 #[.slice a len cap] w fun e w' => ∃ p, e = .returned (.pointer (some ⟨p, 0, none⟩)) ∧ Ready w a len cap l p w' := by
  have HR : Hid (Rd w a l) := hr
  have HB : Hid (Bytes l) := hb
  have HL : Hid (len = l.length) := hl
  have hm := Bits.mask30
  clear hr hb hl
  go_enter Tryd.func28, Tryd.ntmps28
  go_wp2
  go_loop [3, 4] (fun v i => ∃ (k : Nat) (h : Int), k ≤ len ∧ k ≤ 4000 ∧ i = .int .i64 k ∧ v = .int .i64 h) (fun _ i => len - (intOf i).toNat)
  case atStart => exact ⟨0, _, Nat.zero_le _, Nat.zero_le _, rfl, rfl⟩
  case round =>
    obtain ⟨k, h, hk, hk4, rfl, rfl⟩ := hrel
    by_cases hlt : k < len
    · by_cases h4 : k < 4000
      · obtain ⟨b, off, rfl, hbl, hc⟩ := HR.out k (by have := HL.out; omega)
        generalize l.getD k 0 = z at *
        have hkI : (k : Int) < (len : Int) := by omega
        have h4I : (k : Int) < 4000 := by omega
        go_wp2
        go_round
        case rel => exact ⟨k + 1, _, by omega, by omega, by go_num, rfl⟩
        case measure => simp [intOf]; omega
      · have hkI : (k : Int) < (len : Int) := by omega
        have h4I : ¬ ((k : Int) < 4000) := by omega
        go_wp2
        go_ret
        exact ⟨w.heap.size, rfl, HL.out, HR.out, HB.out, hlen, (Below.refl _ _).alloc (Nat.le_refl _) _, Nat.le_refl _, ⟨0, h, by omega, by omega, heap_alloc_new w _⟩⟩
    · have hkI : ¬ ((k : Int) < (len : Int)) := by omega
      go_wp2
      go_ret
      exact ⟨w.heap.size, rfl, HL.out, HR.out, HB.out, hlen, (Below.refl _ _).alloc (Nat.le_refl _) _, Nat.le_refl _, ⟨0, h, by omega, by omega, heap_alloc_new w _⟩⟩
end Go.Proofs.YtpenhliaelhnoaaDoor.Draw

namespace Go.Proofs.YtpenhliaelhnoaaDoor.MemI
open Go.RowKit Go.Proofs.YtpenhliaelhnoaaDoor.Mem

set_option maxRecDepth 100000 in
theorem info64 : (Tryd.prog.info? 3).map (fun i => (i.zero, i.size, i.bytes)) = some (some (.int .i64 0), 1, 8) := by kernel_rfl

/-- Every number is a byte. -/
def Ints (l : List Int) : Prop := ∀ z ∈ l, -9223372036854775808 ≤ z ∧ z ≤ 9223372036854775807
set_option maxRecDepth 100000 in
theorem Ints.at {l : List Int} (h : Ints l) (i : Nat) : -9223372036854775808 ≤ l.getD i 0 ∧ l.getD i 0 ≤ 9223372036854775807 := by
  by_cases hi : i < l.length
  · simpa [List.getD, hi] using h _ (List.getElem_mem hi)
  · simp [List.getD, List.getElem?_eq_none (Nat.le_of_not_lt hi)]

/-- The cells from an address on hold the numbers l. -/
def IRd (w : World) (a : Option Addr) (l : List Int) : Prop :=
  ∀ i, i < l.length → ∃ b off, a = some ⟨b, off, none⟩ ∧ b < w.heap.size ∧ w.cell? ⟨b, off + i, none⟩ = some (.int .i64 (l.getD i 0))

/-- Block g is a row of cap bytes, free to write, the first of them l. -/
def IRow (w : World) (g cap : Nat) (l : List Int) : Prop :=
  l.length ≤ cap ∧ cap ≤ maxLen ∧ ∃ cur, w.heap[g]? = some (.cells cur 3 (0, 0)) ∧ cur.size = cap ∧ cur.toList.take l.length = l.map (Value.int .i64)

set_option maxRecDepth 100000 in
theorem IRow.owns {w : World} {g cap : Nat} {l : List Int} (h : IRow w g cap l) {base : Nat} (hb : base ≤ g) : w.ownsRow base 3 1 (.slice (some ⟨g, 0, none⟩) l.length cap) l.length (l.map (Value.int .i64)) := by
  obtain ⟨h1, h2, cur, h3, h4, h5⟩ := h
  exact ⟨by simp, .inr ⟨g, cap, cur, rfl, hb, h3, h1, h2, by omega, by simpa using h5⟩⟩
set_option maxRecDepth 100000 in
theorem IRow.of {w : World} {base g n cap : Nat} {l : List Int} (h : w.ownsRow base 3 1 (.slice (some ⟨g, 0, none⟩) n cap) n (l.map (Value.int .i64))) : IRow w g cap l ∧ base ≤ g ∧ n = l.length ∧ g < w.heap.size := by
  obtain ⟨h0, h⟩ := h
  have hn : n = l.length := by simpa using h0.symm
  subst hn
  rcases h with ⟨h, _⟩ | ⟨g', cap', cur, hv, hb, hg, h1, h2, h3, h4⟩
  · simp at h
  · simp only [Value.slice.injEq, Option.some.injEq, Addr.mk.injEq, and_true, true_and] at hv
    obtain ⟨rfl, rfl⟩ := hv
    exact ⟨⟨h1, h2, cur, hg, by omega, by simpa using h4⟩, hb, rfl, (Array.getElem?_eq_some_iff.1 hg).1⟩
set_option maxRecDepth 100000 in
theorem IRow.keep {w w' : World} {g cap : Nat} {l : List Int} (h : IRow w g cap l) (e : w'.heap[g]? = w.heap[g]?) : IRow w' g cap l := by
  obtain ⟨h1, h2, cur, h3, h4⟩ := h
  exact ⟨h1, h2, cur, e.trans h3, h4⟩
set_option maxRecDepth 100000 in
theorem IRow.lt {w : World} {g cap : Nat} {l : List Int} (h : IRow w g cap l) : g < w.heap.size := by
  obtain ⟨_, _, cur, h3, _⟩ := h
  exact (Array.getElem?_eq_some_iff.1 h3).1
set_option maxRecDepth 100000 in
theorem IRow.below {w w' : World} {g cap : Nat} {l : List Int} (h : IRow w g cap l) {B : Nat} (b : Below B w w') (hg : g < B) : IRow w' g cap l := h.keep (b.block g hg)
set_option maxRecDepth 100000 in
theorem IRow.later {w w' : World} {g cap : Nat} {l : List Int} (h : IRow w g cap l) (b : Below w.heap.size w w') : IRow w' g cap l := h.below b h.lt
set_option maxRecDepth 100000 in
theorem IRow.cell {w : World} {g cap : Nat} {l : List Int} (h : IRow w g cap l) (i : Nat) (hi : i < l.length) : w.cell? ⟨g, i, none⟩ = some (.int .i64 (l.getD i 0)) := by
  have := (h.owns (Nat.zero_le g)).cellAt i (by omega)
  rw [this]
  simp [List.getD, hi]
set_option maxRecDepth 100000 in
theorem IRow.rd {w : World} {g cap : Nat} {l : List Int} (h : IRow w g cap l) : IRd w (some ⟨g, 0, none⟩) l := fun i hi =>
  ⟨g, 0, rfl, h.lt, by rw [Nat.zero_add]; exact h.cell i hi⟩
set_option maxRecDepth 100000 in
theorem IRd.later {w w' : World} {a : Option Addr} {l : List Int} (h : IRd w a l) {B : Nat} (b : Below B w w') (hB : w.heap.size ≤ B) : IRd w' a l := by
  intro i hi
  obtain ⟨x, off, rfl, h1, h2⟩ := h i hi
  exact ⟨x, off, rfl, Nat.lt_of_lt_of_le h1 b.size, by rw [b.cell (Nat.lt_of_lt_of_le h1 hB)]; exact h2⟩

set_option maxRecDepth 100000 in
theorem readI {w : World} {a : Option Addr} {len cap : Nat} {zs : List Int} (h : IsRow .i64 w a len cap zs) :
    ∃ l, len = l.length ∧ IRd w a l ∧ (a = none → cap = 0) ∧ Ints l := by
  rcases h with ⟨rfl, rfl, rfl, rfl⟩ | ⟨x, rfl, h1, h2, h3, h4, h5⟩
  · exact ⟨[], rfl, (fun i hi => by cases hi), (fun _ => rfl), (fun z hz => by cases hz)⟩
  · refine ⟨zs.take len, by simp; omega, ?_, (fun h => by cases h), ?_⟩
    · intro i hi
      have hi' : i < len := by simp at hi; omega
      have hc := h4 i (by omega)
      have hc0 := h4 0 (by omega)
      obtain ⟨b, off, spot⟩ := x
      have hspot : spot = none := by simpa [Addr.add] using World.cell?_spot hc0
      subst hspot
      rw [Addr.add_lit] at hc
      refine ⟨b, off, rfl, World.block_lt_of_cell? w _ hc, ?_⟩
      have e : (zs.take len).getD i 0 = zs.getD i 0 := by simp [List.getD, hi']
      rw [e]
      exact hc
    · intro z hz
      have := h5 z (List.mem_of_mem_take hz)
      simpa [Lit.wf, IntKind.min, IntKind.max, IntKind.signed, IntKind.bits] using this

/-- The imarks that are laid from k on: n of them. -/
def imarks (k : Int) (n : Nat) : List Int := (List.range n).map fun i : Nat => k + (i : Int)
set_option maxRecDepth 100000 in
theorem imarks_length (k : Int) (n : Nat) : (imarks k n).length = n := by simp [imarks]
set_option maxRecDepth 100000 in
theorem imarks_getD (k : Int) (n i : Nat) (h : i < n) : (imarks k n).getD i 0 = k + (i : Int) := by
  simp [imarks, List.getD, h]
set_option maxRecDepth 100000 in
theorem iset_mark (l : List Int) (q : Int) (k : Nat) (hk : k < l.length) :
    (imarks q k ++ l.drop k).set k (q + (k : Int)) = imarks q (k + 1) ++ l.drop (k + 1) := by
  rw [List.set_append, if_neg (by rw [imarks_length]; omega), imarks_length, Nat.sub_self, List.drop_eq_getElem_cons hk, List.set_cons_zero]
  simp [imarks, List.range_succ]

end Go.Proofs.YtpenhliaelhnoaaDoor.MemI

namespace Go.Proofs.YtpenhliaelhnoaaDoor.Blk
open Go.RowKit Go.Proofs.YtpenhliaelhnoaaDoor.Mem Go.Proofs.YtpenhliaelhnoaaDoor.MemI

/-- Block g is of type t, free to write, and its cells are cs. -/
def Blk (w : World) (g : Nat) (t : TypeId) (cs : List Value) : Prop := w.heap[g]? = some (.cells cs.toArray t (0, 0))
set_option maxRecDepth 100000 in
theorem Blk.keep {w w' : World} {g : Nat} {t : TypeId} {cs : List Value} (h : Blk w g t cs) (e : w'.heap[g]? = w.heap[g]?) : Blk w' g t cs := e.trans h
set_option maxRecDepth 100000 in
theorem Blk.lt {w : World} {g : Nat} {t : TypeId} {cs : List Value} (h : Blk w g t cs) : g < w.heap.size := (Array.getElem?_eq_some_iff.1 h).1
set_option maxRecDepth 100000 in
theorem Blk.below {w w' : World} {g : Nat} {t : TypeId} {cs : List Value} (h : Blk w g t cs) {B : Nat} (b : Below B w w') (hg : g < B) : Blk w' g t cs := h.keep (b.block g hg)
set_option maxRecDepth 100000 in
theorem Blk.later {w w' : World} {g : Nat} {t : TypeId} {cs : List Value} (h : Blk w g t cs) (b : Below w.heap.size w w') : Blk w' g t cs := h.below b h.lt
set_option maxRecDepth 100000 in
theorem Blk.drewN {w : World} {g : Nat} {t : TypeId} {cs : List Value} (h : Blk w g t cs) (m : Nat) : Blk (w.drewN m) g t cs := h
set_option maxRecDepth 100000 in
theorem Blk.cell {w : World} {g : Nat} {t : TypeId} {cs : List Value} (h : Blk w g t cs) (i : Nat) {v : Value} (hv : cs[i]? = some v) : w.cell? ⟨g, i, none⟩ = some v := by
  rw [cell_of_row w g i cs.toArray t (0, 0) h]; simpa using hv
set_option maxRecDepth 100000 in
theorem Blk.frozen {w : World} {g : Nat} {t : TypeId} {cs : List Value} (h : Blk w g t cs) (i : Nat) : w.frozen? ⟨g, i, none⟩ = false := frozen_of_row w g i cs.toArray t h
set_option maxRecDepth 100000 in
theorem Blk.owns {w : World} {g : Nat} {t : TypeId} {cs : List Value} (h : Blk w g t cs) (hl : cs.length ≤ maxLen) : w.ownsRow g t 1 (.slice (some ⟨g, 0, none⟩) cs.length cs.length) cs.length cs :=
  ⟨by simp, .inr ⟨g, cs.length, cs.toArray, rfl, Nat.le_refl _, h, Nat.le_refl _, hl, by simp, by simp⟩⟩
set_option maxRecDepth 100000 in
theorem Blk.set {w : World} {g : Nat} {t : TypeId} {cs : List Value} (h : Blk w g t cs) (i : Nat) (v : Value) (hl : cs.length ≤ maxLen) : Blk (w.setCell ⟨g, i, none⟩ v) g t (cs.set i v) := by
  obtain ⟨h1, h2⟩ := (h.owns hl).stored i v
  obtain ⟨h0, h⟩ := h1
  rcases h with ⟨h, _⟩ | ⟨g', cap', cur, hv, hb, hg, h1, h2, h3, h4⟩
  · simp at h
  · simp only [Value.slice.injEq, Option.some.injEq, Addr.mk.injEq, and_true, true_and] at hv
    obtain ⟨rfl, rfl⟩ := hv
    have : cur = (cs.set i v).toArray := by
      apply Array.toList_inj.1
      rw [List.take_of_length_le (by rw [Array.length_toList]; omega)] at h4
      simpa using h4
    rw [this] at hg
    exact hg
set_option maxRecDepth 100000 in
theorem Blk.new (w : World) (t : TypeId) (cs : List Value) : Blk (w.alloc (.cells cs.toArray t)) w.heap.size t cs := heap_alloc_new w _
set_option maxRecDepth 100000 in
theorem Blk.alloc {w : World} {g : Nat} {t : TypeId} {cs : List Value} (h : Blk w g t cs) (o : Obj) : Blk (w.alloc o) g t cs := h.keep (Below.heap_alloc w o g h.lt)
set_option maxRecDepth 100000 in
theorem Blk.other {w : World} {g : Nat} {t : TypeId} {cs : List Value} (h : Blk w g t cs) {a : Addr} (ne : g ≠ a.block) (v : Value) : Blk (w.setCell a v) g t cs := h.keep (Below.heap_setCell w a v g ne)
set_option maxRecDepth 100000 in
theorem Blk.rd {w : World} {g : Nat} {t : TypeId} {l : List Int} {r : List Value} (h : Blk w g t (l.map (Value.int .i64) ++ r)) : IRd w (some ⟨g, 0, none⟩) l := fun i hi =>
  ⟨g, 0, rfl, h.lt, by rw [Nat.zero_add]; exact h.cell i (by simp [List.getElem?_append, hi, List.getD])⟩
set_option maxRecDepth 100000 in
theorem Blk.int {w : World} {g : Nat} {t : TypeId} {l : List Int} {r : List Value} (h : Blk w g t (l.map (Value.int .i64) ++ r)) (i : Nat) (hi : i < l.length) : w.cell? ⟨g, i, none⟩ = some (.int .i64 (l.getD i 0)) :=
  h.cell i (by simp [List.getElem?_append, hi, List.getD])
set_option maxRecDepth 100000 in
theorem set_ints (l : List Int) (r : List Value) (i : Nat) (z : Int) (hi : i < l.length) : (l.map (Value.int .i64) ++ r).set i (.int .i64 z) = (l.set i z).map (Value.int .i64) ++ r := by
  rw [List.set_append, if_pos (by simpa using hi), List.map_set]
set_option maxRecDepth 100000 in
theorem below_drewN {B : Nat} {a w : World} (h : Below B a w) (m : Nat) : Below B a (w.drewN m) := ⟨h.os, h.tape, h.output, h.size, h.block⟩
set_option maxRecDepth 100000 in
theorem Rd.drewN {w : World} {a : Option Addr} {l : List Int} (h : Rd w a l) (m : Nat) : Rd (w.drewN m) a l := h.later (below_drewN (Below.refl w.heap.size w) m) (Nat.le_refl _)
set_option maxRecDepth 100000 in
theorem IRd.drewN {w : World} {a : Option Addr} {l : List Int} (h : IRd w a l) (m : Nat) : IRd (w.drewN m) a l := h.later (below_drewN (Below.refl w.heap.size w) m) (Nat.le_refl _)

set_option maxRecDepth 100000 in
theorem IRd.cells {w : World} {ad : Addr} {y : List Int} (h : IRd w (some ad) y) : ∀ j u, (y.map (Value.int .i64))[j]? = some u → w.cell? (ad.add j) = some u := by
  intro j u hu
  have hj : j < y.length := by
    have := (List.getElem?_eq_some_iff.1 hu).1
    simpa using this
  obtain ⟨b, off, e, _, hc⟩ := h j hj
  obtain rfl := Option.some.inj e
  rw [Addr.add_lit, hc]
  simpa [List.getD, hj] using hu

set_option maxRecDepth 100000 in
theorem iwpList_app (w : World) {ops : Array Oper} {rest : List Oper} {o : Oper} {a : Act} {Q : Exit → Act → World → Prop} (hgd : o.guard = none) (s x : Operand)
    (ho : o.op = .call { callee := .builtin .append, args := #[s, x], argTypes := #[41, 41] })
    (base g n cap : Nat) (l y : List Int) (hs : a.eval s = .slice (some ⟨g, 0, none⟩) n cap) (hn : n = l.length) (hrow : IRow w g cap l) (hbg : base ≤ g)
    (ao : Option Addr) (m c : Nat) (hx : a.eval x = .slice ao m c) (hm : m = y.length) (hrd : IRd w ao y) (hnone : ao = none → c = 0) (hsum : l.length + y.length ≤ 100000000)
    (h : ∀ g' cap' w', IRow w' g' cap' (l ++ y) → base ≤ g' → g' < w'.heap.size → w.grownBy w' (some g) → wpList Tryd.prog ops Q rest (a.put o.dst (.slice (some ⟨g', 0, none⟩) (n + m) cap')) w') :
    wpList Tryd.prog ops Q (o :: rest) a w := by
  obtain ⟨i0, hi, hz0, hz1, hz2⟩ := info_parts info64
  subst hn hm
  have hlt := hrow.lt
  cases ao with
  | none =>
    have hy : y = [] := by
      cases y with
      | nil => rfl
      | cons z r => obtain ⟨_, _, e, _⟩ := hrd 0 (by simp); cases e
    subst hy
    have hc0 := hnone rfl
    subst hc0
    refine wpList_append_own_none hgd s x 41 ho base 3 i0 1 Tryd.underlying41 hi _ _ _ hs (hrow.owns hbg) hx ?_
    simpa using h g cap w (by simpa using hrow) hbg hlt (World.grownBy.refl _ _)
  | some ad =>
    refine wpList_append_own w hgd s x 41 ho base 3 i0 (.int .i64 0) 1 8 Tryd.underlying41 hi hz0 hz1 hz2 rfl (by decide) _ _ _ hs (hrow.owns hbg) ad y.length c (y.map (Value.int .i64)) hx (by simp) (IRd.cells hrd) (ints_oneCell _ _) (by unfold maxLen; omega) (by omega) (by omega) ?_
    intro v' w' hown hgr hiff
    rcases hown.2 with ⟨hv, _⟩ | ⟨g', cap', cur, rfl, hb, hg', _⟩
    · exact absurd (hiff.1 hv).1 (by simp)
    · rw [← List.map_append] at hown
      obtain ⟨r1, r2, _, r4⟩ := IRow.of hown
      exact h g' cap' w' r1 r2 r4 hgr

set_option maxRecDepth 100000 in
theorem iwpList_fit (w : World) {ops : Array Oper} {rest : List Oper} {o : Oper} {a : Act} {Q : Exit → Act → World → Prop} (hgd : o.guard = none) (s x : Operand)
    (ho : o.op = .call { callee := .builtin .append, args := #[s, x], argTypes := #[41, 41] })
    (g n cap : Nat) (l y : List Int) (hs : a.eval s = .slice (some ⟨g, 0, none⟩) n cap) (hn : n = l.length) (hrow : IRow w g cap l)
    (ao : Option Addr) (m c : Nat) (hx : a.eval x = .slice ao m c) (hm : m = y.length) (hrd : IRd w ao y) (hnone : ao = none → c = 0) (hsum : l.length + y.length ≤ cap)
    (h : ∀ w', IRow w' g cap (l ++ y) → w.grownBy w' (some g) → wpList Tryd.prog ops Q rest (a.put o.dst (.slice (some ⟨g, 0, none⟩) (n + m) cap)) w') :
    wpList Tryd.prog ops Q (o :: rest) a w := by
  obtain ⟨i0, hi, hz0, hz1, hz2⟩ := info_parts info64
  subst hn hm
  refine wpList_append_fits_any w hgd s x 41 ho g 3 i0 1 Tryd.underlying41 hi hz1 g l.length cap _ hs (hrow.owns (Nat.le_refl _)) ao y.length c (y.map (Value.int .i64)) hx (by simp) ?_ ?_ (ints_oneCell _ _) hsum ?_
  · intro e
    subst e
    refine ⟨?_, hnone rfl⟩
    cases y with
    | nil => rfl
    | cons z r => obtain ⟨_, _, e, _⟩ := hrd 0 (by simp); cases e
  · intro ad e
    subst e
    exact IRd.cells hrd
  · intro w' hown hgr
    rw [← List.map_append] at hown
    exact h w' (IRow.of hown).1 hgr

set_option maxRecDepth 100000 in
theorem ird_one (w : World) (z : Int) : IRd (w.alloc (.cells #[.int .i64 z] 3)) (some ⟨w.heap.size, 0, none⟩) [z] := by
  intro i hi
  have : i = 0 := by simpa using hi
  subst this
  exact ⟨_, _, rfl, by simp, by simp [World.cell?_alloc_at]⟩
set_option maxRecDepth 100000 in
theorem ird_two (w : World) (z y : Int) : IRd (w.alloc (.cells #[.int .i64 z, .int .i64 y] 3)) (some ⟨w.heap.size, 0, none⟩) [z, y] := by
  intro i hi
  have : i = 0 ∨ i = 1 := by simp at hi; omega
  rcases this with rfl | rfl
  · exact ⟨_, _, rfl, by simp, by simp [World.cell?_alloc_at]⟩
  · exact ⟨_, _, rfl, by simp, by simp [World.cell?_alloc_at]⟩
set_option maxRecDepth 100000 in
theorem irow_new (w : World) (z : List Int) (hz : z.length ≤ maxLen) : IRow (w.alloc (.cells (z.map (Value.int .i64)).toArray 3)) w.heap.size z.length z :=
  ⟨Nat.le_refl _, hz, _, heap_alloc_new w _, by simp, by simp [← List.map_take]⟩
set_option maxRecDepth 100000 in
theorem irow_alloc {w : World} {g cap : Nat} {l : List Int} (h : IRow w g cap l) (o : Obj) : IRow (w.alloc o) g cap l := h.keep (Below.heap_alloc w o g h.lt)
set_option maxRecDepth 100000 in
theorem ird_alloc {w : World} {a : Option Addr} {l : List Int} (h : IRd w a l) (o : Obj) : IRd (w.alloc o) a l := h.later ((Below.refl w.heap.size w).alloc (Nat.le_refl _) o) (Nat.le_refl _)

end Go.Proofs.YtpenhliaelhnoaaDoor.Blk

namespace Go.Proofs.YtpenhliaelhnoaaDoor.Zone
open Go.RowKit Go.Proofs.YtpenhliaelhnoaaDoor.Mem Go.Proofs.YtpenhliaelhnoaaDoor.Blk

/-- Of the blocks that were there, all outside of [lo, hi) are as they were. -/
structure Kept (lo hi : Nat) (w w' : World) : Prop where
  os : w'.os = w.os
  tape : w'.tape = w.tape
  output : w'.output = w.output
  size : w.heap.size ≤ w'.heap.size
  block : ∀ i, i < w.heap.size → (i < lo ∨ hi ≤ i) → w'.heap[i]? = w.heap[i]?

set_option maxRecDepth 100000 in
theorem Kept.of_below {w w' : World} (h : Below w.heap.size w w') (n : Nat) : Kept n n w w' := ⟨h.os, h.tape, h.output, h.size, fun i hi _ => h.block i hi⟩
set_option maxRecDepth 100000 in
theorem Kept.refl (lo hi : Nat) (w : World) : Kept lo hi w w := ⟨rfl, rfl, rfl, Nat.le_refl _, fun _ _ _ => rfl⟩
set_option maxRecDepth 100000 in
theorem Kept.of_grown {w w' : World} {g : Nat} (h : w.grownBy w' (some g)) : Kept g (g + 1) w w' := ⟨h.os, h.tape, h.output, h.size, fun i hi hg => h.block i hi (by simp only [ne_eq, Option.some.injEq]; omega)⟩
set_option maxRecDepth 100000 in
theorem Kept.trans {lo hi : Nat} {a b c : World} (h : Kept lo hi a b) (k : Kept lo hi b c) : Kept lo hi a c :=
  ⟨k.os.trans h.os, k.tape.trans h.tape, k.output.trans h.output, Nat.le_trans h.size k.size, fun i hi hg => (k.block i (Nat.lt_of_lt_of_le hi h.size) hg).trans (h.block i hi hg)⟩
set_option maxRecDepth 100000 in
theorem Kept.mono {lo hi lo' hi' : Nat} {a b : World} (h : Kept lo hi a b) (h1 : lo' ≤ lo) (h2 : hi ≤ hi') : Kept lo' hi' a b :=
  ⟨h.os, h.tape, h.output, h.size, fun i hi hg => h.block i hi (by omega)⟩
set_option maxRecDepth 100000 in
/-- Nothing at all was turned: any zone. -/
theorem Kept.any {n lo hi : Nat} {a b : World} (h : Kept n n a b) : Kept lo hi a b := ⟨h.os, h.tape, h.output, h.size, fun i hi _ => h.block i hi (by omega)⟩
set_option maxRecDepth 100000 in
theorem Kept.below {lo hi n : Nat} {a b : World} (h : Kept lo hi a b) (h1 : n ≤ lo) (h2 : n ≤ a.heap.size) : Below n a b := ⟨h.os, h.tape, h.output, h.size, fun i hi => h.block i (by omega) (by omega)⟩
set_option maxRecDepth 100000 in
theorem Kept.later {n : Nat} {a b : World} (h : Kept n n a b) : Below a.heap.size a b := ⟨h.os, h.tape, h.output, h.size, fun i hi => h.block i hi (by omega)⟩

set_option maxRecDepth 100000 in
theorem Kept.setCell (w : World) (g i : Nat) (v : Value) : Kept g (g + 1) w (w.setCell ⟨g, i, none⟩ v) :=
  ⟨rfl, rfl, rfl, by simp, fun k _ hk => Below.heap_setCell w _ v k (by show k ≠ g; omega)⟩

/-- A slice as a value. -/
structure Sl where
  a : Option Addr
  n : Nat
  c : Nat
def Sl.v (s : Sl) : Value := .slice s.a s.n s.c

/-- The slice reads as the bytes l. -/
structure SRd (w : World) (s : Sl) (l : List Int) : Prop where
  len : s.n = l.length
  rd : Rd w s.a l
  nil : s.a = none → s.c = 0
  cap : s.n ≤ s.c
  bytes : Bytes l

/-- The slice is none, or a row of its own in the zone [lo, hi). -/
def SOwn (w : World) (lo hi : Nat) (s : Sl) (l : List Int) : Prop :=
  Bytes l ∧ ((s = ⟨none, 0, 0⟩ ∧ l = []) ∨ ∃ g, s.a = some ⟨g, 0, none⟩ ∧ s.n = l.length ∧ lo ≤ g ∧ g < hi ∧ Row w g s.c l)

set_option maxRecDepth 100000 in
theorem SOwn.rd {w : World} {lo hi : Nat} {s : Sl} {l : List Int} (h : SOwn w lo hi s l) : SRd w s l := by
  obtain ⟨hb, h | ⟨g, h1, h2, h3, h4, h5⟩⟩ := h
  · obtain ⟨rfl, rfl⟩ := h
    exact ⟨rfl, (fun i hi => by cases hi), fun _ => rfl, Nat.le_refl _, hb⟩
  · exact ⟨h2, by rw [h1]; exact h5.rd, (fun e => by rw [h1] at e; cases e), by rw [h2]; exact h5.1, hb⟩
set_option maxRecDepth 100000 in
theorem SOwn.carry {w w' : World} {lo hi a b : Nat} {s : Sl} {l : List Int} (h : SOwn w lo hi s l) (k : Kept a b w w') (d : hi ≤ a ∨ b ≤ lo) : SOwn w' lo hi s l := by
  obtain ⟨hb, h | ⟨g, h1, h2, h3, h4, h5⟩⟩ := h
  · exact ⟨hb, .inl h⟩
  · exact ⟨hb, .inr ⟨g, h1, h2, h3, h4, h5.keep (k.block g h5.lt (by omega))⟩⟩
set_option maxRecDepth 100000 in
/-- A step that turns one slice's block alone leaves a slice apart from it. -/
theorem SOwn.carryNe {w w' : World} {lo hi : Nat} {s t : Sl} {l : List Int} (h : SOwn w lo hi t l) (k : ∀ i, s.a ≠ some ⟨i, 0, none⟩ → i < w.heap.size → w'.heap[i]? = w.heap[i]?) (d : s.a = none ∨ s.a ≠ t.a) : SOwn w' lo hi t l := by
  obtain ⟨hb, h | ⟨g, h1, h2, h3, h4, h5⟩⟩ := h
  · exact ⟨hb, .inl h⟩
  · refine ⟨hb, .inr ⟨g, h1, h2, h3, h4, h5.keep (k g ?_ h5.lt)⟩⟩
    rcases d with d | d
    · rw [d]; intro e; cases e
    · rw [← h1]; exact d
set_option maxRecDepth 100000 in
theorem SOwn.carryNe2 {w w' : World} {lo hi : Nat} {s t : Sl} {l : List Int} (h : SOwn w lo hi t l) (k : ∀ i, s.a ≠ some ⟨i, 0, none⟩ → i < w.heap.size → w'.heap[i]? = w.heap[i]?) (d : t.a = none ∨ t.a ≠ s.a) : SOwn w' lo hi t l := by
  obtain ⟨hb, h | ⟨g, h1, h2, h3, h4, h5⟩⟩ := h
  · exact ⟨hb, .inl h⟩
  · refine ⟨hb, .inr ⟨g, h1, h2, h3, h4, h5.keep (k g ?_ h5.lt)⟩⟩
    rcases d with d | d
    · rw [d] at h1; cases h1
    · rw [← h1]; exact Ne.symm d
set_option maxRecDepth 100000 in
theorem SOwn.len {w : World} {lo hi : Nat} {s : Sl} {l : List Int} (h : SOwn w lo hi s l) : s.n = l.length := h.rd.len
set_option maxRecDepth 100000 in
theorem SOwn.mono {w : World} {lo hi lo' hi' : Nat} {s : Sl} {l : List Int} (h : SOwn w lo hi s l) (h1 : lo' ≤ lo) (h2 : hi ≤ hi') : SOwn w lo' hi' s l := by
  obtain ⟨hb, h | ⟨g, q1, q2, q3, q4, q5⟩⟩ := h
  · exact ⟨hb, .inl h⟩
  · exact ⟨hb, .inr ⟨g, q1, q2, by omega, by omega, q5⟩⟩
set_option maxRecDepth 100000 in
theorem SOwn.nil (w : World) (lo hi : Nat) : SOwn w lo hi ⟨none, 0, 0⟩ [] := ⟨(fun z hz => by cases hz), .inl ⟨rfl, rfl⟩⟩
set_option maxRecDepth 100000 in
theorem SOwn.row {w : World} {lo hi g n c : Nat} {l : List Int} (h : Row w g c l) (hn : n = l.length) (hb : Bytes l) (h1 : lo ≤ g) (h2 : g < hi) : SOwn w lo hi ⟨some ⟨g, 0, none⟩, n, c⟩ l := ⟨hb, .inr ⟨g, rfl, hn, h1, h2, h⟩⟩
set_option maxRecDepth 100000 in
theorem SRd.later {w w' : World} {s : Sl} {l : List Int} (h : SRd w s l) (b : Below w.heap.size w w') : SRd w' s l := ⟨h.len, h.rd.later b (Nat.le_refl _), h.nil, h.cap, h.bytes⟩
set_option maxRecDepth 100000 in
theorem SRd.below {w w' : World} {s : Sl} {l : List Int} {n : Nat} (h : SRd w s l) (b : Below n w w') (hn : w.heap.size ≤ n) : SRd w' s l := h.later (b.mono hn)
end Go.Proofs.YtpenhliaelhnoaaDoor.Zone

namespace Go.Proofs.YtpenhliaelhnoaaDoor.DrN
open Go.RowKit Go.Proofs.YtpenhliaelhnoaaDoor.Mem Go.Proofs.YtpenhliaelhnoaaDoor.App Go.Proofs.YtpenhliaelhnoaaDoor.Blk Go.Proofs.YtpenhliaelhnoaaDoor.Zone Go.Proofs.YtpenhliaelhnoaaDoor.Draw

set_option maxRecDepth 100000 in
theorem rdyL {W0 : World} {a : Option Addr} {len cap : Nat} {l : List Int} {p : Nat} {w w' : World} (h : Ready W0 a len cap l p w) (b : Below w.heap.size w w') : Ready W0 a len cap l p w' :=
  ⟨h.hl, h.hr, h.hb, h.hlen, h.hB.trans (b.mono h.hB.size), h.hp, h.hc.keep (b.block p h.hc.lt)⟩
set_option maxRecDepth 100000 in
theorem butL {p : Nat} {a b c : World} (h : But p a b) (k : Below b.heap.size b c) : But p a c :=
  ⟨k.os.trans h.os, k.tape.trans h.tape, k.output.trans h.output, Nat.le_trans h.size k.size, fun i hi hne => (k.block i (Nat.lt_of_lt_of_le hi h.size)).trans (h.block i hi hne)⟩
set_option maxRecDepth 100000 in
theorem butK {p : Nat} {a b c : World} (h : But p a b) {lo hi : Nat} (k : Kept lo hi b c) (hl : a.heap.size ≤ lo) : But p a c :=
  ⟨k.os.trans h.os, k.tape.trans h.tape, k.output.trans h.output, Nat.le_trans h.size k.size, fun i hi hne => (k.block i (Nat.lt_of_lt_of_le hi h.size) (.inl (by omega))).trans (h.block i hi hne)⟩
set_option maxRecDepth 100000 in
theorem rdyK {W0 : World} {a : Option Addr} {len cap : Nat} {l : List Int} {p : Nat} {w w' : World} (h : Ready W0 a len cap l p w) {lo hi : Nat} (k : Kept lo hi w w') (hl : p < lo) : Ready W0 a len cap l p w' :=
  ⟨h.hl, h.hr, h.hb, h.hlen, h.hB.trans (k.below (by have := h.hp; omega) h.hB.size), h.hp, h.hc.keep (k.block p h.hc.lt (.inl hl))⟩
set_option maxRecDepth 100000 in
/-- The slice as it came in, ahead of the cursor. -/
theorem code {W0 : World} {a : Option Addr} {len cap : Nat} {l : List Int} {p : Nat} {w : World} (h : Ready W0 a len cap l p w) : Below W0.heap.size W0 w := h.hB
end Go.Proofs.YtpenhliaelhnoaaDoor.DrN

namespace Go.Proofs.YtpenhliaelhnoaaDoor.ZoneI
open Go.RowKit Go.Proofs.YtpenhliaelhnoaaDoor.Mem Go.Proofs.YtpenhliaelhnoaaDoor.MemI Go.Proofs.YtpenhliaelhnoaaDoor.Blk Go.Proofs.YtpenhliaelhnoaaDoor.Zone

/-- The slice reads as the ints l. -/
structure ISRd (w : World) (s : Sl) (l : List Int) : Prop where
  len : s.n = l.length
  rd : IRd w s.a l
  nil : s.a = none → s.c = 0
  cap : s.n ≤ s.c
/-- The slice is none, or a row of its own in the zone [lo, hi). -/
def ISOwn (w : World) (lo hi : Nat) (s : Sl) (l : List Int) : Prop :=
  (s = ⟨none, 0, 0⟩ ∧ l = []) ∨ ∃ g, s.a = some ⟨g, 0, none⟩ ∧ s.n = l.length ∧ lo ≤ g ∧ g < hi ∧ IRow w g s.c l
set_option maxRecDepth 100000 in
theorem ISOwn.rd {w : World} {lo hi : Nat} {s : Sl} {l : List Int} (h : ISOwn w lo hi s l) : ISRd w s l := by
  obtain h | ⟨g, h1, h2, h3, h4, h5⟩ := h
  · obtain ⟨rfl, rfl⟩ := h
    exact ⟨rfl, (fun i hi => by cases hi), fun _ => rfl, Nat.le_refl _⟩
  · exact ⟨h2, by rw [h1]; exact h5.rd, (fun e => by rw [h1] at e; cases e), by rw [h2]; exact h5.1⟩
set_option maxRecDepth 100000 in
theorem ISOwn.carry {w w' : World} {lo hi a b : Nat} {s : Sl} {l : List Int} (h : ISOwn w lo hi s l) (k : Kept a b w w') (d : hi ≤ a ∨ b ≤ lo) : ISOwn w' lo hi s l := by
  obtain h | ⟨g, h1, h2, h3, h4, h5⟩ := h
  · exact .inl h
  · exact .inr ⟨g, h1, h2, h3, h4, h5.keep (k.block g h5.lt (by omega))⟩
set_option maxRecDepth 100000 in
theorem ISOwn.later {w w' : World} {lo hi : Nat} {s : Sl} {l : List Int} (h : ISOwn w lo hi s l) (k : Below w.heap.size w w') : ISOwn w' lo hi s l := h.carry (Kept.of_below k hi) (.inl (Nat.le_refl _))
set_option maxRecDepth 100000 in
theorem ISOwn.len {w : World} {lo hi : Nat} {s : Sl} {l : List Int} (h : ISOwn w lo hi s l) : s.n = l.length := h.rd.len
set_option maxRecDepth 100000 in
theorem ISOwn.mono {w : World} {lo hi lo' hi' : Nat} {s : Sl} {l : List Int} (h : ISOwn w lo hi s l) (h1 : lo' ≤ lo) (h2 : hi ≤ hi') : ISOwn w lo' hi' s l := by
  obtain h | ⟨g, q1, q2, q3, q4, q5⟩ := h
  · exact .inl h
  · exact .inr ⟨g, q1, q2, by omega, by omega, q5⟩
set_option maxRecDepth 100000 in
theorem ISOwn.nil (w : World) (lo hi : Nat) : ISOwn w lo hi ⟨none, 0, 0⟩ [] := .inl ⟨rfl, rfl⟩
set_option maxRecDepth 100000 in
theorem ISOwn.row {w : World} {lo hi g n c : Nat} {l : List Int} (h : IRow w g c l) (hn : n = l.length) (h1 : lo ≤ g) (h2 : g < hi) : ISOwn w lo hi ⟨some ⟨g, 0, none⟩, n, c⟩ l := .inr ⟨g, rfl, hn, h1, h2, h⟩
set_option maxRecDepth 100000 in
theorem ISRd.later {w w' : World} {s : Sl} {l : List Int} (h : ISRd w s l) (b : Below w.heap.size w w') : ISRd w' s l := ⟨h.len, h.rd.later b (Nat.le_refl _), h.nil, h.cap⟩

end Go.Proofs.YtpenhliaelhnoaaDoor.ZoneI

namespace Go.Proofs.YtpenhliaelhnoaaDoor.Zone
open Go.RowKit Go.Proofs.YtpenhliaelhnoaaDoor.Mem
set_option maxRecDepth 100000 in
theorem SOwn.later {w w' : World} {lo hi : Nat} {s : Sl} {l : List Int} (h : SOwn w lo hi s l) (k : Below w.heap.size w w') : SOwn w' lo hi s l := h.carry (Kept.of_below k hi) (.inl (Nat.le_refl _))
end Go.Proofs.YtpenhliaelhnoaaDoor.Zone
namespace Go.Proofs.YtpenhliaelhnoaaDoor.Shp
open Go.RowKit Go.Proofs.YtpenhliaelhnoaaDoor.Mem Go.Proofs.YtpenhliaelhnoaaDoor.MemI Go.Proofs.YtpenhliaelhnoaaDoor.Zone Go.Proofs.YtpenhliaelhnoaaDoor.ZoneI
set_option maxRecDepth 100000 in
theorem row_cap {k : IntKind} {w : World} {a : Option Addr} {n c : Nat} {z : List Int} (h : IsRow k w a n c z) : n ≤ c := by
  rcases h with ⟨_, rfl, rfl, _⟩ | ⟨_, _, h, _⟩
  · exact Nat.le_refl _
  · exact h
set_option maxRecDepth 100000 in
theorem row_sl {w : World} {a : Option Addr} {n c : Nat} {z : List Int} (h : IsRow .u8 w a n c z) : ∃ l, SRd w ⟨a, n, c⟩ l := by
  obtain ⟨l, h1, h2, h3, h4⟩ := h.read
  exact ⟨l, h1, h2, h3, row_cap h, h4⟩
set_option maxRecDepth 100000 in
theorem row_isl {w : World} {a : Option Addr} {n c : Nat} {z : List Int} (h : IsRow .i64 w a n c z) : ∃ l, ISRd w ⟨a, n, c⟩ l := by
  obtain ⟨l, h1, h2, h3, _⟩ := readI h
  exact ⟨l, h1, h2, h3, row_cap h⟩
/-- A list of bytes in new memory. -/
def AnsB (l : List Int) (w : World) : Ending → World → Prop := fun e w' => ∃ S0 : Sl, e = .returned (.slice S0.a S0.n S0.c) ∧ SOwn w' w.heap.size w'.heap.size S0 l ∧ Below w.heap.size w w'
set_option maxRecDepth 100000 in
theorem AnsB.of {l : List Int} {w : World} {e : Ending} {w' : World} (hb : Bytes l) (h : ∃ g m cap, e = .returned (.slice (some ⟨g, 0, none⟩) m cap) ∧ m = l.length ∧ w.heap.size ≤ g ∧ Row w' g cap l ∧ Below w.heap.size w w') : AnsB l w e w' := by
  obtain ⟨g, m, c, h1, h2, h3, h4, h5⟩ := h
  exact ⟨⟨some ⟨g, 0, none⟩, m, c⟩, h1, SOwn.row h4 h2 hb h3 h4.lt, h5⟩
end Go.Proofs.YtpenhliaelhnoaaDoor.Shp

namespace Go.Proofs.YtpenhliaelhnoaaDoor.Res
open Go.RowKit Go.Proofs.YtpenhliaelhnoaaDoor.Blk

/-- One result. -/
def one (tmps : Array Value) : ResultVar → Sem Value
  | .tmp t => pure (tmps.getD t undef)
  | .cell a t => do loadVar t (← asAddr (tmps.getD a undef))
/-- Result r is v. -/
def Is (P : Program) (tmps : Array Value) (w : World) (r : ResultVar) (v : Value) : Prop := (one tmps r).run P w = .ok v w
set_option maxRecDepth 100000 in
theorem is_tmp {P : Program} {tmps : Array Value} {w : World} {t : Tmp} {v : Value} (h : tmps.getD t undef = v) : Is P tmps w (.tmp t) v := by
  show (pure (tmps.getD t undef) : Sem Value).run P w = _; rw [h]; rfl
/-- A type is a struct or an array of so many cells. -/
def aggB (P : Program) (ty : TypeId) (n : Nat) : Bool := (match P.underlying ty with | some (.struct _) | some (.array _ _) => true | _ => false) && (P.info? ty).map (·.size) == some n
set_option maxRecDepth 100000 in
theorem is_cell {P : Program} {tmps : Array Value} {w : World} {p : Tmp} {ty : TypeId} {g : Nat} {t : TypeId} {cs : List Value} (hp : tmps.getD p undef = .pointer (some ⟨g, 0, none⟩)) (hg : Blk w g t cs) (hu : aggB P ty cs.length = true) :
    Is P tmps w (.cell p ty) (.agg cs.toArray) := by
  unfold aggB at hu
  rw [Bool.and_eq_true, beq_iff_eq] at hu
  obtain ⟨h1, h2⟩ := hu
  show (do loadVar ty (← asAddr (tmps.getD p undef)) : Sem Value).run P w = _
  rw [hp]
  cases hd : P.underlying ty with
  | none => rw [hd] at h1; cases h1
  | some d =>
    rw [hd] at h1
    cases d with
    | struct fs => simp [asAddr, run_loadVar_row w g t ty cs.toArray (0, 0) (.struct fs) hg hd rfl (by simpa using h2)]
    | array n e => simp [asAddr, run_loadVar_row w g t ty cs.toArray (0, 0) (.array n e) hg hd rfl (by simpa using h2)]
    | _ => cases h1
set_option maxRecDepth 100000 in
theorem res1 {P : Program} {fn : Func} {tmps : Array Value} {w : World} {r0 : ResultVar} {v0 : Value} (h : fn.results = #[r0]) (h0 : Is P tmps w r0 v0) : (results fn tmps).run P w = .ok v0 w := by
  have e : results fn tmps = (do let vs ← fn.results.mapM (one tmps); pure (if h : vs.size = 1 then vs[0] else .tuple vs)) := rfl
  unfold Is at h0
  simp [e, h, h0]
set_option maxRecDepth 100000 in
theorem res2 {P : Program} {fn : Func} {tmps : Array Value} {w : World} {r0 r1 : ResultVar} {v0 v1 : Value} (h : fn.results = #[r0, r1]) (h0 : Is P tmps w r0 v0) (h1 : Is P tmps w r1 v1) : (results fn tmps).run P w = .ok (.tuple #[v0, v1]) w := by
  have e : results fn tmps = (do let vs ← fn.results.mapM (one tmps); pure (if h : vs.size = 1 then vs[0] else .tuple vs)) := rfl
  unfold Is at h0 h1
  simp [e, h, h0, h1]
set_option maxRecDepth 100000 in
theorem res3 {P : Program} {fn : Func} {tmps : Array Value} {w : World} {r0 r1 r2 : ResultVar} {v0 v1 v2 : Value} (h : fn.results = #[r0, r1, r2]) (h0 : Is P tmps w r0 v0) (h1 : Is P tmps w r1 v1) (h2 : Is P tmps w r2 v2) : (results fn tmps).run P w = .ok (.tuple #[v0, v1, v2]) w := by
  have e : results fn tmps = (do let vs ← fn.results.mapM (one tmps); pure (if h : vs.size = 1 then vs[0] else .tuple vs)) := rfl
  unfold Is at h0 h1 h2
  simp [e, h, h0, h1, h2]
set_option maxRecDepth 100000 in
theorem res4 {P : Program} {fn : Func} {tmps : Array Value} {w : World} {r0 r1 r2 r3 : ResultVar} {v0 v1 v2 v3 : Value} (h : fn.results = #[r0, r1, r2, r3]) (h0 : Is P tmps w r0 v0) (h1 : Is P tmps w r1 v1) (h2 : Is P tmps w r2 v2) (h3 : Is P tmps w r3 v3) : (results fn tmps).run P w = .ok (.tuple #[v0, v1, v2, v3]) w := by
  have e : results fn tmps = (do let vs ← fn.results.mapM (one tmps); pure (if h : vs.size = 1 then vs[0] else .tuple vs)) := rfl
  unfold Is at h0 h1 h2 h3
  simp [e, h, h0, h1, h2, h3]
end Go.Proofs.YtpenhliaelhnoaaDoor.Res

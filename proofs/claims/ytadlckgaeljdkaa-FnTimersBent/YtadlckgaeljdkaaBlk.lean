/-
  Blocks of the call's own whose cells are known one by one (arrays, structs), and appending to a row of ints that the call itself made.
-/
import Derived.Test.YtadlckgaeljdkaaMemI
import Derived.Test.YtadlckgaeljdkaaApp
import Derived.Laws.Rows
import Derived.Laws.Tables
import Derived.Deep.WholeRow
import Derived.Great.BuildSlice
namespace Go.Proofs.Ytadlckgaeljdkaa.Blk
open Go.RowKit Go.Proofs.Ytadlckgaeljdkaa.Mem Go.Proofs.Ytadlckgaeljdkaa.MemI

/-- Block g is of type t, free to write, and its cells are cs. -/
def Blk (w : World) (g : Nat) (t : TypeId) (cs : List Value) : Prop := w.heap[g]? = some (.cells cs.toArray t (0, 0))
set_option maxRecDepth 100000 in
theorem Blk.keep {w w' : World} {g : Nat} {t : TypeId} {cs : List Value} (h : Blk w g t cs) (e : w'.heap[g]? = w.heap[g]?) : Blk w' g t cs := e.trans h
set_option maxRecDepth 100000 in
theorem Blk.lt {w : World} {g : Nat} {t : TypeId} {cs : List Value} (h : Blk w g t cs) : g < w.heap.size := (Array.getElem?_eq_some_iff.1 h).1
set_option maxRecDepth 100000 in
theorem Blk.below {w w' : World} {g : Nat} {t : TypeId} {cs : List Value} (h : Blk w g t cs) {B : Nat} (b : Below B w w') (hg : g < B) : Blk w' g t cs := h.keep (b.block g hg)
set_option maxRecDepth 100000 in
theorem Blk.later {w w' : World} {g : Nat} {t : TypeId} {cs : List Value} (h : Blk w g t cs) (b : Below w.heap.size w w') : Blk w' g t cs := h.below b h.lt
set_option maxRecDepth 100000 in
theorem Blk.drewN {w : World} {g : Nat} {t : TypeId} {cs : List Value} (h : Blk w g t cs) (m : Nat) : Blk (w.drewN m) g t cs := h
set_option maxRecDepth 100000 in
theorem Blk.cell {w : World} {g : Nat} {t : TypeId} {cs : List Value} (h : Blk w g t cs) (i : Nat) {v : Value} (hv : cs[i]? = some v) : w.cell? ⟨g, i, none⟩ = some v := by
  rw [cell_of_row w g i cs.toArray t (0, 0) h]; simpa using hv
set_option maxRecDepth 100000 in
theorem Blk.frozen {w : World} {g : Nat} {t : TypeId} {cs : List Value} (h : Blk w g t cs) (i : Nat) : w.frozen? ⟨g, i, none⟩ = false := frozen_of_row w g i cs.toArray t h
set_option maxRecDepth 100000 in
theorem Blk.owns {w : World} {g : Nat} {t : TypeId} {cs : List Value} (h : Blk w g t cs) (hl : cs.length ≤ maxLen) : w.ownsRow g t 1 (.slice (some ⟨g, 0, none⟩) cs.length cs.length) cs.length cs :=
  ⟨by simp, .inr ⟨g, cs.length, cs.toArray, rfl, Nat.le_refl _, h, Nat.le_refl _, hl, by simp, by simp⟩⟩
set_option maxRecDepth 100000 in
theorem Blk.set {w : World} {g : Nat} {t : TypeId} {cs : List Value} (h : Blk w g t cs) (i : Nat) (v : Value) (hl : cs.length ≤ maxLen) : Blk (w.setCell ⟨g, i, none⟩ v) g t (cs.set i v) := by
  obtain ⟨h1, h2⟩ := (h.owns hl).stored i v
  obtain ⟨h0, h⟩ := h1
  rcases h with ⟨h, _⟩ | ⟨g', cap', cur, hv, hb, hg, h1, h2, h3, h4⟩
  · simp at h
  · simp only [Value.slice.injEq, Option.some.injEq, Addr.mk.injEq, and_true, true_and] at hv
    obtain ⟨rfl, rfl⟩ := hv
    have : cur = (cs.set i v).toArray := by
      apply Array.toList_inj.1
      rw [List.take_of_length_le (by rw [Array.length_toList]; omega)] at h4
      simpa using h4
    rw [this] at hg
    exact hg
set_option maxRecDepth 100000 in
theorem Blk.new (w : World) (t : TypeId) (cs : List Value) : Blk (w.alloc (.cells cs.toArray t)) w.heap.size t cs := heap_alloc_new w _
set_option maxRecDepth 100000 in
theorem Blk.alloc {w : World} {g : Nat} {t : TypeId} {cs : List Value} (h : Blk w g t cs) (o : Obj) : Blk (w.alloc o) g t cs := h.keep (Below.heap_alloc w o g h.lt)
set_option maxRecDepth 100000 in
theorem Blk.other {w : World} {g : Nat} {t : TypeId} {cs : List Value} (h : Blk w g t cs) {a : Addr} (ne : g ≠ a.block) (v : Value) : Blk (w.setCell a v) g t cs := h.keep (Below.heap_setCell w a v g ne)
set_option maxRecDepth 100000 in
theorem Blk.rd {w : World} {g : Nat} {t : TypeId} {l : List Int} {r : List Value} (h : Blk w g t (l.map (Value.int .i64) ++ r)) : IRd w (some ⟨g, 0, none⟩) l := fun i hi =>
  ⟨g, 0, rfl, h.lt, by rw [Nat.zero_add]; exact h.cell i (by simp [List.getElem?_append, hi, List.getD])⟩
set_option maxRecDepth 100000 in
theorem Blk.int {w : World} {g : Nat} {t : TypeId} {l : List Int} {r : List Value} (h : Blk w g t (l.map (Value.int .i64) ++ r)) (i : Nat) (hi : i < l.length) : w.cell? ⟨g, i, none⟩ = some (.int .i64 (l.getD i 0)) :=
  h.cell i (by simp [List.getElem?_append, hi, List.getD])
set_option maxRecDepth 100000 in
theorem set_ints (l : List Int) (r : List Value) (i : Nat) (z : Int) (hi : i < l.length) : (l.map (Value.int .i64) ++ r).set i (.int .i64 z) = (l.set i z).map (Value.int .i64) ++ r := by
  rw [List.set_append, if_pos (by simpa using hi), List.map_set]
set_option maxRecDepth 100000 in
theorem below_drewN {B : Nat} {a w : World} (h : Below B a w) (m : Nat) : Below B a (w.drewN m) := ⟨h.os, h.tape, h.output, h.size, h.block⟩
set_option maxRecDepth 100000 in
theorem Rd.drewN {w : World} {a : Option Addr} {l : List Int} (h : Rd w a l) (m : Nat) : Rd (w.drewN m) a l := h.later (below_drewN (Below.refl w.heap.size w) m) (Nat.le_refl _)
set_option maxRecDepth 100000 in
theorem IRd.drewN {w : World} {a : Option Addr} {l : List Int} (h : IRd w a l) (m : Nat) : IRd (w.drewN m) a l := h.later (below_drewN (Below.refl w.heap.size w) m) (Nat.le_refl _)

set_option maxRecDepth 100000 in
theorem IRd.cells {w : World} {ad : Addr} {y : List Int} (h : IRd w (some ad) y) : ∀ j u, (y.map (Value.int .i64))[j]? = some u → w.cell? (ad.add j) = some u := by
  intro j u hu
  have hj : j < y.length := by
    have := (List.getElem?_eq_some_iff.1 hu).1
    simpa using this
  obtain ⟨b, off, e, _, hc⟩ := h j hj
  obtain rfl := Option.some.inj e
  rw [Addr.add_lit, hc]
  simpa [List.getD, hj] using hu

set_option maxRecDepth 100000 in
theorem iwpList_app (w : World) {ops : Array Oper} {rest : List Oper} {o : Oper} {a : Act} {Q : Exit → Act → World → Prop} (hgd : o.guard = none) (s x : Operand)
    (ho : o.op = .call { callee := .builtin .append, args := #[s, x], argTypes := #[43, 43] })
    (base g n cap : Nat) (l y : List Int) (hs : a.eval s = .slice (some ⟨g, 0, none⟩) n cap) (hn : n = l.length) (hrow : IRow w g cap l) (hbg : base ≤ g)
    (ao : Option Addr) (m c : Nat) (hx : a.eval x = .slice ao m c) (hm : m = y.length) (hrd : IRd w ao y) (hnone : ao = none → c = 0) (hsum : l.length + y.length ≤ 100000000)
    (h : ∀ g' cap' w', IRow w' g' cap' (l ++ y) → base ≤ g' → g' < w'.heap.size → w.grownBy w' (some g) → wpList Try.prog ops Q rest (a.put o.dst (.slice (some ⟨g', 0, none⟩) (n + m) cap')) w') :
    wpList Try.prog ops Q (o :: rest) a w := by
  obtain ⟨i0, hi, hz0, hz1, hz2⟩ := info_parts info64
  subst hn hm
  have hlt := hrow.lt
  cases ao with
  | none =>
    have hy : y = [] := by
      cases y with
      | nil => rfl
      | cons z r => obtain ⟨_, _, e, _⟩ := hrd 0 (by simp); cases e
    subst hy
    have hc0 := hnone rfl
    subst hc0
    refine wpList_append_own_none hgd s x 43 ho base 3 i0 1 Try.underlying43 hi _ _ _ hs (hrow.owns hbg) hx ?_
    simpa using h g cap w (by simpa using hrow) hbg hlt (World.grownBy.refl _ _)
  | some ad =>
    refine wpList_append_own w hgd s x 43 ho base 3 i0 (.int .i64 0) 1 8 Try.underlying43 hi hz0 hz1 hz2 rfl (by decide) _ _ _ hs (hrow.owns hbg) ad y.length c (y.map (Value.int .i64)) hx (by simp) (IRd.cells hrd) (ints_oneCell _ _) (by unfold maxLen; omega) (by omega) (by omega) ?_
    intro v' w' hown hgr hiff
    rcases hown.2 with ⟨hv, _⟩ | ⟨g', cap', cur, rfl, hb, hg', _⟩
    · exact absurd (hiff.1 hv).1 (by simp)
    · rw [← List.map_append] at hown
      obtain ⟨r1, r2, _, r4⟩ := IRow.of hown
      exact h g' cap' w' r1 r2 r4 hgr

set_option maxRecDepth 100000 in
theorem iwpList_fit (w : World) {ops : Array Oper} {rest : List Oper} {o : Oper} {a : Act} {Q : Exit → Act → World → Prop} (hgd : o.guard = none) (s x : Operand)
    (ho : o.op = .call { callee := .builtin .append, args := #[s, x], argTypes := #[43, 43] })
    (g n cap : Nat) (l y : List Int) (hs : a.eval s = .slice (some ⟨g, 0, none⟩) n cap) (hn : n = l.length) (hrow : IRow w g cap l)
    (ao : Option Addr) (m c : Nat) (hx : a.eval x = .slice ao m c) (hm : m = y.length) (hrd : IRd w ao y) (hnone : ao = none → c = 0) (hsum : l.length + y.length ≤ cap)
    (h : ∀ w', IRow w' g cap (l ++ y) → w.grownBy w' (some g) → wpList Try.prog ops Q rest (a.put o.dst (.slice (some ⟨g, 0, none⟩) (n + m) cap)) w') :
    wpList Try.prog ops Q (o :: rest) a w := by
  obtain ⟨i0, hi, hz0, hz1, hz2⟩ := info_parts info64
  subst hn hm
  refine wpList_append_fits_any w hgd s x 43 ho g 3 i0 1 Try.underlying43 hi hz1 g l.length cap _ hs (hrow.owns (Nat.le_refl _)) ao y.length c (y.map (Value.int .i64)) hx (by simp) ?_ ?_ (ints_oneCell _ _) hsum ?_
  · intro e
    subst e
    refine ⟨?_, hnone rfl⟩
    cases y with
    | nil => rfl
    | cons z r => obtain ⟨_, _, e, _⟩ := hrd 0 (by simp); cases e
  · intro ad e
    subst e
    exact IRd.cells hrd
  · intro w' hown hgr
    rw [← List.map_append] at hown
    exact h w' (IRow.of hown).1 hgr

set_option maxRecDepth 100000 in
theorem ird_one (w : World) (z : Int) : IRd (w.alloc (.cells #[.int .i64 z] 3)) (some ⟨w.heap.size, 0, none⟩) [z] := by
  intro i hi
  have : i = 0 := by simpa using hi
  subst this
  exact ⟨_, _, rfl, by simp, by simp [World.cell?_alloc_at]⟩
set_option maxRecDepth 100000 in
theorem ird_two (w : World) (z y : Int) : IRd (w.alloc (.cells #[.int .i64 z, .int .i64 y] 3)) (some ⟨w.heap.size, 0, none⟩) [z, y] := by
  intro i hi
  have : i = 0 ∨ i = 1 := by simp at hi; omega
  rcases this with rfl | rfl
  · exact ⟨_, _, rfl, by simp, by simp [World.cell?_alloc_at]⟩
  · exact ⟨_, _, rfl, by simp, by simp [World.cell?_alloc_at]⟩
set_option maxRecDepth 100000 in
theorem irow_new (w : World) (z : List Int) (hz : z.length ≤ maxLen) : IRow (w.alloc (.cells (z.map (Value.int .i64)).toArray 3)) w.heap.size z.length z :=
  ⟨Nat.le_refl _, hz, _, heap_alloc_new w _, by simp, by simp [← List.map_take]⟩
set_option maxRecDepth 100000 in
theorem irow_alloc {w : World} {g cap : Nat} {l : List Int} (h : IRow w g cap l) (o : Obj) : IRow (w.alloc o) g cap l := h.keep (Below.heap_alloc w o g h.lt)
set_option maxRecDepth 100000 in
theorem ird_alloc {w : World} {a : Option Addr} {l : List Int} (h : IRd w a l) (o : Obj) : IRd (w.alloc o) a l := h.later ((Below.refl w.heap.size w).alloc (Nat.le_refl _) o) (Nat.le_refl _)

end Go.Proofs.Ytadlckgaeljdkaa.Blk

/-
  Slices of ints as rows of numbers, and what the laws' own four helpers on them do: copy, compare, mark, and look for imarks. Each contract asks that the slice is read as the list that it names, and a length of at most 4,194,304.
-/
import Derived.Test.YtadlckgaeljdkaaMem
namespace Go.Proofs.Ytadlckgaeljdkaa.MemI
open Go.RowKit Go.Proofs.Ytadlckgaeljdkaa.Mem

set_option maxRecDepth 100000 in
theorem info64 : (Try.prog.info? 3).map (fun i => (i.zero, i.size, i.bytes)) = some (some (.int .i64 0), 1, 8) := by kernel_rfl

/-- Every number is a byte. -/
def Ints (l : List Int) : Prop := ∀ z ∈ l, -9223372036854775808 ≤ z ∧ z ≤ 9223372036854775807
set_option maxRecDepth 100000 in
theorem Ints.at {l : List Int} (h : Ints l) (i : Nat) : -9223372036854775808 ≤ l.getD i 0 ∧ l.getD i 0 ≤ 9223372036854775807 := by
  by_cases hi : i < l.length
  · simpa [List.getD, hi] using h _ (List.getElem_mem hi)
  · simp [List.getD, List.getElem?_eq_none (Nat.le_of_not_lt hi)]

/-- The cells from an address on hold the numbers l. -/
def IRd (w : World) (a : Option Addr) (l : List Int) : Prop :=
  ∀ i, i < l.length → ∃ b off, a = some ⟨b, off, none⟩ ∧ b < w.heap.size ∧ w.cell? ⟨b, off + i, none⟩ = some (.int .i64 (l.getD i 0))

/-- Block g is a row of cap bytes, free to write, the first of them l. -/
def IRow (w : World) (g cap : Nat) (l : List Int) : Prop :=
  l.length ≤ cap ∧ cap ≤ maxLen ∧ ∃ cur, w.heap[g]? = some (.cells cur 3 (0, 0)) ∧ cur.size = cap ∧ cur.toList.take l.length = l.map (Value.int .i64)

set_option maxRecDepth 100000 in
theorem IRow.owns {w : World} {g cap : Nat} {l : List Int} (h : IRow w g cap l) {base : Nat} (hb : base ≤ g) : w.ownsRow base 3 1 (.slice (some ⟨g, 0, none⟩) l.length cap) l.length (l.map (Value.int .i64)) := by
  obtain ⟨h1, h2, cur, h3, h4, h5⟩ := h
  exact ⟨by simp, .inr ⟨g, cap, cur, rfl, hb, h3, h1, h2, by omega, by simpa using h5⟩⟩
set_option maxRecDepth 100000 in
theorem IRow.of {w : World} {base g n cap : Nat} {l : List Int} (h : w.ownsRow base 3 1 (.slice (some ⟨g, 0, none⟩) n cap) n (l.map (Value.int .i64))) : IRow w g cap l ∧ base ≤ g ∧ n = l.length ∧ g < w.heap.size := by
  obtain ⟨h0, h⟩ := h
  have hn : n = l.length := by simpa using h0.symm
  subst hn
  rcases h with ⟨h, _⟩ | ⟨g', cap', cur, hv, hb, hg, h1, h2, h3, h4⟩
  · simp at h
  · simp only [Value.slice.injEq, Option.some.injEq, Addr.mk.injEq, and_true, true_and] at hv
    obtain ⟨rfl, rfl⟩ := hv
    exact ⟨⟨h1, h2, cur, hg, by omega, by simpa using h4⟩, hb, rfl, (Array.getElem?_eq_some_iff.1 hg).1⟩
set_option maxRecDepth 100000 in
theorem IRow.keep {w w' : World} {g cap : Nat} {l : List Int} (h : IRow w g cap l) (e : w'.heap[g]? = w.heap[g]?) : IRow w' g cap l := by
  obtain ⟨h1, h2, cur, h3, h4⟩ := h
  exact ⟨h1, h2, cur, e.trans h3, h4⟩
set_option maxRecDepth 100000 in
theorem IRow.lt {w : World} {g cap : Nat} {l : List Int} (h : IRow w g cap l) : g < w.heap.size := by
  obtain ⟨_, _, cur, h3, _⟩ := h
  exact (Array.getElem?_eq_some_iff.1 h3).1
set_option maxRecDepth 100000 in
theorem IRow.below {w w' : World} {g cap : Nat} {l : List Int} (h : IRow w g cap l) {B : Nat} (b : Below B w w') (hg : g < B) : IRow w' g cap l := h.keep (b.block g hg)
set_option maxRecDepth 100000 in
theorem IRow.later {w w' : World} {g cap : Nat} {l : List Int} (h : IRow w g cap l) (b : Below w.heap.size w w') : IRow w' g cap l := h.below b h.lt
set_option maxRecDepth 100000 in
theorem IRow.cell {w : World} {g cap : Nat} {l : List Int} (h : IRow w g cap l) (i : Nat) (hi : i < l.length) : w.cell? ⟨g, i, none⟩ = some (.int .i64 (l.getD i 0)) := by
  have := (h.owns (Nat.zero_le g)).cellAt i (by omega)
  rw [this]
  simp [List.getD, hi]
set_option maxRecDepth 100000 in
theorem IRow.rd {w : World} {g cap : Nat} {l : List Int} (h : IRow w g cap l) : IRd w (some ⟨g, 0, none⟩) l := fun i hi =>
  ⟨g, 0, rfl, h.lt, by rw [Nat.zero_add]; exact h.cell i hi⟩
set_option maxRecDepth 100000 in
theorem IRd.later {w w' : World} {a : Option Addr} {l : List Int} (h : IRd w a l) {B : Nat} (b : Below B w w') (hB : w.heap.size ≤ B) : IRd w' a l := by
  intro i hi
  obtain ⟨x, off, rfl, h1, h2⟩ := h i hi
  exact ⟨x, off, rfl, Nat.lt_of_lt_of_le h1 b.size, by rw [b.cell (Nat.lt_of_lt_of_le h1 hB)]; exact h2⟩

set_option maxRecDepth 100000 in
theorem readI {w : World} {a : Option Addr} {len cap : Nat} {zs : List Int} (h : IsRow .i64 w a len cap zs) :
    ∃ l, len = l.length ∧ IRd w a l ∧ (a = none → cap = 0) ∧ Ints l := by
  rcases h with ⟨rfl, rfl, rfl, rfl⟩ | ⟨x, rfl, h1, h2, h3, h4, h5⟩
  · exact ⟨[], rfl, (fun i hi => by cases hi), (fun _ => rfl), (fun z hz => by cases hz)⟩
  · refine ⟨zs.take len, by simp; omega, ?_, (fun h => by cases h), ?_⟩
    · intro i hi
      have hi' : i < len := by simp at hi; omega
      have hc := h4 i (by omega)
      have hc0 := h4 0 (by omega)
      obtain ⟨b, off, spot⟩ := x
      have hspot : spot = none := by simpa [Addr.add] using World.cell?_spot hc0
      subst hspot
      rw [Addr.add_lit] at hc
      refine ⟨b, off, rfl, World.block_lt_of_cell? w _ hc, ?_⟩
      have e : (zs.take len).getD i 0 = zs.getD i 0 := by simp [List.getD, hi']
      rw [e]
      exact hc
    · intro z hz
      have := h5 z (List.mem_of_mem_take hz)
      simpa [Lit.wf, IntKind.min, IntKind.max, IntKind.signed, IntKind.bits] using this

/-- The imarks that are laid from k on: n of them. -/
def imarks (k : Int) (n : Nat) : List Int := (List.range n).map fun i : Nat => k + (i : Int)
set_option maxRecDepth 100000 in
theorem imarks_length (k : Int) (n : Nat) : (imarks k n).length = n := by simp [imarks]
set_option maxRecDepth 100000 in
theorem imarks_getD (k : Int) (n i : Nat) (h : i < n) : (imarks k n).getD i 0 = k + (i : Int) := by
  simp [imarks, List.getD, h]
set_option maxRecDepth 100000 in
theorem iset_mark (l : List Int) (q : Int) (k : Nat) (hk : k < l.length) :
    (imarks q k ++ l.drop k).set k (q + (k : Int)) = imarks q (k + 1) ++ l.drop (k + 1) := by
  rw [List.set_append, if_neg (by rw [imarks_length]; omega), imarks_length, Nat.sub_self, List.drop_eq_getElem_cons hk, List.set_cons_zero]
  simp [imarks, List.range_succ]

end Go.Proofs.Ytadlckgaeljdkaa.MemI

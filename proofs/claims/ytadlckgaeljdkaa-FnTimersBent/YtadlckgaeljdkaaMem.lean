/-
  Slices of bytes as rows of numbers, and what the laws' own four helpers on them do: copy, compare, mark, and look for marks. Each contract asks that the slice is read as the list that it names, and a length of at most 4,194,304.
-/
import Derived.Test.YtadlckgaeljdkaaProg
import Derived.WalkKit
import Derived.KernelRfl
import Derived.WalkLawsBesides
import Derived.Deep.QuietTactic
import Derived.BigQuiet
namespace Go.Proofs.Ytadlckgaeljdkaa.Mem
open Go.RowKit

set_option maxRecDepth 100000 in
theorem info8 : (Try.prog.info? 5).map (fun i => (i.zero, i.size, i.bytes)) = some (some (.int .u8 0), 1, 1) := by kernel_rfl

/-- Every number is a byte. -/
def Bytes (l : List Int) : Prop := ∀ z ∈ l, 0 ≤ z ∧ z ≤ 255
set_option maxRecDepth 100000 in
theorem Bytes.at {l : List Int} (h : Bytes l) (i : Nat) : 0 ≤ l.getD i 0 ∧ l.getD i 0 ≤ 255 := by
  by_cases hi : i < l.length
  · simpa [List.getD, hi] using h _ (List.getElem_mem hi)
  · simp [List.getD, List.getElem?_eq_none (Nat.le_of_not_lt hi)]

/-- The cells from an address on hold the numbers l. -/
def Rd (w : World) (a : Option Addr) (l : List Int) : Prop :=
  ∀ i, i < l.length → ∃ b off, a = some ⟨b, off, none⟩ ∧ b < w.heap.size ∧ w.cell? ⟨b, off + i, none⟩ = some (.int .u8 (l.getD i 0))

/-- Block g is a row of cap bytes, free to write, the first of them l. -/
def Row (w : World) (g cap : Nat) (l : List Int) : Prop :=
  l.length ≤ cap ∧ cap ≤ maxLen ∧ ∃ cur, w.heap[g]? = some (.cells cur 5 (0, 0)) ∧ cur.size = cap ∧ cur.toList.take l.length = l.map (Value.int .u8)

set_option maxRecDepth 100000 in
theorem Row.owns {w : World} {g cap : Nat} {l : List Int} (h : Row w g cap l) {base : Nat} (hb : base ≤ g) : w.ownsRow base 5 1 (.slice (some ⟨g, 0, none⟩) l.length cap) l.length (l.map (Value.int .u8)) := by
  obtain ⟨h1, h2, cur, h3, h4, h5⟩ := h
  exact ⟨by simp, .inr ⟨g, cap, cur, rfl, hb, h3, h1, h2, by omega, by simpa using h5⟩⟩
set_option maxRecDepth 100000 in
theorem Row.of {w : World} {base g n cap : Nat} {l : List Int} (h : w.ownsRow base 5 1 (.slice (some ⟨g, 0, none⟩) n cap) n (l.map (Value.int .u8))) : Row w g cap l ∧ base ≤ g ∧ n = l.length ∧ g < w.heap.size := by
  obtain ⟨h0, h⟩ := h
  have hn : n = l.length := by simpa using h0.symm
  subst hn
  rcases h with ⟨h, _⟩ | ⟨g', cap', cur, hv, hb, hg, h1, h2, h3, h4⟩
  · simp at h
  · simp only [Value.slice.injEq, Option.some.injEq, Addr.mk.injEq, and_true, true_and] at hv
    obtain ⟨rfl, rfl⟩ := hv
    exact ⟨⟨h1, h2, cur, hg, by omega, by simpa using h4⟩, hb, rfl, (Array.getElem?_eq_some_iff.1 hg).1⟩
set_option maxRecDepth 100000 in
theorem Row.keep {w w' : World} {g cap : Nat} {l : List Int} (h : Row w g cap l) (e : w'.heap[g]? = w.heap[g]?) : Row w' g cap l := by
  obtain ⟨h1, h2, cur, h3, h4⟩ := h
  exact ⟨h1, h2, cur, e.trans h3, h4⟩
set_option maxRecDepth 100000 in
theorem Row.lt {w : World} {g cap : Nat} {l : List Int} (h : Row w g cap l) : g < w.heap.size := by
  obtain ⟨_, _, cur, h3, _⟩ := h
  exact (Array.getElem?_eq_some_iff.1 h3).1
set_option maxRecDepth 100000 in
theorem Row.below {w w' : World} {g cap : Nat} {l : List Int} (h : Row w g cap l) {B : Nat} (b : Below B w w') (hg : g < B) : Row w' g cap l := h.keep (b.block g hg)
set_option maxRecDepth 100000 in
theorem Row.later {w w' : World} {g cap : Nat} {l : List Int} (h : Row w g cap l) (b : Below w.heap.size w w') : Row w' g cap l := h.below b h.lt
set_option maxRecDepth 100000 in
theorem Row.cell {w : World} {g cap : Nat} {l : List Int} (h : Row w g cap l) (i : Nat) (hi : i < l.length) : w.cell? ⟨g, i, none⟩ = some (.int .u8 (l.getD i 0)) := by
  have := (h.owns (Nat.zero_le g)).cellAt i (by omega)
  rw [this]
  simp [List.getD, hi]
set_option maxRecDepth 100000 in
theorem Row.rd {w : World} {g cap : Nat} {l : List Int} (h : Row w g cap l) : Rd w (some ⟨g, 0, none⟩) l := fun i hi =>
  ⟨g, 0, rfl, h.lt, by rw [Nat.zero_add]; exact h.cell i hi⟩
set_option maxRecDepth 100000 in
theorem Rd.later {w w' : World} {a : Option Addr} {l : List Int} (h : Rd w a l) {B : Nat} (b : Below B w w') (hB : w.heap.size ≤ B) : Rd w' a l := by
  intro i hi
  obtain ⟨x, off, rfl, h1, h2⟩ := h i hi
  exact ⟨x, off, rfl, Nat.lt_of_lt_of_le h1 b.size, by rw [b.cell (Nat.lt_of_lt_of_le h1 hB)]; exact h2⟩

/-- What the frame of a law's proof says of a slice that came in. -/
def IsRow (k : IntKind) (w : World) (a : Option Addr) (len cap : Nat) (zs : List Int) : Prop :=
  (a = none ∧ len = 0 ∧ cap = 0 ∧ zs = []) ∨
  ∃ x, a = some x ∧ len ≤ cap ∧ cap ≤ maxLen ∧ zs.length = cap ∧ (∀ i, i < zs.length → w.cell? (x.add i) = some (.int k (zs.getD i 0))) ∧ ∀ n ∈ zs, (Lit.int k n).wf = true
set_option maxRecDepth 100000 in
theorem IsRow.read {w : World} {a : Option Addr} {len cap : Nat} {zs : List Int} (h : IsRow .u8 w a len cap zs) :
    ∃ l, len = l.length ∧ Rd w a l ∧ (a = none → cap = 0) ∧ Bytes l := by
  rcases h with ⟨rfl, rfl, rfl, rfl⟩ | ⟨x, rfl, h1, h2, h3, h4, h5⟩
  · exact ⟨[], rfl, (fun i hi => by cases hi), (fun _ => rfl), (fun z hz => by cases hz)⟩
  · refine ⟨zs.take len, by simp; omega, ?_, (fun h => by cases h), ?_⟩
    · intro i hi
      have hi' : i < len := by simp at hi; omega
      have hc := h4 i (by omega)
      have hc0 := h4 0 (by omega)
      obtain ⟨b, off, spot⟩ := x
      have hspot : spot = none := by simpa [Addr.add] using World.cell?_spot hc0
      subst hspot
      rw [Addr.add_lit] at hc
      refine ⟨b, off, rfl, World.block_lt_of_cell? w _ hc, ?_⟩
      have e : (zs.take len).getD i 0 = zs.getD i 0 := by simp [List.getD, hi']
      rw [e]
      exact hc
    · intro z hz
      have := h5 z (List.mem_of_mem_take hz)
      simpa [Lit.wf, IntKind.min, IntKind.max, IntKind.signed, IntKind.bits] using this

set_option maxRecDepth 100000 in
theorem i64_bd {a : Int} (h : (Lit.int .i64 a).wf = true) : -9223372036854775808 ≤ a ∧ a ≤ 9223372036854775807 := by
  simpa [Lit.wf, IntKind.min, IntKind.max, IntKind.signed, IntKind.bits] using h

set_option maxRecDepth 100000 in
theorem set_mid (l : List Int) (k : Nat) (hk : k < l.length) :
    (l.take k ++ List.replicate (l.length - k) 0).set k (l.getD k 0) = l.take (k + 1) ++ List.replicate (l.length - (k + 1)) 0 := by
  apply List.ext_getElem?
  intro j
  simp only [List.getElem?_set, List.getElem?_append, List.length_take, List.getElem?_take, List.getElem?_replicate, List.length_append, List.length_replicate, List.getD]
  repeat' split
  all_goals first | omega | rfl | (simp_all; done) | skip
  all_goals simp_all
  all_goals omega

set_option maxRecDepth 100000 in
theorem grown_trans {a b c : World} {row : Option Nat} (h : a.grownBy b row) (k : b.grownBy c row) : a.grownBy c row :=
  ⟨k.os.trans h.os, k.tape.trans h.tape, k.output.trans h.output, Nat.le_trans h.size k.size, fun i hi hne => (k.block i (Nat.lt_of_lt_of_le hi h.size) hne).trans (h.block i hi hne)⟩

set_option maxRecDepth 100000 in
theorem take_eq_succ {x y : List Int} {k : Nat} (hx : k < x.length) (hy : k < y.length) (h : x.take k = y.take k) (he : x.getD k 0 = y.getD k 0) : x.take (k + 1) = y.take (k + 1) := by
  rw [List.take_succ_eq_append_getElem hx, List.take_succ_eq_append_getElem hy, h]
  simp only [List.getD, List.getElem?_eq_getElem hx, List.getElem?_eq_getElem hy, Option.getD_some] at he
  rw [he]
set_option maxRecDepth 100000 in
theorem dec_eq {x y : List Int} {k : Nat} (hx : ¬ k < x.length) (hl : x.length = y.length) (h : x.take k = y.take k) : decide (x = y) = true := by
  rw [List.take_of_length_le (by omega), List.take_of_length_le (by omega)] at h
  simp [h]
set_option maxRecDepth 100000 in
theorem dec_ne {x y : List Int} {k : Nat} (h : ¬ x.getD k 0 = y.getD k 0) : decide (x = y) = false := by
  simp only [decide_eq_false_iff_not]; rintro rfl; exact h rfl

/-- The marks that are laid from k on: n of them. -/
def marks (k : Int) (n : Nat) : List Int := (List.range n).map fun i : Nat => (k + (i : Int)) % 256
set_option maxRecDepth 100000 in
theorem marks_length (k : Int) (n : Nat) : (marks k n).length = n := by simp [marks]
set_option maxRecDepth 100000 in
theorem marks_getD (k : Int) (n i : Nat) (h : i < n) : (marks k n).getD i 0 = (k + (i : Int)) % 256 := by
  simp [marks, List.getD, h]
set_option maxRecDepth 100000 in
theorem marks_bytes (k : Int) (n : Nat) : Bytes (marks k n) := by
  intro z hz
  simp only [marks, List.mem_map] at hz
  obtain ⟨i, _, rfl⟩ := hz
  omega
set_option maxRecDepth 100000 in
theorem set_mark (l : List Int) (q : Int) (k : Nat) (hk : k < l.length) :
    (marks q k ++ l.drop k).set k ((q + (k : Int)) % 256) = marks q (k + 1) ++ l.drop (k + 1) := by
  rw [List.set_append, if_neg (by rw [marks_length]; omega), marks_length, Nat.sub_self, List.drop_eq_getElem_cons hk, List.set_cons_zero]
  simp [marks, List.range_succ]

end Go.Proofs.Ytadlckgaeljdkaa.Mem

/-
  Memory in zones: a step keeps all blocks outside of a zone; what lies in a zone is carried over steps that keep it.
-/
import Derived.Test.YtadlckgaeljdkaaMem
import Derived.Test.YtadlckgaeljdkaaBlk
namespace Go.Proofs.Ytadlckgaeljdkaa.Zone
open Go.RowKit Go.Proofs.Ytadlckgaeljdkaa.Mem Go.Proofs.Ytadlckgaeljdkaa.Blk

/-- Of the blocks that were there, all outside of [lo, hi) are as they were. -/
structure Kept (lo hi : Nat) (w w' : World) : Prop where
  os : w'.os = w.os
  tape : w'.tape = w.tape
  output : w'.output = w.output
  size : w.heap.size ≤ w'.heap.size
  block : ∀ i, i < w.heap.size → (i < lo ∨ hi ≤ i) → w'.heap[i]? = w.heap[i]?

set_option maxRecDepth 100000 in
theorem Kept.of_below {w w' : World} (h : Below w.heap.size w w') (n : Nat) : Kept n n w w' := ⟨h.os, h.tape, h.output, h.size, fun i hi _ => h.block i hi⟩
set_option maxRecDepth 100000 in
theorem Kept.refl (lo hi : Nat) (w : World) : Kept lo hi w w := ⟨rfl, rfl, rfl, Nat.le_refl _, fun _ _ _ => rfl⟩
set_option maxRecDepth 100000 in
theorem Kept.of_grown {w w' : World} {g : Nat} (h : w.grownBy w' (some g)) : Kept g (g + 1) w w' := ⟨h.os, h.tape, h.output, h.size, fun i hi hg => h.block i hi (by simp only [ne_eq, Option.some.injEq]; omega)⟩
set_option maxRecDepth 100000 in
theorem Kept.trans {lo hi : Nat} {a b c : World} (h : Kept lo hi a b) (k : Kept lo hi b c) : Kept lo hi a c :=
  ⟨k.os.trans h.os, k.tape.trans h.tape, k.output.trans h.output, Nat.le_trans h.size k.size, fun i hi hg => (k.block i (Nat.lt_of_lt_of_le hi h.size) hg).trans (h.block i hi hg)⟩
set_option maxRecDepth 100000 in
theorem Kept.mono {lo hi lo' hi' : Nat} {a b : World} (h : Kept lo hi a b) (h1 : lo' ≤ lo) (h2 : hi ≤ hi') : Kept lo' hi' a b :=
  ⟨h.os, h.tape, h.output, h.size, fun i hi hg => h.block i hi (by omega)⟩
set_option maxRecDepth 100000 in
/-- Nothing at all was turned: any zone. -/
theorem Kept.any {n lo hi : Nat} {a b : World} (h : Kept n n a b) : Kept lo hi a b := ⟨h.os, h.tape, h.output, h.size, fun i hi _ => h.block i hi (by omega)⟩
set_option maxRecDepth 100000 in
theorem Kept.below {lo hi n : Nat} {a b : World} (h : Kept lo hi a b) (h1 : n ≤ lo) (h2 : n ≤ a.heap.size) : Below n a b := ⟨h.os, h.tape, h.output, h.size, fun i hi => h.block i (by omega) (by omega)⟩
set_option maxRecDepth 100000 in
theorem Kept.later {n : Nat} {a b : World} (h : Kept n n a b) : Below a.heap.size a b := ⟨h.os, h.tape, h.output, h.size, fun i hi => h.block i hi (by omega)⟩

set_option maxRecDepth 100000 in
theorem Kept.setCell (w : World) (g i : Nat) (v : Value) : Kept g (g + 1) w (w.setCell ⟨g, i, none⟩ v) :=
  ⟨rfl, rfl, rfl, by simp, fun k _ hk => Below.heap_setCell w _ v k (by show k ≠ g; omega)⟩

/-- A slice as a value. -/
structure Sl where
  a : Option Addr
  n : Nat
  c : Nat
def Sl.v (s : Sl) : Value := .slice s.a s.n s.c

/-- The slice reads as the bytes l. -/
structure SRd (w : World) (s : Sl) (l : List Int) : Prop where
  len : s.n = l.length
  rd : Rd w s.a l
  nil : s.a = none → s.c = 0
  cap : s.n ≤ s.c
  bytes : Bytes l

/-- The slice is none, or a row of its own in the zone [lo, hi). -/
def SOwn (w : World) (lo hi : Nat) (s : Sl) (l : List Int) : Prop :=
  Bytes l ∧ ((s = ⟨none, 0, 0⟩ ∧ l = []) ∨ ∃ g, s.a = some ⟨g, 0, none⟩ ∧ s.n = l.length ∧ lo ≤ g ∧ g < hi ∧ Row w g s.c l)

set_option maxRecDepth 100000 in
theorem SOwn.rd {w : World} {lo hi : Nat} {s : Sl} {l : List Int} (h : SOwn w lo hi s l) : SRd w s l := by
  obtain ⟨hb, h | ⟨g, h1, h2, h3, h4, h5⟩⟩ := h
  · obtain ⟨rfl, rfl⟩ := h
    exact ⟨rfl, (fun i hi => by cases hi), fun _ => rfl, Nat.le_refl _, hb⟩
  · exact ⟨h2, by rw [h1]; exact h5.rd, (fun e => by rw [h1] at e; cases e), by rw [h2]; exact h5.1, hb⟩
set_option maxRecDepth 100000 in
theorem SOwn.carry {w w' : World} {lo hi a b : Nat} {s : Sl} {l : List Int} (h : SOwn w lo hi s l) (k : Kept a b w w') (d : hi ≤ a ∨ b ≤ lo) : SOwn w' lo hi s l := by
  obtain ⟨hb, h | ⟨g, h1, h2, h3, h4, h5⟩⟩ := h
  · exact ⟨hb, .inl h⟩
  · exact ⟨hb, .inr ⟨g, h1, h2, h3, h4, h5.keep (k.block g h5.lt (by omega))⟩⟩
set_option maxRecDepth 100000 in
/-- A step that turns one slice's block alone leaves a slice apart from it. -/
theorem SOwn.carryNe {w w' : World} {lo hi : Nat} {s t : Sl} {l : List Int} (h : SOwn w lo hi t l) (k : ∀ i, s.a ≠ some ⟨i, 0, none⟩ → i < w.heap.size → w'.heap[i]? = w.heap[i]?) (d : s.a = none ∨ s.a ≠ t.a) : SOwn w' lo hi t l := by
  obtain ⟨hb, h | ⟨g, h1, h2, h3, h4, h5⟩⟩ := h
  · exact ⟨hb, .inl h⟩
  · refine ⟨hb, .inr ⟨g, h1, h2, h3, h4, h5.keep (k g ?_ h5.lt)⟩⟩
    rcases d with d | d
    · rw [d]; intro e; cases e
    · rw [← h1]; exact d
set_option maxRecDepth 100000 in
theorem SOwn.carryNe2 {w w' : World} {lo hi : Nat} {s t : Sl} {l : List Int} (h : SOwn w lo hi t l) (k : ∀ i, s.a ≠ some ⟨i, 0, none⟩ → i < w.heap.size → w'.heap[i]? = w.heap[i]?) (d : t.a = none ∨ t.a ≠ s.a) : SOwn w' lo hi t l := by
  obtain ⟨hb, h | ⟨g, h1, h2, h3, h4, h5⟩⟩ := h
  · exact ⟨hb, .inl h⟩
  · refine ⟨hb, .inr ⟨g, h1, h2, h3, h4, h5.keep (k g ?_ h5.lt)⟩⟩
    rcases d with d | d
    · rw [d] at h1; cases h1
    · rw [← h1]; exact Ne.symm d
set_option maxRecDepth 100000 in
theorem SOwn.len {w : World} {lo hi : Nat} {s : Sl} {l : List Int} (h : SOwn w lo hi s l) : s.n = l.length := h.rd.len
set_option maxRecDepth 100000 in
theorem SOwn.mono {w : World} {lo hi lo' hi' : Nat} {s : Sl} {l : List Int} (h : SOwn w lo hi s l) (h1 : lo' ≤ lo) (h2 : hi ≤ hi') : SOwn w lo' hi' s l := by
  obtain ⟨hb, h | ⟨g, q1, q2, q3, q4, q5⟩⟩ := h
  · exact ⟨hb, .inl h⟩
  · exact ⟨hb, .inr ⟨g, q1, q2, by omega, by omega, q5⟩⟩
set_option maxRecDepth 100000 in
theorem SOwn.nil (w : World) (lo hi : Nat) : SOwn w lo hi ⟨none, 0, 0⟩ [] := ⟨(fun z hz => by cases hz), .inl ⟨rfl, rfl⟩⟩
set_option maxRecDepth 100000 in
theorem SOwn.row {w : World} {lo hi g n c : Nat} {l : List Int} (h : Row w g c l) (hn : n = l.length) (hb : Bytes l) (h1 : lo ≤ g) (h2 : g < hi) : SOwn w lo hi ⟨some ⟨g, 0, none⟩, n, c⟩ l := ⟨hb, .inr ⟨g, rfl, hn, h1, h2, h⟩⟩
set_option maxRecDepth 100000 in
theorem SRd.later {w w' : World} {s : Sl} {l : List Int} (h : SRd w s l) (b : Below w.heap.size w w') : SRd w' s l := ⟨h.len, h.rd.later b (Nat.le_refl _), h.nil, h.cap, h.bytes⟩
set_option maxRecDepth 100000 in
theorem SRd.below {w w' : World} {s : Sl} {l : List Int} {n : Nat} (h : SRd w s l) (b : Below n w w') (hn : w.heap.size ≤ n) : SRd w' s l := h.later (b.mono hn)
end Go.Proofs.Ytadlckgaeljdkaa.Zone

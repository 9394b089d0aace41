/-
  A range over a function that hands each round a value in new memory: each round is told what the iterator says of that value in the world where it is handed over (the library's contracts hand a round a value alone).
-/
import Derived.RangeFuncNested
import Derived.RangeFuncBound
import Derived.RangeFuncCalls
import Derived.RangeFuncLeaves
import Derived.Test.YtmcflfpckpjphaaGreatDoorMem
namespace Go.Proofs.YtmcflfpckpjphaaGreatDoor.Ranges
open Go.RowKit

/-- All cells lie as they lay. -/
structure CellsKept (W W' : World) : Prop where
  size : W.heap.size ≤ W'.heap.size
  same : ∀ (k : Nat) (o : Obj), W.heap[k]? = some o → o.isCells = true → W'.heap[k]? = some o

set_option maxRecDepth 100000 in
theorem CellsKept.of_below {W W' : World} (h : Below W.heap.size W W') : CellsKept W W' :=
  ⟨h.size, fun k _ hk _ => (h.block k (Array.getElem?_eq_some_iff.1 hk).1).trans hk⟩
set_option maxRecDepth 100000 in
theorem CellsKept.put {W : World} {l : Nat} {o : Obj} (o' : Obj) (h : W.heap[l]? = some o) (ho : o.isCells = false) : CellsKept W (W.putObj l o') :=
  ⟨by simp, fun k x hk hx => by
    have e : k ≠ l := by rintro rfl; rw [h] at hk; cases hk; rw [ho] at hx; cases hx
    exact (World.putObj_heap_other e).trans hk⟩
set_option maxRecDepth 100000 in
theorem CellsKept.trans {A B C : World} (h : CellsKept A B) (k : CellsKept B C) : CellsKept A C := ⟨Nat.le_trans h.size k.size, fun i o hi ho => k.same i o (h.same i o hi ho) ho⟩
set_option maxRecDepth 100000 in
theorem below_put {n₀ l : Nat} {u W : World} {o : Obj} (o' : Obj) (h : Below n₀ u W) (hl : n₀ ≤ l) (ho : W.heap[l]? = some o) : Below n₀ u (W.putObj l o') :=
  h.grown (grownBy_putObj' W l o') (by have := (Array.getElem?_eq_some_iff.1 ho).1; omega) (fun k e => by cases e; exact hl)

/-- What speaks of cells, and of what lay below n₀, alone. -/
def Celled (n₀ : Nat) (p : World → Prop) : Prop := ∀ W W', p W → CellsKept W W' → Below n₀ W W' → p W'

/-- The iterator's word: called in W with any yield whose rounds keep U and carry J on by one, given what G says of the value, it hands over N values, or fewer if a round said no more. -/
def Feeds (F : Fence) (n : Nat) (P : Program) (gf : Nat) (lb : Array Value) (N : Nat) (G : Nat → Value → World → Prop) (U : World → Prop) (W : World) : Prop :=
  ∀ (l : Nat) (J : Nat → World → Prop) (Jx : World → Prop), (∀ i A B, J i A → Below A.heap.size A B → J i B) → (∀ i A, J i A → U A) →
    (∀ i v A, i < N → J i A → G i v A → YieldAt F (n - 1) P l #[v] A fun e B => (e = .returned (.bool true) ∧ J (i + 1) B) ∨ (e = .returned (.bool false) ∧ Jx B)) →
    J 0 W → CallsIn F n P gf (#[.func (.yield l) #[] #[]] ++ lb) W fun e B => (∃ v, e = .returned v) ∧ (J N B ∨ Jx B)

/-- How a round's body may be left. -/
def bodyPost (J : World → Prop) (Jx : Code → World → Prop) (A : World) : Exit → Act → World → Prop
  | .normal, _, B => KeepsOthers A B ∧ J B
  | .ret, _, B => KeepsOthers A B ∧ Jx .ret B
  | .exit id, _, B => KeepsOthers A B ∧ Jx (.exit id) B
  | .goto t, _, B => KeepsOthers A B ∧ Jx (.goto t) B
  | _, _, _ => False

set_option maxRecDepth 100000 in
theorem range_fed {F : Fence} {n : Nat} {P : Program} {g : Operand} {p : Tmp} {assign body : Code} {Q : Exit → Act → World → Prop} {a : Act} {w : World}
    (hro : F.round = none) (h1 : 1 ≤ n) {gf : Nat} {lb : Array Value} (hg : a.eval g = .func (.func gf) #[] lb) (hF : F.fn gf) (eg : ∀ args w, (callFunc gf args).run P w = .ok (.enter gf args) w)
    (N : Nat) (G : Nat → Value → World → Prop) (U : World → Prop) (hfeed : ∀ W, Feeds F (n - 1) P gf lb N G U W)
    (I : Nat → World → Prop) (Ix : Code → World → Prop) (hG : ∀ i v, Celled w.heap.size (G i v)) (hI : ∀ i, Celled w.heap.size (I i)) (hIx : ∀ c, Celled w.heap.size (Ix c)) (hU : ∀ i W, I i W → U W) (h0 : I 0 w) (a₁ : Value → Act)
    (hassign : ∀ (l : Nat) (v : Value) (W : World) (K : Act → World → Prop), K (a₁ v) W →
      assign.wpIn (F.inRound l) (n - 1 - 1) P (Exit.then K (fun _ _ _ => False)) { tmps := a.tmps.setIfInBounds p v, defers := [] } W)
    (hbody : ∀ (l i : Nat) (v : Value) (W : World), i < N → I i W → G i v W → body.wpIn (F.inRound l) (n - 1 - 1) P (bodyPost (I (i + 1)) Ix W) (a₁ v) W)
    (hdone : ∀ (D : Nat) (W : World), w.heap.size ≤ D → I N W → W.heap[D]? = some (.deferred (some [])) → Q .normal { a with defers := { target := .collected D, args := #[] } :: a.defers } W)
    (hstop : ∀ (D : Nat) (c : Code) (W : World), w.heap.size ≤ D → Ix c W → W.heap[D]? = some (.deferred (some [])) → c.wpIn F n P Q { a with defers := { target := .collected D, args := #[] } :: a.defers } W) :
    (Code.rangeFunc g #[p] assign body).wpIn F n P Q a w := by
  refine wpIn_rangeFunc fun fn hfn => ?_
  rw [hro]
  generalize hrec : (fun (st : LoopState) (pe : Option Code) => ({ state := st, pending := pe, fn, tmps := a.tmps, params := #[p], assign, body, defers := w.heap.size } : Loop)) = mk
  generalize hD : w.heap.size = D at *
  have hA := run_enterLoop_outer (P := P) (w := w) fn a.tmps #[p] assign body
  rw [hD] at hA
  generalize hW : (w.alloc (.deferred (some []))).alloc (.loop { state := .ready, pending := none, fn, tmps := a.tmps, params := #[p], assign, body, defers := D }) = W at hA
  have hl : W.heap[D + 1]? = some (.loop (mk .ready none)) := by
    have := World.alloc_heap_new (w.alloc (.deferred (some []))) (.loop (mk .ready none))
    rw [World.size_alloc, hD] at this
    rw [← hW, ← hrec]; rw [← hrec] at this; exact this
  have hd : W.heap[D]? = some (.deferred (some [])) := by
    rw [← hW, ← hD]; exact (Below.heap_alloc _ _ _ (by simp)).trans (World.alloc_heap_new w _)
  have hb : Below D w W := by rw [← hW, ← hD]; exact ((Below.refl _ w).alloc (Nat.le_refl _) _).alloc (by simp) _
  have hw0 : CellsKept w W := CellsKept.of_below (by rw [hD]; exact hb)
  refine ⟨D + 1, _, W, { target := .fn (.func gf) lb, args := #[.func (.yield (D + 1)) #[] #[]] }, W, gf, #[.func (.yield (D + 1)) #[] #[]] ++ lb, W, hA, ?_, ?_, ?_, fun _ => h1, ?_⟩
  · simp only [resolve, hg]; simp [go_sem]
  · intro f hf; simp [Target.leads] at hf; subst hf; exact hF
  · simp [invoke, go_sem, eg]
  refine (hfeed W (D + 1)
    (fun i A => I i A ∧ D ≤ A.heap.size ∧ A.heap[D + 1]? = some (.loop (mk .ready none)) ∧ A.heap[D]? = some (.deferred (some [])))
    (fun A => ∃ c, Ix c A ∧ D ≤ A.heap.size ∧ A.heap[D + 1]? = some (.loop (mk .done (some c))) ∧ A.heap[D]? = some (.deferred (some [])))
    ?_ (fun i A h => hU i A h.1) ?_ ⟨hI _ _ _ h0 hw0 hb, by rw [← hD]; exact hb.size, hl, hd⟩).mono ?_
  · rintro i A B ⟨q1, q2, q3, q4⟩ hAB
    have c1 := (Array.getElem?_eq_some_iff.1 q3).1
    have c2 := (Array.getElem?_eq_some_iff.1 q4).1
    exact ⟨hI _ _ _ q1 (CellsKept.of_below hAB) (hAB.mono (by omega)), Nat.le_trans q2 hAB.size, (hAB.block _ c1).trans q3, (hAB.block _ c2).trans q4⟩
  · rintro i v A hi ⟨q1, q2, q3, q4⟩ hv
    have lt1 := (Array.getElem?_eq_some_iff.1 q3).1
    have y := run_yield (P := P) (args := #[v]) q3 (by rw [← hrec]; rfl)
    refine ⟨fn, a.tmps.setIfInBounds p v, assign, body, ?_, roundIn_of_wpIn hfn (hassign _ v A _ ⟨_, run_beginRound q3 (by rw [← hrec]), ?_⟩)⟩
    · rw [y, ← hrec]; simp
    generalize hB : A.putObj (D + 1) (.loop { mk .ready none with state := .busy }) = B
    have kB : CellsKept A B := by rw [← hB]; exact CellsKept.put _ q3 rfl
    have bB : Below D A B := by rw [← hB]; exact below_put _ (Below.refl _ _) (by omega) q3
    have lB : B.heap[D + 1]? = some (.loop { mk .ready none with state := .busy }) := by rw [← hB]; exact World.putObj_heap_same lt1
    have dB : B.heap[D]? = some (.deferred (some [])) := by rw [← hB]; exact (World.putObj_heap_other (by omega)).trans q4
    refine wpIn_mono (hbody _ i v B hi (hI _ _ _ q1 kB bB) (hG _ _ _ _ hv kB bB)) ?_
    have last : ∀ (j : Option Code) (C : World), KeepsOthers B C →
        ∃ C', (Instr.endRound (D + 1) j).run P C = .ok (.bool j.isNone) C' ∧ CellsKept C C' ∧ Below D C C' ∧ D ≤ C'.heap.size ∧ C'.heap[D + 1]? = some (.loop (mk (if j.isNone then .ready else .done) j)) ∧ C'.heap[D]? = some (.deferred (some [])) := by
      intro j C hk
      have lC := hk.same _ _ lB rfl
      have dC := hk.same _ _ dB rfl
      refine ⟨_, run_endRound j lC, CellsKept.put _ lC rfl, below_put _ (Below.refl _ _) (by omega) lC, by have := (Array.getElem?_eq_some_iff.1 lC).1; simp; omega, ?_, (World.putObj_heap_other (by omega)).trans dC⟩
      rw [World.putObj_heap_same (Array.getElem?_eq_some_iff.1 lC).1, ← hrec]
    rintro e a3 C hp
    cases e with
    | normal =>
      obtain ⟨hk, hj⟩ := hp
      obtain ⟨C', r, k', b', s', l', d'⟩ := last none C hk
      exact ⟨_, C', r, .inl ⟨rfl, hI _ _ _ hj k' b', s', l', d'⟩⟩
    | ret =>
      obtain ⟨hk, hj⟩ := hp
      obtain ⟨C', r, k', b', s', l', d'⟩ := last (some .ret) C hk
      exact ⟨_, C', r, .inr ⟨rfl, .ret, hIx _ _ _ hj k' b', s', l', d'⟩⟩
    | exit id =>
      obtain ⟨hk, hj⟩ := hp
      obtain ⟨C', r, k', b', s', l', d'⟩ := last (some (.exit id)) C hk
      exact ⟨_, C', r, .inr ⟨rfl, .exit id, hIx _ _ _ hj k' b', s', l', d'⟩⟩
    | goto t =>
      obtain ⟨hk, hj⟩ := hp
      obtain ⟨C', r, k', b', s', l', d'⟩ := last (some (.goto t)) C hk
      exact ⟨_, C', r, .inr ⟨rfl, .goto t, hIx _ _ _ hj k' b', s', l', d'⟩⟩
    | panic ch => exact hp.elim
    | outgrown => exact hp.elim
  · rintro e B ⟨⟨v, rfl⟩, ⟨q1, q2, q3, q4⟩ | ⟨c, q1, q2, q3, q4⟩⟩
    · refine ⟨none, B.putObj (D + 1) (.loop { mk .ready none with state := .exhausted }), ?_, ?_⟩
      · rw [run_endLoop q3 (by rw [← hrec]; simp), ← hrec]
      · exact hdone D _ (Nat.le_refl _) (hI _ _ _ q1 (CellsKept.put _ q3 rfl) (below_put _ (Below.refl _ _) (by omega) q3)) ((World.putObj_heap_other (by omega)).trans q4)
    · refine ⟨some c, B.putObj (D + 1) (.loop { mk .done (some c) with state := .exhausted }), ?_, ?_⟩
      · rw [run_endLoop q3 (by rw [← hrec]; simp), ← hrec]
      · exact hstop D c _ (Nat.le_refl _) (hIx _ _ _ q1 (CellsKept.put _ q3 rfl) (below_put _ (Below.refl _ _) (by omega) q3)) ((World.putObj_heap_other (by omega)).trans q4)
end Go.Proofs.YtmcflfpckpjphaaGreatDoor.Ranges

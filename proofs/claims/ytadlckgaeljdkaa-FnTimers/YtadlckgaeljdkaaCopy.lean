/-
  One operation of a region that draws its order: one that runs to its end; and 'append' of a slice onto an empty one without room: what was there stays as it was.
-/
import Derived.Test.YtadlckgaeljdkaaEach
import Derived.Deep.RegionLawGrows
import Derived.Laws.AppendOwnNone
namespace Go.Proofs.Ytadlckgaeljdkaa.Copy
open Go.RowKit Go.Proofs.Ytadlckgaeljdkaa.Mem Go.Proofs.Ytadlckgaeljdkaa.MemI Go.Proofs.Ytadlckgaeljdkaa.App Go.Proofs.Ytadlckgaeljdkaa.Blk Go.Proofs.Ytadlckgaeljdkaa.Each

set_option maxRecDepth 100000 in
set_option maxHeartbeats 400000 in
theorem op_wp {P : Program} {ops : Array Oper} {Q : Exit → Act → World → Prop} {i : Nat} {o : Oper} {K : Act → World → Prop} {a : Act} {w : World}
    (hi : ops[i]? = some o) (hg : o.guard = none) (h : Oper.wp P o a w K Q) : wpOp P ops Q i K a w := by
  unfold wpOp
  rw [hi]
  have hw : Region.wanted o (yielded ops a.tmps) = true := by simp [Region.wanted, hg]
  simp only [hw, if_true]
  exact .inl h
set_option maxRecDepth 100000 in
set_option maxHeartbeats 400000 in
theorem op_run {P : Program} {ops : Array Oper} {Q : Exit → Act → World → Prop} {i : Nat} {o : Oper} {K : Act → World → Prop} {a : Act} {w w' : World} {v : Value}
    (hi : ops[i]? = some o) (hg : o.guard = none) (hr : (execOp a.eval o).run P w = .ok (.value v) w') (hk : K (a.put o.dst v) w') : wpOp P ops Q i K a w := by
  refine op_wp hi hg ?_
  unfold Oper.wp
  rw [hr]
  exact hk

set_option maxRecDepth 100000 in
set_option maxHeartbeats 400000 in
theorem grown_none_below {w w' : World} (h : w.grownBy w' none) : Below w.heap.size w w' :=
  (Below.refl _ _).grown h (Nat.le_refl _) (fun k e => by cases e)

set_option maxRecDepth 100000 in
set_option maxHeartbeats 400000 in
theorem op_copy {ops : Array Oper} {Q : Exit → Act → World → Prop} {i : Nat} {o : Oper} {K : Act → World → Prop} {a : Act} {w : World}
    (hi : ops[i]? = some o) (hgd : o.guard = none) (s x : Operand) (hop : o.op = .call { callee := .builtin .append, args := #[s, x], argTypes := #[22, 22] })
    (g : Nat) (hs : a.eval s = .slice (some ⟨g, 0, none⟩) 0 0) (hrow : Row w g 0 [])
    (ao : Option Addr) (m c : Nat) (y : List Int) (hx : a.eval x = .slice ao m c) (hm : m = y.length) (hrd : Rd w ao y) (hnone : ao = none → c = 0) (hsum : y.length ≤ 100000000)
    (hK : ∀ g' cap' w', Row w' g' cap' y → g' < w'.heap.size → (w.heap.size ≤ g' ∨ g' = g) → Below w.heap.size w w' → K (a.put o.dst (.slice (some ⟨g', 0, none⟩) m cap')) w') : wpOp Try.prog ops Q i K a w := by
  obtain ⟨i0, h2, hz0, hz1, hz2⟩ := info_parts info8
  refine op_wp hi hgd ?_
  have hw : Region.wanted o (yielded ops a.tmps) = true := by simp [Region.wanted, hgd]
  cases y with
  | nil =>
    have hm0 : m = 0 := hm
    subst hm0
    have hK' := hK g 0 w hrow hrow.lt (.inr rfl) (Below.refl _ _)
    cases ao with
    | none =>
      have hc0 := hnone rfl
      subst hc0

      unfold Oper.wp
      simp [execOp, hop, resolve, invoke, builtin, hs, hx, Result.andThen]
      exact hK'
    | some ad =>
      have h := step_append_room (P := Try.prog) (ops := ops) (o := o) (a := a) (w := w) (K := K) (Q := Q) (E := True) hgd s x 22 hop 5 i0 1 Try.underlying22 h2 hz1 g 0 0 0 hs ad 0 c [] hx rfl (by intro j u hu; simp at hu) (by simp) (by simp) (by intro j hj; simp at hj) hK'
      rw [if_pos hw] at h
      exact h
  | cons z r =>
    cases ao with
    | none => obtain ⟨_, _, e, _⟩ := hrd 0 (by simp); cases e
    | some ad =>
      have h := step_append_grows (P := Try.prog) (ops := ops) (o := o) (a := a) (w := w) (K := K) (Q := Q) (E := True) hgd s x 22 hop 5 i0 (.int .u8 0) 1 1 Try.underlying22 h2 hz0 hz1 hz2 rfl (by decide) (some ⟨g, 0, none⟩) 0 0 [] hs (by intro e; cases e) rfl (by intro b _ j u hu; simp at hu) ad m c ((z :: r).map (Value.int .u8)) hx (by simp [hm]) (Rd.cells hrd) (ints_oneCell _ _) (by rw [hm]; simp) (by rw [hm]; unfold maxLen; omega) (by rw [hm]; omega) (by
        intro v' w' hown hgr
        rw [List.nil_append, Nat.zero_add] at hown
        rcases hown.2 with ⟨hv, h0⟩ | ⟨g', cap', cur, rfl, hb, hg', _⟩
        · rw [hm] at h0; simp at h0
        · obtain ⟨r1, r2, _, r4⟩ := Row.of hown
          exact hK g' cap' w' r1 r4 (.inl r2) (grown_none_below hgr))
      rw [if_pos hw] at h
      exact h
set_option maxRecDepth 100000 in
set_option maxHeartbeats 400000 in
theorem op_icopy {ops : Array Oper} {Q : Exit → Act → World → Prop} {i : Nat} {o : Oper} {K : Act → World → Prop} {a : Act} {w : World}
    (hi : ops[i]? = some o) (hgd : o.guard = none) (s x : Operand) (hop : o.op = .call { callee := .builtin .append, args := #[s, x], argTypes := #[43, 43] })
    (g : Nat) (hs : a.eval s = .slice (some ⟨g, 0, none⟩) 0 0) (hrow : IRow w g 0 [])
    (ao : Option Addr) (m c : Nat) (y : List Int) (hx : a.eval x = .slice ao m c) (hm : m = y.length) (hrd : IRd w ao y) (hnone : ao = none → c = 0) (hsum : y.length ≤ 10000000)
    (hK : ∀ g' cap' w', IRow w' g' cap' y → g' < w'.heap.size → (w.heap.size ≤ g' ∨ g' = g) → Below w.heap.size w w' → K (a.put o.dst (.slice (some ⟨g', 0, none⟩) m cap')) w') : wpOp Try.prog ops Q i K a w := by
  obtain ⟨i0, h2, hz0, hz1, hz2⟩ := info_parts info64
  refine op_wp hi hgd ?_
  have hw : Region.wanted o (yielded ops a.tmps) = true := by simp [Region.wanted, hgd]
  cases y with
  | nil =>
    have hm0 : m = 0 := hm
    subst hm0
    have hK' := hK g 0 w hrow hrow.lt (.inr rfl) (Below.refl _ _)
    cases ao with
    | none =>
      have hc0 := hnone rfl
      subst hc0

      unfold Oper.wp
      simp [execOp, hop, resolve, invoke, builtin, hs, hx, Result.andThen]
      exact hK'
    | some ad =>
      have h := step_append_room (P := Try.prog) (ops := ops) (o := o) (a := a) (w := w) (K := K) (Q := Q) (E := True) hgd s x 43 hop 3 i0 1 Try.underlying43 h2 hz1 g 0 0 0 hs ad 0 c [] hx rfl (by intro j u hu; simp at hu) (by simp) (by simp) (by intro j hj; simp at hj) hK'
      rw [if_pos hw] at h
      exact h
  | cons z r =>
    cases ao with
    | none => obtain ⟨_, _, e, _⟩ := hrd 0 (by simp); cases e
    | some ad =>
      have h := step_append_grows (P := Try.prog) (ops := ops) (o := o) (a := a) (w := w) (K := K) (Q := Q) (E := True) hgd s x 43 hop 3 i0 (.int .i64 0) 1 8 Try.underlying43 h2 hz0 hz1 hz2 rfl (by decide) (some ⟨g, 0, none⟩) 0 0 [] hs (by intro e; cases e) rfl (by intro b _ j u hu; simp at hu) ad m c ((z :: r).map (Value.int .i64)) hx (by simp [hm]) (IRd.cells hrd) (ints_oneCell _ _) (by rw [hm]; simp) (by rw [hm]; unfold maxLen; omega) (by rw [hm]; omega) (by
        intro v' w' hown hgr
        rw [List.nil_append, Nat.zero_add] at hown
        rcases hown.2 with ⟨hv, h0⟩ | ⟨g', cap', cur, rfl, hb, hg', _⟩
        · rw [hm] at h0; simp at h0
        · obtain ⟨r1, r2, _, r4⟩ := IRow.of hown
          exact hK g' cap' w' r1 r4 (.inl r2) (grown_none_below hgr))
      rw [if_pos hw] at h
      exact h
end Go.Proofs.Ytadlckgaeljdkaa.Copy

/-
  What the laws' helpers over a slice of bytes answer, with the slice as one value and its memory as a zone.
-/
import Derived.Test.YtpenhliaelhnoaaDoorZone
namespace Go.Proofs.YtpenhliaelhnoaaDoor.ZoneB
open Go.RowKit Go.Proofs.YtpenhliaelhnoaaDoor.Mem Go.Proofs.YtpenhliaelhnoaaDoor.Blk Go.Proofs.YtpenhliaelhnoaaDoor.Zone

set_option maxRecDepth 100000 in
theorem toB (s : Sl) (l : List Int) (w : World) (h : SRd w s l) (hl : l.length ≤ 4194304) :
    Calls Tryd.prog 19 #[.slice s.a s.n s.c] w fun e w' =>
      e = .returned (.slice (some ⟨w.heap.size, 0, none⟩) s.n s.n) ∧ SOwn w' w.heap.size w'.heap.size ⟨some ⟨w.heap.size, 0, none⟩, s.n, s.n⟩ l ∧ Below w.heap.size w w' := by
  refine (toByteS s.a s.n s.c l w h.len h.rd hl).mono ?_
  rintro e w' ⟨rfl, r, b⟩
  exact ⟨rfl, SOwn.row r h.len h.bytes (Nat.le_refl _) r.lt, b⟩
set_option maxRecDepth 100000 in
theorem eqB (s t : Sl) (x y : List Int) (w : World) (h : SRd w s x) (k : SRd w t y) (lx : x.length ≤ 4194304) (ly : y.length ≤ 4194304) :
    Calls Tryd.prog 21 #[.slice s.a s.n s.c, .slice t.a t.n t.c] w fun e w' => e = .returned (.bool (decide (x = y))) ∧ Below w.heap.size w w' := by
  refine (eqByteS s.a t.a s.n s.c t.n t.c x y w h.len k.len h.rd k.rd lx ly).mono ?_
  rintro e w' ⟨rfl, m, rfl⟩
  exact ⟨rfl, ⟨rfl, rfl, rfl, Nat.le_refl _, fun _ _ => rfl⟩⟩
set_option maxRecDepth 100000 in
set_option maxHeartbeats 800000 in
theorem markB (s : Sl) (l : List Int) (q : Int) (w : World) (lo hi : Nat) (h : SOwn w lo hi s l) (hl : l.length ≤ 4194304) (q0 : 0 ≤ q) (q1 : q ≤ 4194304) :
    Calls Tryd.prog 22 #[.slice s.a s.n s.c, .int .i64 q] w fun e w' =>
      e = .returned (.int .i64 (q + s.n)) ∧ SOwn w' lo hi s (marks q s.n) ∧ Kept lo hi w w' ∧ ∀ i, s.a ≠ some ⟨i, 0, none⟩ → i < w.heap.size → w'.heap[i]? = w.heap[i]? := by
  obtain ⟨hb, ⟨rfl, rfl⟩ | ⟨g, h1, h2, h3, h4, h5⟩⟩ := h
  · have hm : marks q 0 = [] := rfl
    show Calls Tryd.prog 22 #[.slice none 0 0, .int .i64 q] w fun e w' => e = .returned (.int .i64 (q + (0 : Nat))) ∧ SOwn w' lo hi ⟨none, 0, 0⟩ (marks q 0) ∧ Kept lo hi w w' ∧ ∀ i, (none : Option Addr) ≠ some ⟨i, 0, none⟩ → i < w.heap.size → w'.heap[i]? = w.heap[i]?
    rw [hm]
    have HN : Hid (SOwn w lo hi ⟨none, 0, 0⟩ []) := SOwn.nil w lo hi
    clear hm hb hl
    go_enter Tryd.func22, Tryd.ntmps22
    go_wp2
    go_loop [1, 5] (fun k i => k = .int .i64 q ∧ i = .int .i64 0) (fun _ _ => 0)
    case atStart => exact ⟨rfl, rfl⟩
    case round =>
      obtain ⟨rfl, rfl⟩ := hrel
      go_wp2
      go_ret
      exact ⟨by simp, HN.out, Kept.refl _ _ _, by intros; rfl⟩
  · obtain ⟨sa, sn, sc⟩ := s
    simp only at h1 h2 h5
    subst h1
    refine (markByteS g sn sc l q w h2 h5 hl q0 q1).mono ?_
    rintro e w' ⟨rfl, r, gr⟩
    refine ⟨rfl, ⟨marks_bytes q sn, .inr ⟨g, rfl, (marks_length q sn).symm, h3, h4, r⟩⟩, (Kept.of_grown gr).mono h3 h4, ?_⟩
    intro i hne hi
    exact gr.block i hi (by simp only [ne_eq, Option.some.injEq]; intro e; exact hne (by rw [e]))
set_option maxRecDepth 100000 in
theorem heldB (s : Sl) (q : Int) (w : World) (h : SRd w s (marks q s.n)) (hl : s.n ≤ 4194304) (q0 : 0 ≤ q) (q1 : q ≤ 4194304) :
    Calls Tryd.prog 23 #[.slice s.a s.n s.c, .int .i64 q] w fun e w' => e = .returned (.int .i64 (q + s.n)) ∧ w = w' :=
  heldByteS s.a s.c s.n q w h.rd hl q0 q1
end Go.Proofs.YtpenhliaelhnoaaDoor.ZoneB

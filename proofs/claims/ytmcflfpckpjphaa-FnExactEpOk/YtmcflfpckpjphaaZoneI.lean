/-
  Slices of ints as values whose memory lies in a zone, and what the laws' helpers over them answer.
-/
import Derived.Test.YtmcflfpckpjphaaMemI
import Derived.Test.YtmcflfpckpjphaaZone
namespace Go.Proofs.Ytmcflfpckpjphaa.ZoneI
open Go.RowKit Go.Proofs.Ytmcflfpckpjphaa.Mem Go.Proofs.Ytmcflfpckpjphaa.MemI Go.Proofs.Ytmcflfpckpjphaa.Blk Go.Proofs.Ytmcflfpckpjphaa.Zone

/-- The slice reads as the ints l. -/
structure ISRd (w : World) (s : Sl) (l : List Int) : Prop where
  len : s.n = l.length
  rd : IRd w s.a l
  nil : s.a = none → s.c = 0
  cap : s.n ≤ s.c
/-- The slice is none, or a row of its own in the zone [lo, hi). -/
def ISOwn (w : World) (lo hi : Nat) (s : Sl) (l : List Int) : Prop :=
  (s = ⟨none, 0, 0⟩ ∧ l = []) ∨ ∃ g, s.a = some ⟨g, 0, none⟩ ∧ s.n = l.length ∧ lo ≤ g ∧ g < hi ∧ IRow w g s.c l
theorem ISOwn.rd {w : World} {lo hi : Nat} {s : Sl} {l : List Int} (h : ISOwn w lo hi s l) : ISRd w s l := by
  obtain h | ⟨g, h1, h2, h3, h4, h5⟩ := h
  · obtain ⟨rfl, rfl⟩ := h
    exact ⟨rfl, (fun i hi => by cases hi), fun _ => rfl, Nat.le_refl _⟩
  · exact ⟨h2, by rw [h1]; exact h5.rd, (fun e => by rw [h1] at e; cases e), by rw [h2]; exact h5.1⟩
theorem ISOwn.carry {w w' : World} {lo hi a b : Nat} {s : Sl} {l : List Int} (h : ISOwn w lo hi s l) (k : Kept a b w w') (d : hi ≤ a ∨ b ≤ lo) : ISOwn w' lo hi s l := by
  obtain h | ⟨g, h1, h2, h3, h4, h5⟩ := h
  · exact .inl h
  · exact .inr ⟨g, h1, h2, h3, h4, h5.keep (k.block g h5.lt (by omega))⟩
theorem ISOwn.later {w w' : World} {lo hi : Nat} {s : Sl} {l : List Int} (h : ISOwn w lo hi s l) (k : Below w.heap.size w w') : ISOwn w' lo hi s l := h.carry (Kept.of_below k hi) (.inl (Nat.le_refl _))
theorem ISOwn.len {w : World} {lo hi : Nat} {s : Sl} {l : List Int} (h : ISOwn w lo hi s l) : s.n = l.length := h.rd.len
theorem ISOwn.mono {w : World} {lo hi lo' hi' : Nat} {s : Sl} {l : List Int} (h : ISOwn w lo hi s l) (h1 : lo' ≤ lo) (h2 : hi ≤ hi') : ISOwn w lo' hi' s l := by
  obtain h | ⟨g, q1, q2, q3, q4, q5⟩ := h
  · exact .inl h
  · exact .inr ⟨g, q1, q2, by omega, by omega, q5⟩
theorem ISOwn.nil (w : World) (lo hi : Nat) : ISOwn w lo hi ⟨none, 0, 0⟩ [] := .inl ⟨rfl, rfl⟩
theorem ISOwn.row {w : World} {lo hi g n c : Nat} {l : List Int} (h : IRow w g c l) (hn : n = l.length) (h1 : lo ≤ g) (h2 : g < hi) : ISOwn w lo hi ⟨some ⟨g, 0, none⟩, n, c⟩ l := .inr ⟨g, rfl, hn, h1, h2, h⟩
theorem ISRd.later {w w' : World} {s : Sl} {l : List Int} (h : ISRd w s l) (b : Below w.heap.size w w') : ISRd w' s l := ⟨h.len, h.rd.later b (Nat.le_refl _), h.nil, h.cap⟩

theorem toI (s : Sl) (l : List Int) (w : World) (h : ISRd w s l) (hl : l.length ≤ 4194304) :
    Calls Try.prog 104 #[.slice s.a s.n s.c] w fun e w' =>
      e = .returned (.slice (some ⟨w.heap.size, 0, none⟩) s.n s.n) ∧ ISOwn w' w.heap.size w'.heap.size ⟨some ⟨w.heap.size, 0, none⟩, s.n, s.n⟩ l ∧ Below w.heap.size w w' := by
  refine (toIntS s.a s.n s.c l w h.len h.rd hl).mono ?_
  rintro e w' ⟨rfl, r, b⟩
  exact ⟨rfl, ISOwn.row r h.len (Nat.le_refl _) r.lt, b⟩
theorem eqI (s t : Sl) (x y : List Int) (w : World) (h : ISRd w s x) (k : ISRd w t y) (lx : x.length ≤ 4194304) (ly : y.length ≤ 4194304) :
    Calls Try.prog 100 #[.slice s.a s.n s.c, .slice t.a t.n t.c] w fun e w' => e = .returned (.bool (decide (x = y))) ∧ Below w.heap.size w w' := by
  refine (eqIntS s.a t.a s.n s.c t.n t.c x y w h.len k.len h.rd k.rd lx ly).mono ?_
  rintro e w' ⟨rfl, m, rfl⟩
  exact ⟨rfl, ⟨rfl, rfl, rfl, Nat.le_refl _, fun _ _ => rfl⟩⟩
set_option maxRecDepth 100000 in
set_option maxHeartbeats 800000 in
theorem markI (s : Sl) (l : List Int) (q : Int) (w : World) (lo hi : Nat) (h : ISOwn w lo hi s l) (hl : l.length ≤ 4194304) (q0 : 0 ≤ q) (q1 : q ≤ 4194304) :
    Calls Try.prog 101 #[.slice s.a s.n s.c, .int .i64 q] w fun e w' =>
      e = .returned (.int .i64 (q + s.n)) ∧ ISOwn w' lo hi s (imarks q s.n) ∧ Kept lo hi w w' := by
  obtain ⟨rfl, rfl⟩ | ⟨g, h1, h2, h3, h4, h5⟩ := h
  · have hm : imarks q 0 = [] := rfl
    show Calls Try.prog 101 #[.slice none 0 0, .int .i64 q] w fun e w' => e = .returned (.int .i64 (q + (0 : Nat))) ∧ ISOwn w' lo hi ⟨none, 0, 0⟩ (imarks q 0) ∧ Kept lo hi w w'
    rw [hm]
    have HN : Hid (ISOwn w lo hi ⟨none, 0, 0⟩ []) := ISOwn.nil w lo hi
    clear hm hl
    go_enter Try.func101, Try.ntmps101
    go_wp2
    go_loop [1, 5] (fun k i => k = .int .i64 q ∧ i = .int .i64 0) (fun _ _ => 0)
    case atStart => exact ⟨rfl, rfl⟩
    case round =>
      obtain ⟨rfl, rfl⟩ := hrel
      go_wp2
      go_ret
      exact ⟨by simp, HN.out, Kept.refl _ _ _⟩
  · obtain ⟨sa, sn, sc⟩ := s
    simp only at h1 h2 h5
    subst h1
    refine (markIntS g sn sc l q w h2 h5 hl q0 q1).mono ?_
    rintro e w' ⟨rfl, r, gr⟩
    exact ⟨rfl, .inr ⟨g, rfl, (imarks_length q sn).symm, h3, h4, r⟩, (Kept.of_grown gr).mono h3 h4⟩
theorem heldI (s : Sl) (q : Int) (w : World) (h : ISRd w s (imarks q s.n)) (hl : s.n ≤ 4194304) (q0 : 0 ≤ q) (q1 : q ≤ 4194304) :
    Calls Try.prog 102 #[.slice s.a s.n s.c, .int .i64 q] w fun e w' => e = .returned (.int .i64 (q + s.n)) ∧ w = w' :=
  heldIntS s.a s.c s.n q w h.rd hl q0 q1
theorem szI (s : Sl) (q : Int) (w : World) (hl : s.n ≤ 9223372036854775807) (q0 : 0 ≤ q) (q1 : q ≤ 4194304) :
    Calls Try.prog 103 #[.slice s.a s.n s.c, .int .i64 q] w fun e w' => e = .returned (.int .i64 (if q - s.n < 0 then -1 else q - s.n)) ∧ w = w' := by
  have hw : IntKind.i64.wrap (q - (s.n : Int)) = q - (s.n : Int) := by rw [IntKind.wrap_i64]; omega
  by_cases h : q - (s.n : Int) < 0
  · rw [if_pos h]
    go_enter Try.func103, Try.ntmps103
    go_wp2
    go_ret
    exact ⟨rfl, rfl⟩
  · rw [if_neg h]
    go_enter Try.func103, Try.ntmps103
    go_wp2
    go_ret
    exact ⟨rfl, rfl⟩
end Go.Proofs.Ytmcflfpckpjphaa.ZoneI

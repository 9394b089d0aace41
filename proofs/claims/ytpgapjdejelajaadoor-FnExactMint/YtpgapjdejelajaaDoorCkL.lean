/-
  A slice in memory of its own whose block may be longer than what the slice may hold.
-/
import Derived.Test.YtpgapjdejelajaaDoorCa1
import Derived.Test.YtpgapjdejelajaaDoorShp
namespace Go.Proofs.YtpgapjdejelajaaDoor.CkL
open Go.RowKit Go.Proofs.YtpgapjdejelajaaDoor.Mem Go.Proofs.YtpgapjdejelajaaDoor.Blk Go.Proofs.YtpgapjdejelajaaDoor.Zone Go.Proofs.YtpgapjdejelajaaDoor.ZoneB Go.Proofs.YtpgapjdejelajaaDoor.Shp

/-- It owns its memory, in the zone [lo, hi); the block may be longer. -/
def LOwn (w : World) (lo hi : Nat) (s : Sl) (l : List Int) : Prop := ∃ C, s.n ≤ s.c ∧ s.c ≤ C ∧ SOwn w lo hi ⟨s.a, s.n, C⟩ l
set_option maxRecDepth 100000 in
theorem LOwn.of {w : World} {lo hi : Nat} {s : Sl} {l : List Int} (h : SOwn w lo hi s l) : LOwn w lo hi s l := ⟨s.c, h.rd.cap, Nat.le_refl _, h⟩
set_option maxRecDepth 100000 in
theorem LOwn.rd {w : World} {lo hi : Nat} {s : Sl} {l : List Int} (h : LOwn w lo hi s l) : SRd w s l := by
  obtain ⟨C, h1, h2, h3⟩ := h
  have r := h3.rd
  exact ⟨r.len, r.rd, (fun e => by have : C = 0 := r.nil e; omega), h1, r.bytes⟩
set_option maxRecDepth 100000 in
theorem LOwn.len {w : World} {lo hi : Nat} {s : Sl} {l : List Int} (h : LOwn w lo hi s l) : s.n = l.length := h.rd.len
set_option maxRecDepth 100000 in
theorem LOwn.carry {w w' : World} {lo hi a b : Nat} {s : Sl} {l : List Int} (h : LOwn w lo hi s l) (k : Kept a b w w') (d : hi ≤ a ∨ b ≤ lo) : LOwn w' lo hi s l := by
  obtain ⟨C, h1, h2, h3⟩ := h
  exact ⟨C, h1, h2, h3.carry k d⟩
set_option maxRecDepth 100000 in
theorem LOwn.later {w w' : World} {lo hi : Nat} {s : Sl} {l : List Int} (h : LOwn w lo hi s l) (k : Below w.heap.size w w') : LOwn w' lo hi s l := h.carry (Kept.of_below k hi) (.inl (Nat.le_refl _))
set_option maxRecDepth 100000 in
theorem row_less {w : World} {g C : Nat} {a b : List Int} (h : Row w g C (a ++ b)) : Row w g C a := by
  obtain ⟨h1, h2, cur, h3, h4, h5⟩ := h
  rw [List.length_append] at h1
  refine ⟨by omega, h2, cur, h3, h4, ?_⟩
  have := congrArg (List.take a.length) h5
  rw [List.take_take, List.length_append, Nat.min_eq_left (by omega), List.map_append, List.take_append_of_le_length (by simp)] at this
  exact this.trans (List.take_of_length_le (by simp))
/-- A list of bytes in new memory, whose block may be longer. -/
def AnsL (l : List Int) (w : World) : Ending → World → Prop := fun e w' => ∃ S0 : Sl, e = .returned (.slice S0.a S0.n S0.c) ∧ LOwn w' w.heap.size w'.heap.size S0 l ∧ Below w.heap.size w w'

set_option maxRecDepth 100000 in
set_option maxHeartbeats 400000 in
theorem markByteL (g n k0 cap : Nat) (l : List Int) (q : Int) (w : World) (hn : n = l.length) (hr : Row w g cap l) (hlen : l.length ≤ 4194304) (hq0 : 0 ≤ q) (hq1 : q ≤ 4194304) :
    Calls Tryd.prog 10 #[.slice (some ⟨g, 0, none⟩) n k0, .int .i64 q] w fun e w' =>
      e = .returned (.int .i64 (q + n)) ∧ Row w' g cap (marks q n) ∧ w.grownBy w' (some g) := by
  subst hn
  have hrow := hr.owns (Nat.le_refl g)
  clear hr
  go_enter Tryd.func10, Tryd.ntmps10
  go_wp2
  go_loopw [1, 5] (fun c i wr => ∃ k : Nat, k ≤ l.length ∧ i = .int .i64 k ∧ c = .int .i64 (q + k) ∧ wr.ownsRow g 5 1 (.slice (some ⟨g, 0, none⟩) l.length cap) l.length ((marks q k ++ l.drop k).map (Value.int .u8)) ∧ w.grownBy wr (some g))
    (fun _ i _ => l.length - (intOf i).toNat)
  case atStart => exact ⟨0, Nat.zero_le _, rfl, by go_num, by simpa [marks] using hrow, World.grownBy.refl _ _⟩
  case round =>
    obtain ⟨k, hk, rfl, rfl, ho, hg⟩ := hrel
    clear hrow
    by_cases hlt : k < l.length
    · have hst := ho.stored k (.int .u8 ((q + (k : Int)) % 256))
      have hfr := ho.frozenAt k
      have hca : ∃ v, wr.cell? ⟨g, k, none⟩ = some v := by
        rw [ho.cellAt k (by omega)]
        exact ⟨_, List.getElem?_eq_getElem (by simp [marks_length]; omega)⟩
      obtain ⟨v0, hca⟩ := hca
      have R1 : Hid ((wr.setCell ⟨g, k, none⟩ (.int .u8 ((q + (k : Int)) % 256))).ownsRow g 5 1 (.slice (some ⟨g, 0, none⟩) l.length cap) l.length ((marks q (k + 1) ++ l.drop (k + 1)).map (Value.int .u8))) := by
        have := hst.1
        rw [← List.map_set, set_mark l q k hlt] at this
        exact this
      have R2 : Hid (w.grownBy (wr.setCell ⟨g, k, none⟩ (.int .u8 ((q + (k : Int)) % 256))) (some g)) := grown_trans hg hst.2
      clear hst ho hg
      go_wp2
      go_roundw
      case rel => exact ⟨k + 1, by omega, by go_num, by go_num, R1.out, R2.out⟩
      case measure => simp [intOf]; omega
    · go_wp2
      go_ret
      have hk' : k = l.length := by omega
      subst hk'
      rw [List.drop_length, List.append_nil] at ho
      refine ⟨rfl, ?_, hg⟩
      have := (Row.of (l := marks q l.length) (n := l.length) ho).1
      exact this


set_option maxRecDepth 100000 in
theorem markL (s : Sl) (l : List Int) (q : Int) (w : World) (lo hi : Nat) (h : LOwn w lo hi s l) (hl : l.length ≤ 4194304) (q0 : 0 ≤ q) (q1 : q ≤ 4194304) :
    Calls Tryd.prog 10 #[.slice s.a s.n s.c, .int .i64 q] w fun e w' =>
      e = .returned (.int .i64 (q + s.n)) ∧ LOwn w' lo hi s (marks q s.n) ∧ Kept lo hi w w' ∧ ∀ i, s.a ≠ some ⟨i, 0, none⟩ → i < w.heap.size → w'.heap[i]? = w.heap[i]? := by
  obtain ⟨sa, sn, sc⟩ := s
  obtain ⟨C, q1', q2', hb, ⟨h1, rfl⟩ | ⟨g, h1, h2, h3, h4, h5⟩⟩ := h
  · simp only [Sl.mk.injEq] at h1 q1' q2'
    obtain ⟨rfl, rfl, rfl⟩ := h1
    obtain rfl : sc = 0 := by omega
    refine (markB ⟨none, 0, 0⟩ [] q w lo hi (SOwn.nil w lo hi) (by simp) q0 q1).mono ?_
    rintro e w' ⟨rfl, o, k, f⟩
    exact ⟨rfl, LOwn.of o, k, f⟩
  · simp only at h1 h2 h5 q1' q2'
    subst h1
    refine (markByteL g sn sc C l q w h2 h5 hl q0 q1).mono ?_
    rintro e w' ⟨rfl, r, gr⟩
    refine ⟨rfl, ⟨C, q1', q2', marks_bytes q sn, .inr ⟨g, rfl, (marks_length q sn).symm, h3, h4, r⟩⟩, (Kept.of_grown gr).mono h3 h4, ?_⟩
    intro i hne hi
    exact gr.block i hi (by simp only [ne_eq, Option.some.injEq]; intro e; exact hne (by rw [e]))
end Go.Proofs.YtpgapjdejelajaaDoor.CkL

/-
  Slices of bytes as rows of numbers, and what the laws' own four helpers on them do: copy, compare, mark, and look for marks. Each contract asks that the slice is read as the list that it names, and a length of at most 4,194,304.
-/
import Derived.Test.YtpenhliaelhnoaaDoorProg
import Derived.WalkKit
import Derived.KernelRfl
import Derived.WalkLawsBesides
import Derived.Deep.QuietTactic
import Derived.BigQuiet
namespace Go.Proofs.YtpenhliaelhnoaaDoor.Mem
open Go.RowKit

set_option maxRecDepth 100000 in
theorem info8 : (Tryd.prog.info? 5).map (fun i => (i.zero, i.size, i.bytes)) = some (some (.int .u8 0), 1, 1) := by kernel_rfl

/-- Every number is a byte. -/
def Bytes (l : List Int) : Prop := ∀ z ∈ l, 0 ≤ z ∧ z ≤ 255
set_option maxRecDepth 100000 in
theorem Bytes.at {l : List Int} (h : Bytes l) (i : Nat) : 0 ≤ l.getD i 0 ∧ l.getD i 0 ≤ 255 := by
  by_cases hi : i < l.length
  · simpa [List.getD, hi] using h _ (List.getElem_mem hi)
  · simp [List.getD, List.getElem?_eq_none (Nat.le_of_not_lt hi)]

/-- The cells from an address on hold the numbers l. -/
def Rd (w : World) (a : Option Addr) (l : List Int) : Prop :=
  ∀ i, i < l.length → ∃ b off, a = some ⟨b, off, none⟩ ∧ b < w.heap.size ∧ w.cell? ⟨b, off + i, none⟩ = some (.int .u8 (l.getD i 0))

/-- Block g is a row of cap bytes, free to write, the first of them l. -/
def Row (w : World) (g cap : Nat) (l : List Int) : Prop :=
  l.length ≤ cap ∧ cap ≤ maxLen ∧ ∃ cur, w.heap[g]? = some (.cells cur 5 (0, 0)) ∧ cur.size = cap ∧ cur.toList.take l.length = l.map (Value.int .u8)

set_option maxRecDepth 100000 in
theorem Row.owns {w : World} {g cap : Nat} {l : List Int} (h : Row w g cap l) {base : Nat} (hb : base ≤ g) : w.ownsRow base 5 1 (.slice (some ⟨g, 0, none⟩) l.length cap) l.length (l.map (Value.int .u8)) := by
  obtain ⟨h1, h2, cur, h3, h4, h5⟩ := h
  exact ⟨by simp, .inr ⟨g, cap, cur, rfl, hb, h3, h1, h2, by omega, by simpa using h5⟩⟩
set_option maxRecDepth 100000 in
theorem Row.of {w : World} {base g n cap : Nat} {l : List Int} (h : w.ownsRow base 5 1 (.slice (some ⟨g, 0, none⟩) n cap) n (l.map (Value.int .u8))) : Row w g cap l ∧ base ≤ g ∧ n = l.length ∧ g < w.heap.size := by
  obtain ⟨h0, h⟩ := h
  have hn : n = l.length := by simpa using h0.symm
  subst hn
  rcases h with ⟨h, _⟩ | ⟨g', cap', cur, hv, hb, hg, h1, h2, h3, h4⟩
  · simp at h
  · simp only [Value.slice.injEq, Option.some.injEq, Addr.mk.injEq, and_true, true_and] at hv
    obtain ⟨rfl, rfl⟩ := hv
    exact ⟨⟨h1, h2, cur, hg, by omega, by simpa using h4⟩, hb, rfl, (Array.getElem?_eq_some_iff.1 hg).1⟩
set_option maxRecDepth 100000 in
theorem Row.keep {w w' : World} {g cap : Nat} {l : List Int} (h : Row w g cap l) (e : w'.heap[g]? = w.heap[g]?) : Row w' g cap l := by
  obtain ⟨h1, h2, cur, h3, h4⟩ := h
  exact ⟨h1, h2, cur, e.trans h3, h4⟩
set_option maxRecDepth 100000 in
theorem Row.lt {w : World} {g cap : Nat} {l : List Int} (h : Row w g cap l) : g < w.heap.size := by
  obtain ⟨_, _, cur, h3, _⟩ := h
  exact (Array.getElem?_eq_some_iff.1 h3).1
set_option maxRecDepth 100000 in
theorem Row.below {w w' : World} {g cap : Nat} {l : List Int} (h : Row w g cap l) {B : Nat} (b : Below B w w') (hg : g < B) : Row w' g cap l := h.keep (b.block g hg)
set_option maxRecDepth 100000 in
theorem Row.later {w w' : World} {g cap : Nat} {l : List Int} (h : Row w g cap l) (b : Below w.heap.size w w') : Row w' g cap l := h.below b h.lt
set_option maxRecDepth 100000 in
theorem Row.cell {w : World} {g cap : Nat} {l : List Int} (h : Row w g cap l) (i : Nat) (hi : i < l.length) : w.cell? ⟨g, i, none⟩ = some (.int .u8 (l.getD i 0)) := by
  have := (h.owns (Nat.zero_le g)).cellAt i (by omega)
  rw [this]
  simp [List.getD, hi]
set_option maxRecDepth 100000 in
theorem Row.rd {w : World} {g cap : Nat} {l : List Int} (h : Row w g cap l) : Rd w (some ⟨g, 0, none⟩) l := fun i hi =>
  ⟨g, 0, rfl, h.lt, by rw [Nat.zero_add]; exact h.cell i hi⟩
set_option maxRecDepth 100000 in
theorem Rd.later {w w' : World} {a : Option Addr} {l : List Int} (h : Rd w a l) {B : Nat} (b : Below B w w') (hB : w.heap.size ≤ B) : Rd w' a l := by
  intro i hi
  obtain ⟨x, off, rfl, h1, h2⟩ := h i hi
  exact ⟨x, off, rfl, Nat.lt_of_lt_of_le h1 b.size, by rw [b.cell (Nat.lt_of_lt_of_le h1 hB)]; exact h2⟩

/-- What the frame of a law's proof says of a slice that came in. -/
def IsRow (k : IntKind) (w : World) (a : Option Addr) (len cap : Nat) (zs : List Int) : Prop :=
  (a = none ∧ len = 0 ∧ cap = 0 ∧ zs = []) ∨
  ∃ x, a = some x ∧ len ≤ cap ∧ cap ≤ maxLen ∧ zs.length = cap ∧ (∀ i, i < zs.length → w.cell? (x.add i) = some (.int k (zs.getD i 0))) ∧ ∀ n ∈ zs, (Lit.int k n).wf = true
set_option maxRecDepth 100000 in
theorem IsRow.read {w : World} {a : Option Addr} {len cap : Nat} {zs : List Int} (h : IsRow .u8 w a len cap zs) :
    ∃ l, len = l.length ∧ Rd w a l ∧ (a = none → cap = 0) ∧ Bytes l := by
  rcases h with ⟨rfl, rfl, rfl, rfl⟩ | ⟨x, rfl, h1, h2, h3, h4, h5⟩
  · exact ⟨[], rfl, (fun i hi => by cases hi), (fun _ => rfl), (fun z hz => by cases hz)⟩
  · refine ⟨zs.take len, by simp; omega, ?_, (fun h => by cases h), ?_⟩
    · intro i hi
      have hi' : i < len := by simp at hi; omega
      have hc := h4 i (by omega)
      have hc0 := h4 0 (by omega)
      obtain ⟨b, off, spot⟩ := x
      have hspot : spot = none := by simpa [Addr.add] using World.cell?_spot hc0
      subst hspot
      rw [Addr.add_lit] at hc
      refine ⟨b, off, rfl, World.block_lt_of_cell? w _ hc, ?_⟩
      have e : (zs.take len).getD i 0 = zs.getD i 0 := by simp [List.getD, hi']
      rw [e]
      exact hc
    · intro z hz
      have := h5 z (List.mem_of_mem_take hz)
      simpa [Lit.wf, IntKind.min, IntKind.max, IntKind.signed, IntKind.bits] using this

set_option maxRecDepth 100000 in
theorem i64_bd {a : Int} (h : (Lit.int .i64 a).wf = true) : -9223372036854775808 ≤ a ∧ a ≤ 9223372036854775807 := by
  simpa [Lit.wf, IntKind.min, IntKind.max, IntKind.signed, IntKind.bits] using h

set_option maxRecDepth 100000 in
theorem set_mid (l : List Int) (k : Nat) (hk : k < l.length) :
    (l.take k ++ List.replicate (l.length - k) 0).set k (l.getD k 0) = l.take (k + 1) ++ List.replicate (l.length - (k + 1)) 0 := by
  apply List.ext_getElem?
  intro j
  simp only [List.getElem?_set, List.getElem?_append, List.length_take, List.getElem?_take, List.getElem?_replicate, List.length_append, List.length_replicate, List.getD]
  repeat' split
  all_goals first | omega | rfl | (simp_all; done) | skip
  all_goals simp_all
  all_goals omega

set_option maxRecDepth 100000 in
theorem grown_trans {a b c : World} {row : Option Nat} (h : a.grownBy b row) (k : b.grownBy c row) : a.grownBy c row :=
  ⟨k.os.trans h.os, k.tape.trans h.tape, k.output.trans h.output, Nat.le_trans h.size k.size, fun i hi hne => (k.block i (Nat.lt_of_lt_of_le hi h.size) hne).trans (h.block i hi hne)⟩

set_option maxRecDepth 100000 in
set_option maxHeartbeats 400000 in
theorem toByteS (a : Option Addr) (n cap : Nat) (l : List Int) (w : World) (hn : n = l.length) (hr : Rd w a l) (hlen : l.length ≤ 4194304) :
    Calls Tryd.prog 19 #[.slice a n cap] w fun e w' =>
      e = .returned (.slice (some ⟨w.heap.size, 0, none⟩) n n) ∧ Row w' w.heap.size n l ∧ Below w.heap.size w w' := by
  subst hn
  obtain ⟨i0, hi, hz0, hz1, hz2⟩ := info_parts info8
  go_enter Tryd.func19, Tryd.ntmps19
  go_wp2_with (at_make; refine wpList_make_full _ rfl _ _ 22 rfl w.heap.size 5 i0 (.int .u8 0) 1 Tryd.underlying22 hi hz0 hz1 _ _ _ _ l.length rfl rfl rfl rfl (by rw [hz2]; omega) (by unfold maxLen; omega) (Nat.le_refl _) ?_; intro w1 hown hgr)
  have hb1 : Below w.heap.size w w1 := (Below.refl _ _).grown hgr (Nat.le_refl _) (fun k h => by cases h)
  have hown1 : w1.ownsRow w.heap.size 5 1 (.slice (some ⟨w.heap.size, 0, none⟩) l.length l.length) l.length ((l.take 0 ++ List.replicate (l.length - 0) 0).map (Value.int .u8)) := by
    simpa [Value.cells, toList_madeCells_one] using hown
  clear hown hgr
  go_loopw [4] (fun i wr => ∃ k : Nat, k ≤ l.length ∧ i = .int .i64 k ∧ wr.ownsRow w.heap.size 5 1 (.slice (some ⟨w.heap.size, 0, none⟩) l.length l.length) l.length ((l.take k ++ List.replicate (l.length - k) 0).map (Value.int .u8)) ∧ Below w.heap.size w wr)
    (fun i _ => l.length - (intOf i).toNat)
  case atStart => exact ⟨0, Nat.zero_le _, rfl, hown1, hb1⟩
  case round =>
    obtain ⟨k, hk, rfl, ho, hb⟩ := hrel
    clear hown1 hb1
    by_cases hlt : k < l.length
    · obtain ⟨b, off, rfl, hbl, hc⟩ := hr k hlt
      have hc' : wr.cell? ⟨b, off + k, none⟩ = some (.int .u8 (l.getD k 0)) := by rw [hb.cell hbl]; exact hc
      have hst := ho.stored k (.int .u8 (l.getD k 0))
      have hfr := ho.frozenAt k
      have hca : ∃ v, wr.cell? ⟨w.heap.size, k, none⟩ = some v := by
        rw [ho.cellAt k (by omega)]
        exact ⟨_, List.getElem?_eq_getElem (by simp; omega)⟩
      obtain ⟨v0, hca⟩ := hca
      have R1 : Hid ((wr.setCell ⟨w.heap.size, k, none⟩ (.int .u8 (l.getD k 0))).ownsRow w.heap.size 5 1 (.slice (some ⟨w.heap.size, 0, none⟩) l.length l.length) l.length ((l.take (k + 1) ++ List.replicate (l.length - (k + 1)) 0).map (Value.int .u8))) := by
        have := hst.1
        rw [← List.map_set, set_mid l k hlt] at this
        exact this
      have R2 : Hid (Below w.heap.size w (wr.setCell ⟨w.heap.size, k, none⟩ (.int .u8 (l.getD k 0)))) := hb.setCell (Nat.le_refl _) _
      clear hst hc hr ho hb
      generalize l.getD k 0 = z at *
      go_wp2
      go_roundw
      case rel => exact ⟨k + 1, by omega, by go_num, R1.out, R2.out⟩
      case measure => simp [intOf]; omega
    · go_wp2
      go_ret
      have hk' : k = l.length := by omega
      subst hk'
      rw [List.take_length, Nat.sub_self, List.replicate_zero, List.append_nil] at ho
      exact ⟨rfl, (Row.of ho).1, hb⟩

set_option maxRecDepth 100000 in
theorem take_eq_succ {x y : List Int} {k : Nat} (hx : k < x.length) (hy : k < y.length) (h : x.take k = y.take k) (he : x.getD k 0 = y.getD k 0) : x.take (k + 1) = y.take (k + 1) := by
  rw [List.take_succ_eq_append_getElem hx, List.take_succ_eq_append_getElem hy, h]
  simp only [List.getD, List.getElem?_eq_getElem hx, List.getElem?_eq_getElem hy, Option.getD_some] at he
  rw [he]
set_option maxRecDepth 100000 in
theorem dec_eq {x y : List Int} {k : Nat} (hx : ¬ k < x.length) (hl : x.length = y.length) (h : x.take k = y.take k) : decide (x = y) = true := by
  rw [List.take_of_length_le (by omega), List.take_of_length_le (by omega)] at h
  simp [h]
set_option maxRecDepth 100000 in
theorem dec_ne {x y : List Int} {k : Nat} (h : ¬ x.getD k 0 = y.getD k 0) : decide (x = y) = false := by
  simp only [decide_eq_false_iff_not]; rintro rfl; exact h rfl

set_option maxRecDepth 100000 in
set_option maxHeartbeats 400000 in
theorem eqByteS (a b : Option Addr) (na ca nb cb : Nat) (x y : List Int) (w : World) (ha : na = x.length) (hb : nb = y.length) (hx : Rd w a x) (hy : Rd w b y) (_lx : x.length ≤ 4194304) (ly : y.length ≤ 4194304) :
    Calls Tryd.prog 21 #[.slice a na ca, .slice b nb cb] w fun e w' => e = .returned (.bool (decide (x = y))) ∧ ∃ m, w' = w.drewN m := by
  subst ha hb
  by_cases hl : x.length = y.length
  · have hne : ((x.length : Int) != (y.length : Int)) = false := by simp [hl]
    have HL : Hid (x.length = y.length) := hl
    have hl1 : x.length ≤ y.length := by omega
    clear hl
    go_enter Tryd.func21, Tryd.ntmps21
    go_wp2
    go_loopw [5] (fun i wr => ∃ k m : Nat, k ≤ x.length ∧ i = .int .i64 k ∧ x.take k = y.take k ∧ wr = w.drewN m) (fun i _ => x.length - (intOf i).toNat)
    case atStart => exact ⟨0, 0, Nat.zero_le _, rfl, rfl, rfl⟩
    case round =>
      obtain ⟨k, m, hk, rfl, hs, rfl⟩ := hrel
      have HS : Hid (x.take k = y.take k) := hs
      clear hs
      by_cases hlt : k < x.length
      · obtain ⟨b1, o1, rfl, _, c1⟩ := hx k hlt
        obtain ⟨b2, o2, rfl, _, c2⟩ := hy k (by omega)
        have hlt2 : (k : Int) < (y.length : Int) := by omega
        by_cases he : x.getD k 0 = y.getD k 0
        · have HT : Hid (x.take (k + 1) = y.take (k + 1)) := take_eq_succ hlt (by omega) HS.out he
          rw [he] at c1
          clear hx hy he
          generalize y.getD k 0 = z at *
          go_wp2
          go_quiet (fail)
          go_wp2
          go_roundw
          case rel => exact ⟨k + 1, _, by omega, by go_num, HT.out, rfl⟩
          case measure => simp [intOf]; omega
        · have HD : Hid (decide (x = y) = false) := dec_ne he
          clear hx hy
          generalize x.getD k 0 = z1 at *
          generalize y.getD k 0 = z2 at *
          have hbe : (z1 != z2) = true := by simpa using he
          clear he
          go_wp2
          go_quiet (fail)
          go_wp2
          go_ret
          exact ⟨by rw [HD.out]; rfl, _, World.drewN_drewN _ _ _⟩
      · have HD : Hid (decide (x = y) = true) := dec_eq hlt HL.out HS.out
        clear hx hy
        go_wp2
        go_ret
        exact ⟨by rw [HD.out]; rfl, _, rfl⟩
  · have hne : ((x.length : Int) != (y.length : Int)) = true := by simp; omega
    have HD : Hid (decide (x = y) = false) := by
      show decide (x = y) = false
      simp only [decide_eq_false_iff_not]; rintro rfl; exact hl rfl
    clear hl
    go_enter Tryd.func21, Tryd.ntmps21
    go_wp2
    go_ret
    exact ⟨by rw [HD.out]; rfl, 0, rfl⟩

/-- The marks that are laid from k on: n of them. -/
def marks (k : Int) (n : Nat) : List Int := (List.range n).map fun i : Nat => (k + (i : Int)) % 256
set_option maxRecDepth 100000 in
theorem marks_length (k : Int) (n : Nat) : (marks k n).length = n := by simp [marks]
set_option maxRecDepth 100000 in
theorem marks_getD (k : Int) (n i : Nat) (h : i < n) : (marks k n).getD i 0 = (k + (i : Int)) % 256 := by
  simp [marks, List.getD, h]
set_option maxRecDepth 100000 in
theorem marks_bytes (k : Int) (n : Nat) : Bytes (marks k n) := by
  intro z hz
  simp only [marks, List.mem_map] at hz
  obtain ⟨i, _, rfl⟩ := hz
  omega
set_option maxRecDepth 100000 in
theorem set_mark (l : List Int) (q : Int) (k : Nat) (hk : k < l.length) :
    (marks q k ++ l.drop k).set k ((q + (k : Int)) % 256) = marks q (k + 1) ++ l.drop (k + 1) := by
  rw [List.set_append, if_neg (by rw [marks_length]; omega), marks_length, Nat.sub_self, List.drop_eq_getElem_cons hk, List.set_cons_zero]
  simp [marks, List.range_succ]

set_option maxRecDepth 100000 in
set_option maxHeartbeats 400000 in
theorem markByteS (g n cap : Nat) (l : List Int) (q : Int) (w : World) (hn : n = l.length) (hr : Row w g cap l) (hlen : l.length ≤ 4194304) (hq0 : 0 ≤ q) (hq1 : q ≤ 4194304) :
    Calls Tryd.prog 22 #[.slice (some ⟨g, 0, none⟩) n cap, .int .i64 q] w fun e w' =>
      e = .returned (.int .i64 (q + n)) ∧ Row w' g cap (marks q n) ∧ w.grownBy w' (some g) := by
  subst hn
  have hrow := hr.owns (Nat.le_refl g)
  clear hr
  go_enter Tryd.func22, Tryd.ntmps22
  go_wp2
  go_loopw [1, 5] (fun c i wr => ∃ k : Nat, k ≤ l.length ∧ i = .int .i64 k ∧ c = .int .i64 (q + k) ∧ wr.ownsRow g 5 1 (.slice (some ⟨g, 0, none⟩) l.length cap) l.length ((marks q k ++ l.drop k).map (Value.int .u8)) ∧ w.grownBy wr (some g))
    (fun _ i _ => l.length - (intOf i).toNat)
  case atStart => exact ⟨0, Nat.zero_le _, rfl, by go_num, by simpa [marks] using hrow, World.grownBy.refl _ _⟩
  case round =>
    obtain ⟨k, hk, rfl, rfl, ho, hg⟩ := hrel
    clear hrow
    by_cases hlt : k < l.length
    · have hst := ho.stored k (.int .u8 ((q + (k : Int)) % 256))
      have hfr := ho.frozenAt k
      have hca : ∃ v, wr.cell? ⟨g, k, none⟩ = some v := by
        rw [ho.cellAt k (by omega)]
        exact ⟨_, List.getElem?_eq_getElem (by simp [marks_length]; omega)⟩
      obtain ⟨v0, hca⟩ := hca
      have R1 : Hid ((wr.setCell ⟨g, k, none⟩ (.int .u8 ((q + (k : Int)) % 256))).ownsRow g 5 1 (.slice (some ⟨g, 0, none⟩) l.length cap) l.length ((marks q (k + 1) ++ l.drop (k + 1)).map (Value.int .u8))) := by
        have := hst.1
        rw [← List.map_set, set_mark l q k hlt] at this
        exact this
      have R2 : Hid (w.grownBy (wr.setCell ⟨g, k, none⟩ (.int .u8 ((q + (k : Int)) % 256))) (some g)) := grown_trans hg hst.2
      clear hst ho hg
      go_wp2
      go_roundw
      case rel => exact ⟨k + 1, by omega, by go_num, by go_num, R1.out, R2.out⟩
      case measure => simp [intOf]; omega
    · go_wp2
      go_ret
      have hk' : k = l.length := by omega
      subst hk'
      rw [List.drop_length, List.append_nil] at ho
      refine ⟨rfl, ?_, hg⟩
      have := (Row.of (l := marks q l.length) (n := l.length) ho).1
      exact this

set_option maxRecDepth 100000 in
set_option maxHeartbeats 400000 in
theorem heldByteS (a : Option Addr) (cap n : Nat) (q : Int) (w : World) (hr : Rd w a (marks q n)) (hlen : n ≤ 4194304) (hq0 : 0 ≤ q) (hq1 : q ≤ 4194304) :
    Calls Tryd.prog 23 #[.slice a n cap, .int .i64 q] w fun e w' => e = .returned (.int .i64 (q + n)) ∧ w = w' := by
  go_enter Tryd.func23, Tryd.ntmps23
  go_wp2
  go_loop [1, 5] (fun c i => ∃ k : Nat, k ≤ n ∧ i = .int .i64 k ∧ c = .int .i64 (q + k)) (fun _ i => n - (intOf i).toNat)
  case atStart => exact ⟨0, Nat.zero_le _, rfl, by go_num⟩
  case round =>
    obtain ⟨k, hk, rfl, rfl⟩ := hrel
    by_cases hlt : k < n
    · obtain ⟨b, off, rfl, _, hc⟩ := hr k (by rw [marks_length]; exact hlt)
      rw [marks_getD q n k hlt] at hc
      clear hr
      go_wp2
      go_round
      case rel => exact ⟨k + 1, by omega, by go_num, by go_num⟩
      case measure => simp [intOf]; omega
    · clear hr
      go_wp2
      go_ret
      have hk' : k = n := by omega
      subst hk'
      exact ⟨rfl, rfl⟩
end Go.Proofs.YtpenhliaelhnoaaDoor.Mem

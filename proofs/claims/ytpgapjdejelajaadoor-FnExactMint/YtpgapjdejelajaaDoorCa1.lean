/-
  Slices of bytes as rows of numbers, and what the laws' own four helpers on them do: copy, compare, mark, and look for marks. Each contract asks that the slice is read as the list that it names, and a length of at most 4,194,304.
  Slices of ints as rows of numbers, and what the laws' own four helpers on them do: copy, compare, mark, and look for imarks. Each contract asks that the slice is read as the list that it names, and a length of at most 4,194,304.
  Plain facts on int's bit operations: masks, joins and turns of numbers below 2 to the 32, no condition beyond the bounds that each lemma names.
  Appending to a row of bytes that the call itself made, whatever is appended; and what impl's and spec's PutN answer at every slice of at most 2,097,152 bytes and every two ints.
  Blocks of the call's own whose cells are known one by one (arrays, structs), and appending to a row of ints that the call itself made.
  Memory in zones: a step keeps all blocks outside of a zone; what lies in a zone is carried over steps that keep it.
  What the laws' helpers over a slice of bytes answer, with the slice as one value and its memory as a zone.
  What a call hands back, result by result: a temporary's value, or a struct that lies in a block of its own.
  The struct Jar: its data, its value, what it reads as, what it owns; and what the laws' helpers over it answer.
  Slices of ints as values whose memory lies in a zone, and what the laws' helpers over them answer.
  How long the lists of a Jar are, all in all.
-/
import Derived.Test.YtpgapjdejelajaaDoorProg
import Derived.WalkKit
import Derived.KernelRfl
import Derived.WalkLawsBesides
import Derived.Deep.QuietTactic
import Derived.BigQuiet
import Derived.Laws.AppendOwnNone
import Derived.Laws.Rows
import Derived.Laws.Tables
import Derived.Deep.WholeRow
import Derived.Great.BuildSlice
import Derived.Deep.CutBlock
set_option linter.unusedVariables false
namespace Go.Proofs.YtpgapjdejelajaaDoor.Mem
open Go.RowKit

set_option maxRecDepth 100000 in
theorem info8 : (Tryd.prog.info? 5).map (fun i => (i.zero, i.size, i.bytes)) = some (some (.int .u8 0), 1, 1) := by kernel_rfl

/-- Every number is a byte. -/
def Bytes (l : List Int) : Prop := ∀ z ∈ l, 0 ≤ z ∧ z ≤ 255
set_option maxRecDepth 100000 in
theorem Bytes.at {l : List Int} (h : Bytes l) (i : Nat) : 0 ≤ l.getD i 0 ∧ l.getD i 0 ≤ 255 := by
  by_cases hi : i < l.length
  · simpa [List.getD, hi] using h _ (List.getElem_mem hi)
  · simp [List.getD, List.getElem?_eq_none (Nat.le_of_not_lt hi)]

/-- The cells from an address on hold the numbers l. -/
def Rd (w : World) (a : Option Addr) (l : List Int) : Prop :=
  ∀ i, i < l.length → ∃ b off, a = some ⟨b, off, none⟩ ∧ b < w.heap.size ∧ w.cell? ⟨b, off + i, none⟩ = some (.int .u8 (l.getD i 0))

/-- Block g is a row of cap bytes, free to write, the first of them l. -/
def Row (w : World) (g cap : Nat) (l : List Int) : Prop :=
  l.length ≤ cap ∧ cap ≤ maxLen ∧ ∃ cur, w.heap[g]? = some (.cells cur 5 (0, 0)) ∧ cur.size = cap ∧ cur.toList.take l.length = l.map (Value.int .u8)

set_option maxRecDepth 100000 in
theorem Row.owns {w : World} {g cap : Nat} {l : List Int} (h : Row w g cap l) {base : Nat} (hb : base ≤ g) : w.ownsRow base 5 1 (.slice (some ⟨g, 0, none⟩) l.length cap) l.length (l.map (Value.int .u8)) := by
  obtain ⟨h1, h2, cur, h3, h4, h5⟩ := h
  exact ⟨by simp, .inr ⟨g, cap, cur, rfl, hb, h3, h1, h2, by omega, by simpa using h5⟩⟩
set_option maxRecDepth 100000 in
theorem Row.of {w : World} {base g n cap : Nat} {l : List Int} (h : w.ownsRow base 5 1 (.slice (some ⟨g, 0, none⟩) n cap) n (l.map (Value.int .u8))) : Row w g cap l ∧ base ≤ g ∧ n = l.length ∧ g < w.heap.size := by
  obtain ⟨h0, h⟩ := h
  have hn : n = l.length := by simpa using h0.symm
  subst hn
  rcases h with ⟨h, _⟩ | ⟨g', cap', cur, hv, hb, hg, h1, h2, h3, h4⟩
  · simp at h
  · simp only [Value.slice.injEq, Option.some.injEq, Addr.mk.injEq, and_true, true_and] at hv
    obtain ⟨rfl, rfl⟩ := hv
    exact ⟨⟨h1, h2, cur, hg, by omega, by simpa using h4⟩, hb, rfl, (Array.getElem?_eq_some_iff.1 hg).1⟩
set_option maxRecDepth 100000 in
theorem Row.keep {w w' : World} {g cap : Nat} {l : List Int} (h : Row w g cap l) (e : w'.heap[g]? = w.heap[g]?) : Row w' g cap l := by
  obtain ⟨h1, h2, cur, h3, h4⟩ := h
  exact ⟨h1, h2, cur, e.trans h3, h4⟩
set_option maxRecDepth 100000 in
theorem Row.lt {w : World} {g cap : Nat} {l : List Int} (h : Row w g cap l) : g < w.heap.size := by
  obtain ⟨_, _, cur, h3, _⟩ := h
  exact (Array.getElem?_eq_some_iff.1 h3).1
set_option maxRecDepth 100000 in
theorem Row.below {w w' : World} {g cap : Nat} {l : List Int} (h : Row w g cap l) {B : Nat} (b : Below B w w') (hg : g < B) : Row w' g cap l := h.keep (b.block g hg)
set_option maxRecDepth 100000 in
theorem Row.later {w w' : World} {g cap : Nat} {l : List Int} (h : Row w g cap l) (b : Below w.heap.size w w') : Row w' g cap l := h.below b h.lt
set_option maxRecDepth 100000 in
theorem Row.cell {w : World} {g cap : Nat} {l : List Int} (h : Row w g cap l) (i : Nat) (hi : i < l.length) : w.cell? ⟨g, i, none⟩ = some (.int .u8 (l.getD i 0)) := by
  have := (h.owns (Nat.zero_le g)).cellAt i (by omega)
  rw [this]
  simp [List.getD, hi]
set_option maxRecDepth 100000 in
theorem Row.rd {w : World} {g cap : Nat} {l : List Int} (h : Row w g cap l) : Rd w (some ⟨g, 0, none⟩) l := fun i hi =>
  ⟨g, 0, rfl, h.lt, by rw [Nat.zero_add]; exact h.cell i hi⟩
set_option maxRecDepth 100000 in
theorem Rd.later {w w' : World} {a : Option Addr} {l : List Int} (h : Rd w a l) {B : Nat} (b : Below B w w') (hB : w.heap.size ≤ B) : Rd w' a l := by
  intro i hi
  obtain ⟨x, off, rfl, h1, h2⟩ := h i hi
  exact ⟨x, off, rfl, Nat.lt_of_lt_of_le h1 b.size, by rw [b.cell (Nat.lt_of_lt_of_le h1 hB)]; exact h2⟩

/-- What the frame of a law's proof says of a slice that came in. -/
def IsRow (k : IntKind) (w : World) (a : Option Addr) (len cap : Nat) (zs : List Int) : Prop :=
  (a = none ∧ len = 0 ∧ cap = 0 ∧ zs = []) ∨
  ∃ x, a = some x ∧ len ≤ cap ∧ cap ≤ maxLen ∧ zs.length = cap ∧ (∀ i, i < zs.length → w.cell? (x.add i) = some (.int k (zs.getD i 0))) ∧ ∀ n ∈ zs, (Lit.int k n).wf = true
set_option maxRecDepth 100000 in
theorem IsRow.read {w : World} {a : Option Addr} {len cap : Nat} {zs : List Int} (h : IsRow .u8 w a len cap zs) :
    ∃ l, len = l.length ∧ Rd w a l ∧ (a = none → cap = 0) ∧ Bytes l := by
  rcases h with ⟨rfl, rfl, rfl, rfl⟩ | ⟨x, rfl, h1, h2, h3, h4, h5⟩
  · exact ⟨[], rfl, (fun i hi => by cases hi), (fun _ => rfl), (fun z hz => by cases hz)⟩
  · refine ⟨zs.take len, by simp; omega, ?_, (fun h => by cases h), ?_⟩
    · intro i hi
      have hi' : i < len := by simp at hi; omega
      have hc := h4 i (by omega)
      have hc0 := h4 0 (by omega)
      obtain ⟨b, off, spot⟩ := x
      have hspot : spot = none := by simpa [Addr.add] using World.cell?_spot hc0
      subst hspot
      rw [Addr.add_lit] at hc
      refine ⟨b, off, rfl, World.block_lt_of_cell? w _ hc, ?_⟩
      have e : (zs.take len).getD i 0 = zs.getD i 0 := by simp [List.getD, hi']
      rw [e]
      exact hc
    · intro z hz
      have := h5 z (List.mem_of_mem_take hz)
      simpa [Lit.wf, IntKind.min, IntKind.max, IntKind.signed, IntKind.bits] using this

set_option maxRecDepth 100000 in
theorem i64_bd {a : Int} (h : (Lit.int .i64 a).wf = true) : -9223372036854775808 ≤ a ∧ a ≤ 9223372036854775807 := by
  simpa [Lit.wf, IntKind.min, IntKind.max, IntKind.signed, IntKind.bits] using h

set_option maxRecDepth 100000 in
theorem set_mid (l : List Int) (k : Nat) (hk : k < l.length) :
    (l.take k ++ List.replicate (l.length - k) 0).set k (l.getD k 0) = l.take (k + 1) ++ List.replicate (l.length - (k + 1)) 0 := by
  apply List.ext_getElem?
  intro j
  simp only [List.getElem?_set, List.getElem?_append, List.length_take, List.getElem?_take, List.getElem?_replicate, List.length_append, List.length_replicate, List.getD]
  repeat' split
  all_goals first | omega | rfl | (simp_all; done) | skip
  all_goals simp_all
  all_goals omega

set_option maxRecDepth 100000 in
theorem grown_trans {a b c : World} {row : Option Nat} (h : a.grownBy b row) (k : b.grownBy c row) : a.grownBy c row :=
  ⟨k.os.trans h.os, k.tape.trans h.tape, k.output.trans h.output, Nat.le_trans h.size k.size, fun i hi hne => (k.block i (Nat.lt_of_lt_of_le hi h.size) hne).trans (h.block i hi hne)⟩

set_option maxRecDepth 100000 in
set_option maxHeartbeats 400000 in
theorem toByteS (a : Option Addr) (n cap : Nat) (l : List Int) (w : World) (hn : n = l.length) (hr : Rd w a l) (hlen : l.length ≤ 4194304) :
    Calls Tryd.prog 6 #[.slice a n cap] w fun e w' =>
      e = .returned (.slice (some ⟨w.heap.size, 0, none⟩) n n) ∧ Row w' w.heap.size n l ∧ Below w.heap.size w w' := by
  subst hn
  obtain ⟨i0, hi, hz0, hz1, hz2⟩ := info_parts info8
  go_enter Tryd.func6, Tryd.ntmps6
  go_wp2_with (at_make; refine wpList_make_full _ rfl _ _ 22 rfl w.heap.size 5 i0 (.int .u8 0) 1 Tryd.underlying22 hi hz0 hz1 _ _ _ _ l.length rfl rfl rfl rfl (by rw [hz2]; omega) (by unfold maxLen; omega) (Nat.le_refl _) ?_; intro w1 hown hgr)
  have hb1 : Below w.heap.size w w1 := (Below.refl _ _).grown hgr (Nat.le_refl _) (fun k h => by cases h)
  have hown1 : w1.ownsRow w.heap.size 5 1 (.slice (some ⟨w.heap.size, 0, none⟩) l.length l.length) l.length ((l.take 0 ++ List.replicate (l.length - 0) 0).map (Value.int .u8)) := by
    simpa [Value.cells, toList_madeCells_one] using hown
  clear hown hgr
  go_loopw [4] (fun i wr => ∃ k : Nat, k ≤ l.length ∧ i = .int .i64 k ∧ wr.ownsRow w.heap.size 5 1 (.slice (some ⟨w.heap.size, 0, none⟩) l.length l.length) l.length ((l.take k ++ List.replicate (l.length - k) 0).map (Value.int .u8)) ∧ Below w.heap.size w wr)
    (fun i _ => l.length - (intOf i).toNat)
  case atStart => exact ⟨0, Nat.zero_le _, rfl, hown1, hb1⟩
  case round =>
    obtain ⟨k, hk, rfl, ho, hb⟩ := hrel
    clear hown1 hb1
    by_cases hlt : k < l.length
    · obtain ⟨b, off, rfl, hbl, hc⟩ := hr k hlt
      have hc' : wr.cell? ⟨b, off + k, none⟩ = some (.int .u8 (l.getD k 0)) := by rw [hb.cell hbl]; exact hc
      have hst := ho.stored k (.int .u8 (l.getD k 0))
      have hfr := ho.frozenAt k
      have hca : ∃ v, wr.cell? ⟨w.heap.size, k, none⟩ = some v := by
        rw [ho.cellAt k (by omega)]
        exact ⟨_, List.getElem?_eq_getElem (by simp; omega)⟩
      obtain ⟨v0, hca⟩ := hca
      have R1 : Hid ((wr.setCell ⟨w.heap.size, k, none⟩ (.int .u8 (l.getD k 0))).ownsRow w.heap.size 5 1 (.slice (some ⟨w.heap.size, 0, none⟩) l.length l.length) l.length ((l.take (k + 1) ++ List.replicate (l.length - (k + 1)) 0).map (Value.int .u8))) := by
        have := hst.1
        rw [← List.map_set, set_mid l k hlt] at this
        exact this
      have R2 : Hid (Below w.heap.size w (wr.setCell ⟨w.heap.size, k, none⟩ (.int .u8 (l.getD k 0)))) := hb.setCell (Nat.le_refl _) _
      clear hst hc hr ho hb
      generalize l.getD k 0 = z at *
      go_wp2
      go_roundw
      case rel => exact ⟨k + 1, by omega, by go_num, R1.out, R2.out⟩
      case measure => simp [intOf]; omega
    · go_wp2
      go_ret
      have hk' : k = l.length := by omega
      subst hk'
      rw [List.take_length, Nat.sub_self, List.replicate_zero, List.append_nil] at ho
      exact ⟨rfl, (Row.of ho).1, hb⟩

set_option maxRecDepth 100000 in
theorem take_eq_succ {x y : List Int} {k : Nat} (hx : k < x.length) (hy : k < y.length) (h : x.take k = y.take k) (he : x.getD k 0 = y.getD k 0) : x.take (k + 1) = y.take (k + 1) := by
  rw [List.take_succ_eq_append_getElem hx, List.take_succ_eq_append_getElem hy, h]
  simp only [List.getD, List.getElem?_eq_getElem hx, List.getElem?_eq_getElem hy, Option.getD_some] at he
  rw [he]
set_option maxRecDepth 100000 in
theorem dec_eq {x y : List Int} {k : Nat} (hx : ¬ k < x.length) (hl : x.length = y.length) (h : x.take k = y.take k) : decide (x = y) = true := by
  rw [List.take_of_length_le (by omega), List.take_of_length_le (by omega)] at h
  simp [h]
set_option maxRecDepth 100000 in
theorem dec_ne {x y : List Int} {k : Nat} (h : ¬ x.getD k 0 = y.getD k 0) : decide (x = y) = false := by
  simp only [decide_eq_false_iff_not]; rintro rfl; exact h rfl

set_option maxRecDepth 100000 in
set_option maxHeartbeats 400000 in
theorem eqByteS (a b : Option Addr) (na ca nb cb : Nat) (x y : List Int) (w : World) (ha : na = x.length) (hb : nb = y.length) (hx : Rd w a x) (hy : Rd w b y) (_lx : x.length ≤ 4194304) (ly : y.length ≤ 4194304) :
    Calls Tryd.prog 9 #[.slice a na ca, .slice b nb cb] w fun e w' => e = .returned (.bool (decide (x = y))) ∧ ∃ m, w' = w.drewN m := by
  subst ha hb
  by_cases hl : x.length = y.length
  · have hne : ((x.length : Int) != (y.length : Int)) = false := by simp [hl]
    have HL : Hid (x.length = y.length) := hl
    have hl1 : x.length ≤ y.length := by omega
    clear hl
    go_enter Tryd.func9, Tryd.ntmps9
    go_wp2
    go_loopw [5] (fun i wr => ∃ k m : Nat, k ≤ x.length ∧ i = .int .i64 k ∧ x.take k = y.take k ∧ wr = w.drewN m) (fun i _ => x.length - (intOf i).toNat)
    case atStart => exact ⟨0, 0, Nat.zero_le _, rfl, rfl, rfl⟩
    case round =>
      obtain ⟨k, m, hk, rfl, hs, rfl⟩ := hrel
      have HS : Hid (x.take k = y.take k) := hs
      clear hs
      by_cases hlt : k < x.length
      · obtain ⟨b1, o1, rfl, _, c1⟩ := hx k hlt
        obtain ⟨b2, o2, rfl, _, c2⟩ := hy k (by omega)
        have hlt2 : (k : Int) < (y.length : Int) := by omega
        by_cases he : x.getD k 0 = y.getD k 0
        · have HT : Hid (x.take (k + 1) = y.take (k + 1)) := take_eq_succ hlt (by omega) HS.out he
          rw [he] at c1
          clear hx hy he
          generalize y.getD k 0 = z at *
          go_wp2
          go_quiet (fail)
          go_wp2
          go_roundw
          case rel => exact ⟨k + 1, _, by omega, by go_num, HT.out, rfl⟩
          case measure => simp [intOf]; omega
        · have HD : Hid (decide (x = y) = false) := dec_ne he
          clear hx hy
          generalize x.getD k 0 = z1 at *
          generalize y.getD k 0 = z2 at *
          have hbe : (z1 != z2) = true := by simpa using he
          clear he
          go_wp2
          go_quiet (fail)
          go_wp2
          go_ret
          exact ⟨by rw [HD.out]; rfl, _, World.drewN_drewN _ _ _⟩
      · have HD : Hid (decide (x = y) = true) := dec_eq hlt HL.out HS.out
        clear hx hy
        go_wp2
        go_ret
        exact ⟨by rw [HD.out]; rfl, _, rfl⟩
  · have hne : ((x.length : Int) != (y.length : Int)) = true := by simp; omega
    have HD : Hid (decide (x = y) = false) := by
      show decide (x = y) = false
      simp only [decide_eq_false_iff_not]; rintro rfl; exact hl rfl
    clear hl
    go_enter Tryd.func9, Tryd.ntmps9
    go_wp2
    go_ret
    exact ⟨by rw [HD.out]; rfl, 0, rfl⟩

/-- The marks that are laid from k on: n of them. -/
def marks (k : Int) (n : Nat) : List Int := (List.range n).map fun i : Nat => (k + (i : Int)) % 256
set_option maxRecDepth 100000 in
theorem marks_length (k : Int) (n : Nat) : (marks k n).length = n := by simp [marks]
set_option maxRecDepth 100000 in
theorem marks_getD (k : Int) (n i : Nat) (h : i < n) : (marks k n).getD i 0 = (k + (i : Int)) % 256 := by
  simp [marks, List.getD, h]
set_option maxRecDepth 100000 in
theorem marks_bytes (k : Int) (n : Nat) : Bytes (marks k n) := by
  intro z hz
  simp only [marks, List.mem_map] at hz
  obtain ⟨i, _, rfl⟩ := hz
  omega
set_option maxRecDepth 100000 in
theorem set_mark (l : List Int) (q : Int) (k : Nat) (hk : k < l.length) :
    (marks q k ++ l.drop k).set k ((q + (k : Int)) % 256) = marks q (k + 1) ++ l.drop (k + 1) := by
  rw [List.set_append, if_neg (by rw [marks_length]; omega), marks_length, Nat.sub_self, List.drop_eq_getElem_cons hk, List.set_cons_zero]
  simp [marks, List.range_succ]

set_option maxRecDepth 100000 in
set_option maxHeartbeats 400000 in
theorem markByteS (g n cap : Nat) (l : List Int) (q : Int) (w : World) (hn : n = l.length) (hr : Row w g cap l) (hlen : l.length ≤ 4194304) (hq0 : 0 ≤ q) (hq1 : q ≤ 4194304) :
    Calls Tryd.prog 10 #[.slice (some ⟨g, 0, none⟩) n cap, .int .i64 q] w fun e w' =>
      e = .returned (.int .i64 (q + n)) ∧ Row w' g cap (marks q n) ∧ w.grownBy w' (some g) := by
  subst hn
  have hrow := hr.owns (Nat.le_refl g)
  clear hr
  go_enter Tryd.func10, Tryd.ntmps10
  go_wp2
  go_loopw [1, 5] (fun c i wr => ∃ k : Nat, k ≤ l.length ∧ i = .int .i64 k ∧ c = .int .i64 (q + k) ∧ wr.ownsRow g 5 1 (.slice (some ⟨g, 0, none⟩) l.length cap) l.length ((marks q k ++ l.drop k).map (Value.int .u8)) ∧ w.grownBy wr (some g))
    (fun _ i _ => l.length - (intOf i).toNat)
  case atStart => exact ⟨0, Nat.zero_le _, rfl, by go_num, by simpa [marks] using hrow, World.grownBy.refl _ _⟩
  case round =>
    obtain ⟨k, hk, rfl, rfl, ho, hg⟩ := hrel
    clear hrow
    by_cases hlt : k < l.length
    · have hst := ho.stored k (.int .u8 ((q + (k : Int)) % 256))
      have hfr := ho.frozenAt k
      have hca : ∃ v, wr.cell? ⟨g, k, none⟩ = some v := by
        rw [ho.cellAt k (by omega)]
        exact ⟨_, List.getElem?_eq_getElem (by simp [marks_length]; omega)⟩
      obtain ⟨v0, hca⟩ := hca
      have R1 : Hid ((wr.setCell ⟨g, k, none⟩ (.int .u8 ((q + (k : Int)) % 256))).ownsRow g 5 1 (.slice (some ⟨g, 0, none⟩) l.length cap) l.length ((marks q (k + 1) ++ l.drop (k + 1)).map (Value.int .u8))) := by
        have := hst.1
        rw [← List.map_set, set_mark l q k hlt] at this
        exact this
      have R2 : Hid (w.grownBy (wr.setCell ⟨g, k, none⟩ (.int .u8 ((q + (k : Int)) % 256))) (some g)) := grown_trans hg hst.2
      clear hst ho hg
      go_wp2
      go_roundw
      case rel => exact ⟨k + 1, by omega, by go_num, by go_num, R1.out, R2.out⟩
      case measure => simp [intOf]; omega
    · go_wp2
      go_ret
      have hk' : k = l.length := by omega
      subst hk'
      rw [List.drop_length, List.append_nil] at ho
      refine ⟨rfl, ?_, hg⟩
      have := (Row.of (l := marks q l.length) (n := l.length) ho).1
      exact this

set_option maxRecDepth 100000 in
set_option maxHeartbeats 400000 in
theorem heldByteS (a : Option Addr) (cap n : Nat) (q : Int) (w : World) (hr : Rd w a (marks q n)) (hlen : n ≤ 4194304) (hq0 : 0 ≤ q) (hq1 : q ≤ 4194304) :
    Calls Tryd.prog 18 #[.slice a n cap, .int .i64 q] w fun e w' => e = .returned (.int .i64 (q + n)) ∧ w = w' := by
  go_enter Tryd.func18, Tryd.ntmps18
  go_wp2
  go_loop [1, 5] (fun c i => ∃ k : Nat, k ≤ n ∧ i = .int .i64 k ∧ c = .int .i64 (q + k)) (fun _ i => n - (intOf i).toNat)
  case atStart => exact ⟨0, Nat.zero_le _, rfl, by go_num⟩
  case round =>
    obtain ⟨k, hk, rfl, rfl⟩ := hrel
    by_cases hlt : k < n
    · obtain ⟨b, off, rfl, _, hc⟩ := hr k (by rw [marks_length]; exact hlt)
      rw [marks_getD q n k hlt] at hc
      clear hr
      go_wp2
      go_round
      case rel => exact ⟨k + 1, by omega, by go_num, by go_num⟩
      case measure => simp [intOf]; omega
    · clear hr
      go_wp2
      go_ret
      have hk' : k = n := by omega
      subst hk'
      exact ⟨rfl, rfl⟩
end Go.Proofs.YtpgapjdejelajaaDoor.Mem

namespace Go.Proofs.YtpgapjdejelajaaDoor.MemI
open Go.RowKit Go.Proofs.YtpgapjdejelajaaDoor.Mem

set_option maxRecDepth 100000 in
theorem info64 : (Tryd.prog.info? 3).map (fun i => (i.zero, i.size, i.bytes)) = some (some (.int .i64 0), 1, 8) := by kernel_rfl

/-- Every number is a byte. -/
def Ints (l : List Int) : Prop := ∀ z ∈ l, -9223372036854775808 ≤ z ∧ z ≤ 9223372036854775807
set_option maxRecDepth 100000 in
theorem Ints.at {l : List Int} (h : Ints l) (i : Nat) : -9223372036854775808 ≤ l.getD i 0 ∧ l.getD i 0 ≤ 9223372036854775807 := by
  by_cases hi : i < l.length
  · simpa [List.getD, hi] using h _ (List.getElem_mem hi)
  · simp [List.getD, List.getElem?_eq_none (Nat.le_of_not_lt hi)]

/-- The cells from an address on hold the numbers l. -/
def IRd (w : World) (a : Option Addr) (l : List Int) : Prop :=
  ∀ i, i < l.length → ∃ b off, a = some ⟨b, off, none⟩ ∧ b < w.heap.size ∧ w.cell? ⟨b, off + i, none⟩ = some (.int .i64 (l.getD i 0))

/-- Block g is a row of cap bytes, free to write, the first of them l. -/
def IRow (w : World) (g cap : Nat) (l : List Int) : Prop :=
  l.length ≤ cap ∧ cap ≤ maxLen ∧ ∃ cur, w.heap[g]? = some (.cells cur 3 (0, 0)) ∧ cur.size = cap ∧ cur.toList.take l.length = l.map (Value.int .i64)

set_option maxRecDepth 100000 in
theorem IRow.owns {w : World} {g cap : Nat} {l : List Int} (h : IRow w g cap l) {base : Nat} (hb : base ≤ g) : w.ownsRow base 3 1 (.slice (some ⟨g, 0, none⟩) l.length cap) l.length (l.map (Value.int .i64)) := by
  obtain ⟨h1, h2, cur, h3, h4, h5⟩ := h
  exact ⟨by simp, .inr ⟨g, cap, cur, rfl, hb, h3, h1, h2, by omega, by simpa using h5⟩⟩
set_option maxRecDepth 100000 in
theorem IRow.of {w : World} {base g n cap : Nat} {l : List Int} (h : w.ownsRow base 3 1 (.slice (some ⟨g, 0, none⟩) n cap) n (l.map (Value.int .i64))) : IRow w g cap l ∧ base ≤ g ∧ n = l.length ∧ g < w.heap.size := by
  obtain ⟨h0, h⟩ := h
  have hn : n = l.length := by simpa using h0.symm
  subst hn
  rcases h with ⟨h, _⟩ | ⟨g', cap', cur, hv, hb, hg, h1, h2, h3, h4⟩
  · simp at h
  · simp only [Value.slice.injEq, Option.some.injEq, Addr.mk.injEq, and_true, true_and] at hv
    obtain ⟨rfl, rfl⟩ := hv
    exact ⟨⟨h1, h2, cur, hg, by omega, by simpa using h4⟩, hb, rfl, (Array.getElem?_eq_some_iff.1 hg).1⟩
set_option maxRecDepth 100000 in
theorem IRow.keep {w w' : World} {g cap : Nat} {l : List Int} (h : IRow w g cap l) (e : w'.heap[g]? = w.heap[g]?) : IRow w' g cap l := by
  obtain ⟨h1, h2, cur, h3, h4⟩ := h
  exact ⟨h1, h2, cur, e.trans h3, h4⟩
set_option maxRecDepth 100000 in
theorem IRow.lt {w : World} {g cap : Nat} {l : List Int} (h : IRow w g cap l) : g < w.heap.size := by
  obtain ⟨_, _, cur, h3, _⟩ := h
  exact (Array.getElem?_eq_some_iff.1 h3).1
set_option maxRecDepth 100000 in
theorem IRow.below {w w' : World} {g cap : Nat} {l : List Int} (h : IRow w g cap l) {B : Nat} (b : Below B w w') (hg : g < B) : IRow w' g cap l := h.keep (b.block g hg)
set_option maxRecDepth 100000 in
theorem IRow.later {w w' : World} {g cap : Nat} {l : List Int} (h : IRow w g cap l) (b : Below w.heap.size w w') : IRow w' g cap l := h.below b h.lt
set_option maxRecDepth 100000 in
theorem IRow.cell {w : World} {g cap : Nat} {l : List Int} (h : IRow w g cap l) (i : Nat) (hi : i < l.length) : w.cell? ⟨g, i, none⟩ = some (.int .i64 (l.getD i 0)) := by
  have := (h.owns (Nat.zero_le g)).cellAt i (by omega)
  rw [this]
  simp [List.getD, hi]
set_option maxRecDepth 100000 in
theorem IRow.rd {w : World} {g cap : Nat} {l : List Int} (h : IRow w g cap l) : IRd w (some ⟨g, 0, none⟩) l := fun i hi =>
  ⟨g, 0, rfl, h.lt, by rw [Nat.zero_add]; exact h.cell i hi⟩
set_option maxRecDepth 100000 in
theorem IRd.later {w w' : World} {a : Option Addr} {l : List Int} (h : IRd w a l) {B : Nat} (b : Below B w w') (hB : w.heap.size ≤ B) : IRd w' a l := by
  intro i hi
  obtain ⟨x, off, rfl, h1, h2⟩ := h i hi
  exact ⟨x, off, rfl, Nat.lt_of_lt_of_le h1 b.size, by rw [b.cell (Nat.lt_of_lt_of_le h1 hB)]; exact h2⟩

set_option maxRecDepth 100000 in
theorem readI {w : World} {a : Option Addr} {len cap : Nat} {zs : List Int} (h : IsRow .i64 w a len cap zs) :
    ∃ l, len = l.length ∧ IRd w a l ∧ (a = none → cap = 0) ∧ Ints l := by
  rcases h with ⟨rfl, rfl, rfl, rfl⟩ | ⟨x, rfl, h1, h2, h3, h4, h5⟩
  · exact ⟨[], rfl, (fun i hi => by cases hi), (fun _ => rfl), (fun z hz => by cases hz)⟩
  · refine ⟨zs.take len, by simp; omega, ?_, (fun h => by cases h), ?_⟩
    · intro i hi
      have hi' : i < len := by simp at hi; omega
      have hc := h4 i (by omega)
      have hc0 := h4 0 (by omega)
      obtain ⟨b, off, spot⟩ := x
      have hspot : spot = none := by simpa [Addr.add] using World.cell?_spot hc0
      subst hspot
      rw [Addr.add_lit] at hc
      refine ⟨b, off, rfl, World.block_lt_of_cell? w _ hc, ?_⟩
      have e : (zs.take len).getD i 0 = zs.getD i 0 := by simp [List.getD, hi']
      rw [e]
      exact hc
    · intro z hz
      have := h5 z (List.mem_of_mem_take hz)
      simpa [Lit.wf, IntKind.min, IntKind.max, IntKind.signed, IntKind.bits] using this

/-- The imarks that are laid from k on: n of them. -/
def imarks (k : Int) (n : Nat) : List Int := (List.range n).map fun i : Nat => k + (i : Int)
set_option maxRecDepth 100000 in
theorem imarks_length (k : Int) (n : Nat) : (imarks k n).length = n := by simp [imarks]
set_option maxRecDepth 100000 in
theorem imarks_getD (k : Int) (n i : Nat) (h : i < n) : (imarks k n).getD i 0 = k + (i : Int) := by
  simp [imarks, List.getD, h]
set_option maxRecDepth 100000 in
theorem iset_mark (l : List Int) (q : Int) (k : Nat) (hk : k < l.length) :
    (imarks q k ++ l.drop k).set k (q + (k : Int)) = imarks q (k + 1) ++ l.drop (k + 1) := by
  rw [List.set_append, if_neg (by rw [imarks_length]; omega), imarks_length, Nat.sub_self, List.drop_eq_getElem_cons hk, List.set_cons_zero]
  simp [imarks, List.range_succ]

end Go.Proofs.YtpgapjdejelajaaDoor.MemI

namespace Go.Proofs.YtpgapjdejelajaaDoor.Bits
open Go.RowKit (wrap64)

set_option maxRecDepth 100000 in
theorem wrap_i64_nat (m : Nat) (h : m < 9223372036854775808) : IntKind.i64.wrap (m : Int) = (m : Int) := by
  rw [IntKind.wrap_i64]; omega

set_option maxRecDepth 100000 in
theorem ofInt64_nat (a : Nat) (h : a < 18446744073709551616) : (BitVec.ofInt 64 (a : Int)).toNat = a := by
  rw [BitVec.ofInt_natCast, BitVec.toNat_ofNat]; exact Nat.mod_eq_of_lt (by omega)

set_option maxRecDepth 100000 in
theorem and_i64 (a b : Nat) (ha : a < 9223372036854775808) (hb : b < 9223372036854775808) : bits .and .i64 (a : Int) (b : Int) = ((a &&& b : Nat) : Int) := by
  have h : a &&& b < 9223372036854775808 := Nat.lt_of_le_of_lt Nat.and_le_left ha
  show IntKind.i64.wrap ((BitVec.ofInt 64 (a : Int) &&& BitVec.ofInt 64 (b : Int)).toNat : Int) = _
  rw [BitVec.toNat_and, ofInt64_nat a (by omega), ofInt64_nat b (by omega), wrap_i64_nat _ h]

set_option maxRecDepth 100000 in
theorem or_i64 (a b : Nat) (ha : a < 9223372036854775808) (hb : b < 9223372036854775808) : bits .or .i64 (a : Int) (b : Int) = ((a ||| b : Nat) : Int) := by
  have h : a ||| b < 2 ^ 63 := Nat.or_lt_two_pow (by omega) (by omega)
  show IntKind.i64.wrap ((BitVec.ofInt 64 (a : Int) ||| BitVec.ofInt 64 (b : Int)).toNat : Int) = _
  rw [BitVec.toNat_or, ofInt64_nat a (by omega), ofInt64_nat b (by omega), wrap_i64_nat _ (by omega)]

set_option maxRecDepth 100000 in
theorem xor_i64 (a b : Nat) (ha : a < 9223372036854775808) (hb : b < 9223372036854775808) : bits .xor .i64 (a : Int) (b : Int) = ((a ^^^ b : Nat) : Int) := by
  have h : a ^^^ b < 2 ^ 63 := Nat.xor_lt_two_pow (by omega) (by omega)
  show IntKind.i64.wrap ((BitVec.ofInt 64 (a : Int) ^^^ BitVec.ofInt 64 (b : Int)).toNat : Int) = _
  rw [BitVec.toNat_xor, ofInt64_nat a (by omega), ofInt64_nat b (by omega), wrap_i64_nat _ (by omega)]

set_option maxRecDepth 100000 in
theorem or_u32 (a b : Nat) (ha : a < 4294967296) (hb : b < 4294967296) : bits .or .u32 (a : Int) (b : Int) = ((a ||| b : Nat) : Int) := by
  have h : a ||| b < 2 ^ 32 := Nat.or_lt_two_pow (by omega) (by omega)
  have e : ∀ c : Nat, c < 4294967296 → (BitVec.ofInt 32 (c : Int)).toNat = c := fun c hc => by rw [BitVec.ofInt_natCast, BitVec.toNat_ofNat]; exact Nat.mod_eq_of_lt (by omega)
  show IntKind.u32.wrap ((BitVec.ofInt 32 (a : Int) ||| BitVec.ofInt 32 (b : Int)).toNat : Int) = _
  rw [BitVec.toNat_or, e a ha, e b hb, show ∀ n, IntKind.u32.wrap n = n % 4294967296 from fun n => by simp [IntKind.wrap, IntKind.bits, IntKind.signed]]
  omega

set_option maxRecDepth 100000 in
/-- A mask of the k lowest bits, of whatever int: what is left behind a division by their power. -/
theorem mask_i64 (k : Nat) (hk : k ≤ 62) (x : Int) : bits .and .i64 x ((2 ^ k - 1 : Nat) : Int) = x % ((2 ^ k : Nat) : Int) := by
  have hp : 2 ^ k ≤ 2 ^ 62 := Nat.pow_le_pow_right (by omega) hk
  have hp0 : 0 < 2 ^ k := Nat.two_pow_pos k
  have e : (2 : Nat) ^ 62 = 4611686018427387904 := by decide
  have hl : (x % 18446744073709551616).toNat % 2 ^ k < 9223372036854775808 := by
    have := Nat.mod_lt (x % 18446744073709551616).toNat hp0; omega
  show IntKind.i64.wrap ((BitVec.ofInt 64 x &&& BitVec.ofInt 64 ((2 ^ k - 1 : Nat) : Int)).toNat : Int) = _
  rw [BitVec.toNat_and, ofInt64_nat _ (by omega), Nat.and_two_pow_sub_one_eq_mod, BitVec.toNat_ofInt]
  have e2 : (((2 ^ 64 : Nat) : Int)) = 18446744073709551616 := by decide
  rw [e2, wrap_i64_nat _ hl]
  have h1 : (((x % 18446744073709551616).toNat % 2 ^ k : Nat) : Int) = (x % 18446744073709551616) % ((2 ^ k : Nat) : Int) := by
    rw [Int.natCast_emod, Int.toNat_of_nonneg (by omega)]
  rw [h1]
  refine Int.emod_emod_of_dvd x ?_
  have : (18446744073709551616 : Int) = ((2 ^ k * 2 ^ (64 - k) : Nat) : Int) := by rw [← Nat.pow_add, show k + (64 - k) = 64 by omega]; decide
  rw [this, Int.natCast_mul]
  exact Int.dvd_mul_right _ _

set_option maxRecDepth 100000 in
theorem mask32 (x : Int) : bits .and .i64 x 4294967295 = x % 4294967296 := mask_i64 32 (by omega) x
set_option maxRecDepth 100000 in
theorem mask8 (x : Int) : bits .and .i64 x 255 = x % 256 := mask_i64 8 (by omega) x
set_option maxRecDepth 100000 in
theorem mask30 (x : Int) : bits .and .i64 x 1073741823 = x % 1073741824 := mask_i64 30 (by omega) x

/-- What a word of 32 bits is, turned to the right by n of 1 to 31. -/
def rotN (x n : Nat) : Nat := x / 2 ^ n ||| x * 2 ^ (32 - n) % 4294967296
def rot (x n : Int) : Int := if 1 ≤ n ∧ n ≤ 31 then ((rotN (x % 4294967296).toNat n.toNat : Nat) : Int) else x % 4294967296

set_option maxRecDepth 100000 in
theorem rotN_lt (x n : Nat) (hx : x < 4294967296) : rotN x n < 4294967296 := by
  have h1 : x / 2 ^ n < 2 ^ 32 := Nat.lt_of_le_of_lt (Nat.div_le_self _ _) (by omega)
  have h2 : x * 2 ^ (32 - n) % 4294967296 < 2 ^ 32 := by omega
  have := Nat.or_lt_two_pow h1 h2
  unfold rotN; omega
set_option maxRecDepth 100000 in
theorem rot_bd (x n : Int) : 0 ≤ rot x n ∧ rot x n ≤ 4294967295 := by
  unfold rot
  split
  · have := rotN_lt (x % 4294967296).toNat n.toNat (by omega); omega
  · omega

set_option maxRecDepth 100000 in
theorem rot_wide (x n : Int) (h1 : 1 ≤ n) (h2 : n ≤ 31) :
    bits .and .i64 (bits .or .i64 (x % 4294967296 / 2 ^ n.toNat) (wrap64 (x % 4294967296 * 2 ^ (32 - n).toNat))) 4294967295 = rot x n := by
  obtain ⟨X, hX⟩ := Int.eq_ofNat_of_zero_le (show 0 ≤ x % 4294967296 by omega)
  obtain ⟨N, rfl⟩ := Int.eq_ofNat_of_zero_le (show 0 ≤ n by omega)
  have hXl : X < 4294967296 := by omega
  have e1 : (32 - (N : Int)).toNat = 32 - N := by omega
  have hpw : 2 ^ (32 - N) ≤ 2 ^ 31 := Nat.pow_le_pow_right (by omega) (by omega)
  have e31 : (2 : Nat) ^ 31 = 2147483648 := by decide
  have hm : X * 2 ^ (32 - N) < 9223372036854775808 := by
    have := Nat.mul_le_mul (show X ≤ 4294967295 by omega) hpw; omega
  have hd : X / 2 ^ N < 9223372036854775808 := Nat.lt_of_le_of_lt (Nat.div_le_self _ _) (by omega)
  have e2 : (X : Int) / 2 ^ N = ((X / 2 ^ N : Nat) : Int) := by simp
  have e3 : (X : Int) * 2 ^ (32 - N) = ((X * 2 ^ (32 - N) : Nat) : Int) := by simp
  have e4 : wrap64 ((X * 2 ^ (32 - N) : Nat) : Int) = ((X * 2 ^ (32 - N) : Nat) : Int) := by rw [← IntWalk.i64_left]; exact wrap_i64_nat _ hm
  rw [mask32]
  unfold rot
  rw [if_pos ⟨h1, h2⟩, hX, e1]
  simp only [Int.toNat_natCast]
  rw [e2, e3, e4, or_i64 _ _ hd hm]
  unfold rotN
  rw [show (4294967296 : Int) = ((2 ^ 32 : Nat) : Int) by decide, ← Int.natCast_emod, Nat.or_mod_two_pow, Nat.mod_eq_of_lt (a := X / 2 ^ N)]
  exact Nat.lt_of_le_of_lt (Nat.div_le_self _ _) (by omega)

set_option maxRecDepth 100000 in
theorem rot_word (x n : Int) (h1 : 1 ≤ n) (h2 : n ≤ 31) :
    wrap64 (bits .or .u32 (x % 4294967296 / 2 ^ n.toNat) (x % 4294967296 * 2 ^ (32 - n).toNat % 4294967296)) = rot x n := by
  obtain ⟨X, hX⟩ := Int.eq_ofNat_of_zero_le (show 0 ≤ x % 4294967296 by omega)
  obtain ⟨N, rfl⟩ := Int.eq_ofNat_of_zero_le (show 0 ≤ n by omega)
  have hXl : X < 4294967296 := by omega
  have e1 : (32 - (N : Int)).toNat = 32 - N := by omega
  have hd : X / 2 ^ N < 4294967296 := Nat.lt_of_le_of_lt (Nat.div_le_self _ _) (by omega)
  have e2 : (X : Int) / 2 ^ N = ((X / 2 ^ N : Nat) : Int) := by simp
  have e3 : (X : Int) * 2 ^ (32 - N) % 4294967296 = ((X * 2 ^ (32 - N) % 4294967296 : Nat) : Int) := by simp
  have hb := rotN_lt X N hXl
  unfold rot
  rw [if_pos ⟨h1, h2⟩, hX, e1]
  simp only [Int.toNat_natCast]
  rw [e2, e3, or_u32 _ _ hd (by omega)]
  unfold rotN at hb ⊢
  rw [← IntWalk.i64_left]; exact wrap_i64_nat _ (by omega)

set_option maxRecDepth 100000 in
theorem rot_zero (x : Int) : wrap64 (x % 4294967296) = x % 4294967296 := by
  obtain ⟨X, hX⟩ := Int.eq_ofNat_of_zero_le (show 0 ≤ x % 4294967296 by omega)
  rw [hX, ← IntWalk.i64_left]; exact wrap_i64_nat X (by omega)

end Go.Proofs.YtpgapjdejelajaaDoor.Bits

namespace Go.Proofs.YtpgapjdejelajaaDoor.App
open Go.RowKit Go.Proofs.YtpgapjdejelajaaDoor.Mem

set_option maxRecDepth 100000 in
theorem Rd.cells {w : World} {ad : Addr} {y : List Int} (h : Rd w (some ad) y) : ∀ j u, (y.map (Value.int .u8))[j]? = some u → w.cell? (ad.add j) = some u := by
  intro j u hu
  have hj : j < y.length := by
    have := (List.getElem?_eq_some_iff.1 hu).1
    simpa using this
  obtain ⟨b, off, e, _, hc⟩ := h j hj
  obtain rfl := Option.some.inj e
  rw [Addr.add_lit, hc]
  simpa [List.getD, hj] using hu

set_option maxRecDepth 100000 in
theorem wpList_app (w : World) {ops : Array Oper} {rest : List Oper} {o : Oper} {a : Act} {Q : Exit → Act → World → Prop} (hgd : o.guard = none) (s x : Operand)
    (ho : o.op = .call { callee := .builtin .append, args := #[s, x], argTypes := #[22, 22] })
    (base g n cap : Nat) (l y : List Int) (hs : a.eval s = .slice (some ⟨g, 0, none⟩) n cap) (hn : n = l.length) (hrow : Row w g cap l) (hbg : base ≤ g)
    (ao : Option Addr) (m c : Nat) (hx : a.eval x = .slice ao m c) (hm : m = y.length) (hrd : Rd w ao y) (hnone : ao = none → c = 0) (hsum : l.length + y.length ≤ 100000000)
    (h : ∀ g' cap' w', Row w' g' cap' (l ++ y) → base ≤ g' → g' < w'.heap.size → w.grownBy w' (some g) → wpList Tryd.prog ops Q rest (a.put o.dst (.slice (some ⟨g', 0, none⟩) (n + m) cap')) w') :
    wpList Tryd.prog ops Q (o :: rest) a w := by
  obtain ⟨i0, hi, hz0, hz1, hz2⟩ := info_parts info8
  subst hn hm
  have hlt := hrow.lt
  cases ao with
  | none =>
    have hy : y = [] := by
      cases y with
      | nil => rfl
      | cons z r => obtain ⟨_, _, e, _⟩ := hrd 0 (by simp); cases e
    subst hy
    have hc0 := hnone rfl
    subst hc0
    refine wpList_append_own_none hgd s x 22 ho base 5 i0 1 Tryd.underlying22 hi _ _ _ hs (hrow.owns hbg) hx ?_
    simpa using h g cap w (by simpa using hrow) hbg hlt (World.grownBy.refl _ _)
  | some ad =>
    refine wpList_append_own w hgd s x 22 ho base 5 i0 (.int .u8 0) 1 1 Tryd.underlying22 hi hz0 hz1 hz2 rfl (by decide) _ _ _ hs (hrow.owns hbg) ad y.length c (y.map (Value.int .u8)) hx (by simp) (Rd.cells hrd) (ints_oneCell _ _) (by unfold maxLen; omega) (by omega) (by omega) ?_
    intro v' w' hown hgr hiff
    rcases hown.2 with ⟨hv, _⟩ | ⟨g', cap', cur, rfl, hb, hg', _⟩
    · exact absurd (hiff.1 hv).1 (by simp)
    · rw [← List.map_append] at hown
      obtain ⟨r1, r2, _, r4⟩ := Row.of hown
      exact h g' cap' w' r1 r2 r4 hgr

set_option maxRecDepth 100000 in
theorem wpList_fit (w : World) {ops : Array Oper} {rest : List Oper} {o : Oper} {a : Act} {Q : Exit → Act → World → Prop} (hgd : o.guard = none) (s x : Operand)
    (ho : o.op = .call { callee := .builtin .append, args := #[s, x], argTypes := #[22, 22] })
    (g n cap : Nat) (l y : List Int) (hs : a.eval s = .slice (some ⟨g, 0, none⟩) n cap) (hn : n = l.length) (hrow : Row w g cap l)
    (ao : Option Addr) (m c : Nat) (hx : a.eval x = .slice ao m c) (hm : m = y.length) (hrd : Rd w ao y) (hnone : ao = none → c = 0) (hsum : l.length + y.length ≤ cap)
    (h : ∀ w', Row w' g cap (l ++ y) → w.grownBy w' (some g) → wpList Tryd.prog ops Q rest (a.put o.dst (.slice (some ⟨g, 0, none⟩) (n + m) cap)) w') :
    wpList Tryd.prog ops Q (o :: rest) a w := by
  obtain ⟨i0, hi, hz0, hz1, hz2⟩ := info_parts info8
  subst hn hm
  refine wpList_append_fits_any w hgd s x 22 ho g 5 i0 1 Tryd.underlying22 hi hz1 g l.length cap _ hs (hrow.owns (Nat.le_refl _)) ao y.length c (y.map (Value.int .u8)) hx (by simp) ?_ ?_ (ints_oneCell _ _) hsum ?_
  · intro e
    subst e
    refine ⟨?_, hnone rfl⟩
    cases y with
    | nil => rfl
    | cons z r => obtain ⟨_, _, e, _⟩ := hrd 0 (by simp); cases e
  · intro ad e
    subst e
    exact Rd.cells hrd
  · intro w' hown hgr
    rw [← List.map_append] at hown
    exact h w' (Row.of hown).1 hgr

set_option maxRecDepth 100000 in
theorem rd_one (w : World) (z : Int) : Rd (w.alloc (.cells #[.int .u8 z] 5)) (some ⟨w.heap.size, 0, none⟩) [z] := by
  intro i hi
  have : i = 0 := by simpa using hi
  subst this
  exact ⟨_, _, rfl, by simp, by simp [World.cell?_alloc_at]⟩
set_option maxRecDepth 100000 in
theorem rd_two (w : World) (z y : Int) : Rd (w.alloc (.cells #[.int .u8 z, .int .u8 y] 5)) (some ⟨w.heap.size, 0, none⟩) [z, y] := by
  intro i hi
  have : i = 0 ∨ i = 1 := by simp at hi; omega
  rcases this with rfl | rfl
  · exact ⟨_, _, rfl, by simp, by simp [World.cell?_alloc_at]⟩
  · exact ⟨_, _, rfl, by simp, by simp [World.cell?_alloc_at]⟩
set_option maxRecDepth 100000 in
theorem row_new (w : World) (z : List Int) (hz : z.length ≤ maxLen) : Row (w.alloc (.cells (z.map (Value.int .u8)).toArray 5)) w.heap.size z.length z :=
  ⟨Nat.le_refl _, hz, _, heap_alloc_new w _, by simp, by simp [← List.map_take]⟩
set_option maxRecDepth 100000 in
theorem row_alloc {w : World} {g cap : Nat} {l : List Int} (h : Row w g cap l) (o : Obj) : Row (w.alloc o) g cap l := h.keep (Below.heap_alloc w o g h.lt)
set_option maxRecDepth 100000 in
theorem rd_alloc {w : World} {a : Option Addr} {l : List Int} (h : Rd w a l) (o : Obj) : Rd (w.alloc o) a l := h.later ((Below.refl w.heap.size w).alloc (Nat.le_refl _) o) (Nat.le_refl _)

set_option maxRecDepth 100000 in
set_option maxHeartbeats 400000 in
theorem putBytes (a b : Option Addr) (nx ca ny cb : Nat) (x y : List Int) (w : World) (ex : nx = x.length) (ey : ny = y.length) (hx : Rd w a x) (hy : Rd w b y) (na : a = none → ca = 0) (nb : b = none → cb = 0) (lx : x.length ≤ 4194304) (ly : y.length ≤ 4194304) :
    Calls Tryd.prog 53 #[.slice a nx ca, .slice b ny cb] w fun e w' =>
      e = .returned (.slice (some ⟨w.heap.size, 0, none⟩) (nx + ny) (nx + ny)) ∧ Row w' w.heap.size (nx + ny) (x ++ y) ∧ Below w.heap.size w w' := by
  subst ex ey
  obtain ⟨i0, hi, hz0, hz1, hz2⟩ := info_parts info8
  have HX : Hid (Rd w a x) := hx
  have HY : Hid (Rd w b y) := hy
  clear hx hy
  go_enter Tryd.func53, Tryd.ntmps53
  go_wp2_with (first | (at_make; refine wpList_make_own _ rfl _ _ 22 rfl w.heap.size 5 i0 (.int .u8 0) 1 Tryd.underlying22 hi hz0 hz1 _ _ _ (x.length + y.length) rfl rfl (by omega) (by rw [hz2]; omega) (by unfold maxLen; omega) (Nat.le_refl _) ?_; intro w1 hown hgr; have hb1 : Hid (Below w.heap.size w w1) := (Below.refl _ _).grown hgr (Nat.le_refl _) (fun k h => by cases h); have hr1 : Hid (Row w1 w.heap.size (x.length + y.length) []) := (Row.of (l := []) hown).1; clear hown hgr) | (at_builtin; refine wpList_fit _ rfl (.tmp 12) (.tmp 13) rfl w.heap.size 0 (x.length + y.length) [] x rfl rfl hr1.out a x.length ca rfl rfl (HX.out.later hb1.out (Nat.le_refl _)) na (by simp) ?_; intro w2 hr2 hg2; have hb2 : Hid (Below w.heap.size w w2) := hb1.out.grown hg2 hb1.out.size (fun k h => by cases h; exact Nat.le_refl _); have hr2 : Hid (Row w2 w.heap.size (x.length + y.length) ([] ++ x)) := hr2; clear hg2) | (at_builtin; refine wpList_fit _ rfl (.tmp 15) (.tmp 16) rfl w.heap.size x.length (x.length + y.length) ([] ++ x) y rfl rfl hr2.out b y.length cb rfl rfl (HY.out.later hb2.out (Nat.le_refl _)) nb (by simp) ?_; intro w3 hr3 hg3; have hb3 : Hid (Below w.heap.size w w3) := hb2.out.grown hg3 hb2.out.size (fun k h => by cases h; exact Nat.le_refl _); have hr3 : Hid (Row w3 w.heap.size (x.length + y.length) ([] ++ x ++ y)) := hr3; clear hg3))
  go_ret
  exact ⟨rfl, by simpa using hr3.out, hb3.out⟩

/-- Whether a number of k bytes is one. -/
def isSize (k : Int) : Bool := decide (1 ≤ k ∧ k ≤ 6)
set_option maxRecDepth 100000 in
theorem isSize_iff (k : Int) : isSize k = true ↔ 1 ≤ k ∧ k ≤ 6 := by simp [isSize]
set_option maxRecDepth 100000 in
theorem isSize_not (k : Int) (h : ¬ (1 ≤ k ∧ k ≤ 6)) : isSize k = false := by simpa [isSize] using h

set_option maxRecDepth 100000 in
theorem isNumberSize (k : Int) (w : World) :
    Calls Tryd.prog 54 #[.int .i64 k] w fun e w' => e = .returned (.bool (isSize k)) ∧ w = w' := by
  by_cases h1 : 1 ≤ k
  · by_cases h2 : k ≤ 6
    · have H : Hid (isSize k = true) := (isSize_iff k).2 ⟨h1, h2⟩
      go_enter Tryd.func54, Tryd.ntmps54
      go_wp2
      go_ret
      exact ⟨by rw [H.out]; simp, rfl⟩
    · have H : Hid (isSize k = false) := isSize_not k (by omega)
      go_enter Tryd.func54, Tryd.ntmps54
      go_wp2
      go_ret
      exact ⟨by rw [H.out]; simp, rfl⟩
  · have H : Hid (isSize k = false) := isSize_not k (by omega)
    go_enter Tryd.func54, Tryd.ntmps54
    go_wp2
    go_ret
    exact ⟨by rw [H.out]; simp, rfl⟩

/-- A number's k lowest bytes, the highest first. -/
def num (n : Int) : Nat → List Int
  | 0 => []
  | j + 1 => n / 2 ^ (8 * j) % 256 :: num n j
set_option maxRecDepth 100000 in
theorem num_length (n : Int) (k : Nat) : (num n k).length = k := by induction k with
  | zero => rfl
  | succ j ih => simp [num, ih]
set_option maxRecDepth 100000 in
theorem num_bytes (n : Int) (k : Nat) : Bytes (num n k) := by
  induction k with
  | zero => intro z hz; cases hz
  | succ j ih =>
    intro z hz
    simp only [num, List.mem_cons] at hz
    rcases hz with rfl | hz
    · omega
    · exact ih z hz
set_option maxRecDepth 100000 in
theorem num_getD (n : Int) (k j : Nat) (h : j < k) : (num n k).getD j 0 = n / 2 ^ (8 * (k - 1 - j)) % 256 := by
  induction k generalizing j with
  | zero => omega
  | succ i ih =>
    cases j with
    | zero => simp [num]
    | succ j =>
      have := ih j (by omega)
      rw [show i + 1 - 1 - (j + 1) = i - 1 - j by omega]
      simpa [num] using this
set_option maxRecDepth 100000 in
theorem num_take (n : Int) (k j : Nat) (h : j < k) : (num n k).take (j + 1) = (num n k).take j ++ [n / 2 ^ (8 * (k - 1 - j)) % 256] := by
  rw [List.take_succ_eq_append_getElem (by rw [num_length]; exact h)]
  have := num_getD n k j h
  simp only [List.getD, List.getElem?_eq_getElem (show j < (num n k).length by rw [num_length]; exact h), Option.getD_some] at this
  rw [this]
def putN (n k : Int) : List Int := if 1 ≤ k ∧ k ≤ 6 then num n k.toNat else []
set_option maxRecDepth 100000 in
theorem putN_length (n k : Int) : (putN n k).length ≤ 6 := by
  unfold putN; split
  · rw [num_length]; omega
  · simp
set_option maxRecDepth 100000 in
theorem set_num (n : Int) (k j : Nat) (h : j < k) :
    (List.replicate (k - j) (0 : Int) ++ num n j).set (k - 1 - j) (n / 2 ^ (8 * j) % 256) = List.replicate (k - (j + 1)) 0 ++ num n (j + 1) := by
  rw [show k - j = (k - (j + 1)) + 1 by omega, List.replicate_succ', List.append_assoc, List.set_append, if_neg (by simp; omega), List.length_replicate, show k - 1 - j - (k - (j + 1)) = 0 by omega]
  rfl
set_option maxRecDepth 100000 in
theorem div_step (n : Int) (j : Nat) : n / 2 ^ (8 * j) / 256 = n / 2 ^ (8 * (j + 1)) := by
  rw [Int.ediv_ediv_of_nonneg (Int.le_of_lt (Int.pow_pos (by decide))), show (256 : Int) = 2 ^ 8 by decide, ← Int.pow_add]
  congr 2

set_option maxRecDepth 100000 in
set_option maxHeartbeats 400000 in
theorem highestFirst (n : Int) (k : Nat) (w : World) (h1 : 1 ≤ k) (h6 : k ≤ 8) :
    Calls Tryd.prog 55 #[.int .i64 n, .int .i64 k] w fun e w' =>
      e = .returned (.slice (some ⟨w.heap.size, 0, none⟩) k k) ∧ Row w' w.heap.size k (num n k) ∧ Below w.heap.size w w' := by
  obtain ⟨i0, hi, hz0, hz1, hz2⟩ := info_parts info8
  go_enter Tryd.func55, Tryd.ntmps55
  go_wp2_with (at_make; refine wpList_make_full _ rfl _ _ 22 rfl w.heap.size 5 i0 (.int .u8 0) 1 Tryd.underlying22 hi hz0 hz1 _ _ _ _ k rfl rfl rfl rfl (by rw [hz2]; omega) (by unfold maxLen; omega) (Nat.le_refl _) ?_; intro w1 hown hgr)
  have hb1 : Below w.heap.size w w1 := (Below.refl _ _).grown hgr (Nat.le_refl _) (fun k h => by cases h)
  have hown1 : w1.ownsRow w.heap.size 5 1 (.slice (some ⟨w.heap.size, 0, none⟩) k k) k ((List.replicate (k - 0) (0 : Int) ++ num n 0).map (Value.int .u8)) := by
    simpa [Value.cells, toList_madeCells_one, num] using hown
  clear hown hgr
  go_loopw [0, 6] (fun c i wr => ∃ j : Nat, j ≤ k ∧ i = .int .i64 ((k : Int) - 1 - j) ∧ c = .int .i64 (n / 2 ^ (8 * j)) ∧ wr.ownsRow w.heap.size 5 1 (.slice (some ⟨w.heap.size, 0, none⟩) k k) k ((List.replicate (k - j) (0 : Int) ++ num n j).map (Value.int .u8)) ∧ Below w.heap.size w wr)
    (fun _ i _ => (intOf i + 1).toNat)
  case atStart => exact ⟨0, Nat.zero_le _, by go_num, by simp, hown1, hb1⟩
  case round =>
    obtain ⟨j, hj, rfl, rfl, ho, hb⟩ := hrel
    clear hown1 hb1
    by_cases hlt : j < k
    · have hst := ho.stored (k - 1 - j) (.int .u8 (n / 2 ^ (8 * j) % 256))
      have hfr := ho.frozenAt (k - 1 - j)
      have hca : ∃ v, wr.cell? ⟨w.heap.size, k - 1 - j, none⟩ = some v := by
        rw [ho.cellAt (k - 1 - j) (by omega)]
        exact ⟨_, List.getElem?_eq_getElem (by simp [num_length]; omega)⟩
      obtain ⟨v0, hca⟩ := hca
      have R1 : Hid ((wr.setCell ⟨w.heap.size, k - 1 - j, none⟩ (.int .u8 (n / 2 ^ (8 * j) % 256))).ownsRow w.heap.size 5 1 (.slice (some ⟨w.heap.size, 0, none⟩) k k) k ((List.replicate (k - (j + 1)) (0 : Int) ++ num n (j + 1)).map (Value.int .u8))) := by
        have := hst.1
        rw [← List.map_set, set_num n k j hlt] at this
        exact this
      have R2 : Hid (Below w.heap.size w (wr.setCell ⟨w.heap.size, k - 1 - j, none⟩ (.int .u8 (n / 2 ^ (8 * j) % 256)))) := hb.setCell (Nat.le_refl _) _
      have R3 : Hid (n / 2 ^ (8 * j) / 256 = n / 2 ^ (8 * (j + 1))) := div_step n j
      obtain ⟨q, hq⟩ : ∃ q : Nat, (q : Int) = (k : Int) - 1 - j := ⟨k - 1 - j, by omega⟩
      have hq' : k - 1 - j = q := by omega
      rw [hq'] at hfr hca R1 R2
      rw [← hq]
      have HQ : Hid ((q : Int) = (k : Int) - 1 - j) := hq
      have hqk : q < k := by omega
      clear hst ho hb hq hq'
      generalize n / 2 ^ (8 * j) = c at *
      go_wp2
      go_roundw
      case rel => exact ⟨j + 1, by omega, by have := HQ.out; go_num, by rw [← R3.out], R1.out, R2.out⟩
      case measure => simp [intOf]
    · obtain rfl : j = k := by omega
      have hneg : (j : Int) - 1 - (j : Int) < 0 := by omega
      go_wp2
      go_ret
      rw [Nat.sub_self, List.replicate_zero, List.nil_append] at ho
      exact ⟨rfl, (Row.of ho).1, hb⟩

set_option maxRecDepth 100000 in
set_option maxHeartbeats 400000 in
theorem implPutN (a : Option Addr) (nl ca : Nat) (l : List Int) (n k : Int) (w : World) (hn : nl = l.length) (hr : Rd w a l) (na : a = none → ca = 0) (ll : l.length ≤ 2097152) :
    Calls Tryd.prog 39 #[.slice a nl ca, .int .i64 n, .int .i64 k] w fun e w' =>
      ∃ g m cap, e = .returned (.slice (some ⟨g, 0, none⟩) m cap) ∧ m = (l ++ putN n k).length ∧ w.heap.size ≤ g ∧ Row w' g cap (l ++ putN n k) ∧ Below w.heap.size w w' := by
  subst hn
  have HR : Hid (Rd w a l) := hr
  clear hr
  by_cases hk : 1 ≤ k ∧ k ≤ 6
  · obtain ⟨K, rfl⟩ := Int.eq_ofNat_of_zero_le (show 0 ≤ k by omega)
    have hs : isSize (K : Int) = true := (isSize_iff _).2 hk
    have HP : Hid (putN n (K : Int) = num n K) := by show putN n (K : Int) = num n K; unfold putN; rw [if_pos hk, Int.toNat_natCast]
    have hk1 : 1 ≤ K := by omega
    have hk2 : K ≤ 6 := by omega
    clear hk
    go_enter Tryd.func39, Tryd.ntmps39
    go_wp2_with fail
    refine (isNumberSize _ _).mono ?_
    rintro e w1 ⟨rfl, rfl⟩
    go_wp2_with fail
    refine (highestFirst n K _ hk1 (by omega)).mono ?_
    rintro e w1 ⟨rfl, h1, h2⟩
    go_wp2_with fail
    have HN : Hid ((num n K).length = K) := num_length n K
    refine (putBytes a _ _ ca K K l (num n K) w1 rfl HN.out.symm (HR.out.later h2 (Nat.le_refl _)) h1.rd na (by intro h; cases h) (by omega) (by rw [HN.out]; omega)).mono ?_
    rintro e w2 ⟨rfl, h3, h4⟩
    have hz := h2.size
    go_wp2
    go_ret
    exact ⟨w1.heap.size, _, _, rfl, by rw [HP.out, List.length_append, HN.out], hz, by rw [HP.out]; exact h3, h2.trans (h4.mono hz)⟩
  · have hs : isSize k = false := isSize_not k hk
    have HP : Hid (putN n k = []) := by show putN n k = []; unfold putN; rw [if_neg hk]
    clear hk
    go_enter Tryd.func39, Tryd.ntmps39
    go_wp2_with fail
    refine (isNumberSize _ _).mono ?_
    rintro e w1 ⟨rfl, rfl⟩
    go_wp2_with fail
    refine (putBytes a none _ ca 0 0 l [] w rfl rfl HR.out (by intro i hi; cases hi) na (fun _ => rfl) (by omega) (by simp)).mono ?_
    rintro e w2 ⟨rfl, h3, h4⟩
    go_wp2
    go_ret
    exact ⟨w.heap.size, _, _, rfl, by rw [HP.out, List.append_nil], Nat.le_refl _, by rw [HP.out]; exact h3, h4⟩

set_option maxRecDepth 100000 in
set_option maxHeartbeats 800000 in
theorem specPutN (a : Option Addr) (nl ca : Nat) (l : List Int) (n k : Int) (w : World) (hn : nl = l.length) (hr : Rd w a l) (na : a = none → ca = 0) (ll : l.length ≤ 2097152) :
    Calls Tryd.prog 34 #[.slice a nl ca, .int .i64 n, .int .i64 k] w fun e w' =>
      ∃ g m cap, e = .returned (.slice (some ⟨g, 0, none⟩) m cap) ∧ m = (l ++ putN n k).length ∧ w.heap.size ≤ g ∧ Row w' g cap (l ++ putN n k) ∧ Below w.heap.size w w' := by
  subst hn
  have HR : Hid (Rd w a l) := hr
  clear hr
  have ha1 : Below w.heap.size w (w.alloc (.cells #[] 5)) := (Below.refl _ _).alloc (Nat.le_refl _) _
  have HA : Hid (Below w.heap.size w (w.alloc (.cells #[] 5))) := ha1
  clear ha1
  by_cases hk : 1 ≤ k ∧ k ≤ 6
  · obtain ⟨K, rfl⟩ := Int.eq_ofNat_of_zero_le (show 0 ≤ k by omega)
    have HP : Hid (putN n (K : Int) = num n K) := by show putN n (K : Int) = num n K; unfold putN; rw [if_pos hk, Int.toNat_natCast]
    have hk1 : 1 ≤ K := by omega
    have hk2 : K ≤ 6 := by omega
    clear hk
    go_enter Tryd.func34, Tryd.ntmps34
    go_wp2_with (at_builtin; refine wpList_app _ rfl _ _ rfl w.heap.size w.heap.size 0 0 [] l rfl rfl (row_new w [] (by simp)) (Nat.le_refl _) a l.length ca rfl rfl (HR.out.later HA.out (Nat.le_refl _)) na (by simp; omega) ?_; intro g1 c1 w1 r1 b1 l1 gr1; have R1 : Hid (Row w1 g1 c1 ([] ++ l)) := r1; have B1 : Hid (Below w.heap.size w w1) := HA.out.grown gr1 HA.out.size (fun k h => by cases h; exact Nat.le_refl _); clear r1 gr1 l1)
    go_loopw [7, 8] (fun v i wr => ∃ (j g c : Nat), j ≤ K ∧ i = .int .i64 ((K : Int) - 1 - j) ∧ v = .slice (some ⟨g, 0, none⟩) (l.length + j) c ∧ w.heap.size ≤ g ∧ Row wr g c (l ++ (num n K).take j) ∧ Below w.heap.size w wr)
      (fun _ i _ => (intOf i + 1).toNat)
    case atStart => exact ⟨0, g1, c1, Nat.zero_le _, by go_num, by simp, b1, by simpa using R1.out, B1.out⟩
    case round =>
      obtain ⟨j, g, c, hj, rfl, rfl, hg, hrow, hb⟩ := hrel
      clear HA R1 B1 HR
      by_cases hlt : j < K
      · obtain ⟨q, hq⟩ : ∃ q : Nat, (q : Int) = (K : Int) - 1 - j := ⟨K - 1 - j, by omega⟩
        have hq' : K - 1 - j = q := by omega
        have HT : Hid ((num n K).take (j + 1) = (num n K).take j ++ [n / 2 ^ (8 * q) % 256]) := by have := num_take n K j hlt; rw [hq'] at this; exact this
        have HN : Hid (((num n K).take j).length = j) := by show _ = _; rw [List.length_take, num_length]; omega
        rw [← hq]
        have HQ : Hid ((q : Int) = (K : Int) - 1 - j) := hq
        have hq5 : q ≤ 5 := by omega
        have hm := Bits.mask8 (n / 2 ^ (8 * q))
        have HRow : Hid (Row wr g c (l ++ (num n K).take j)) := hrow
        have HB : Hid (Below w.heap.size w wr) := hb
        have HL : Hid (l.length + j = (l ++ (num n K).take j).length) := by show _ = _; rw [List.length_append, HN.out]
        clear hq hq' hrow hb
        go_wp2_with (at_builtin; refine wpList_app _ rfl (.tmp 25) (.tmp 32) rfl w.heap.size g (l.length + j) c (l ++ (num n K).take j) [n / 2 ^ (8 * q) % 256] rfl HL.out (row_alloc HRow.out _) hg (some ⟨wr.heap.size, 0, none⟩) 1 1 rfl rfl (rd_one _ _) (by intro h; cases h) (by rw [← HL.out]; simp; omega) ?_; intro g2 c2 w2 r2 b2 l2 gr2; have R2 : Hid (Row w2 g2 c2 (l ++ (num n K).take j ++ [n / 2 ^ (8 * q) % 256])) := r2; have B2 : Hid (Below w.heap.size w w2) := (HB.out.alloc HB.out.size _).grown gr2 (Nat.le_trans HB.out.size (by simp)) (fun k h => by cases h; exact hg); clear r2 gr2 l2)
        go_roundw
        case rel => exact ⟨j + 1, g2, c2, by omega, by have := HQ.out; go_num, by simp [Nat.add_assoc], b2, by rw [HT.out, ← List.append_assoc]; exact R2.out, B2.out⟩
        case measure => simp [intOf]
      · obtain rfl : j = K := by omega
        have hneg : (j : Int) - 1 - (j : Int) < 0 := by omega
        have HN : Hid ((num n j).take j = num n j) := List.take_of_length_le (by rw [num_length]; exact Nat.le_refl _)
        go_wp2
        go_ret
        exact ⟨g, _, c, rfl, by rw [HP.out, List.length_append, num_length], hg, by rw [HP.out]; rw [HN.out] at hrow; exact hrow, hb⟩
  · have HP : Hid (putN n k = []) := by show putN n k = []; unfold putN; rw [if_neg hk]
    rcases (show k < 1 ∨ 6 < k by omega) with hk' | hk'
    all_goals
      go_enter Tryd.func34, Tryd.ntmps34
      go_wp2_with (at_builtin; refine wpList_app _ rfl _ _ rfl w.heap.size w.heap.size 0 0 [] l rfl rfl (row_new w [] (by simp)) (Nat.le_refl _) a l.length ca rfl rfl (HR.out.later HA.out (Nat.le_refl _)) na (by simp; omega) ?_; intro g1 c1 w1 r1 b1 l1 gr1; have R1 : Hid (Row w1 g1 c1 ([] ++ l)) := r1; have B1 : Hid (Below w.heap.size w w1) := HA.out.grown gr1 HA.out.size (fun k h => by cases h; exact Nat.le_refl _); clear r1 gr1 l1)
      go_ret
      exact ⟨_, _, _, rfl, by rw [HP.out, List.append_nil], b1, by rw [HP.out]; simpa using R1.out, B1.out⟩
end Go.Proofs.YtpgapjdejelajaaDoor.App

namespace Go.Proofs.YtpgapjdejelajaaDoor.Blk
open Go.RowKit Go.Proofs.YtpgapjdejelajaaDoor.Mem Go.Proofs.YtpgapjdejelajaaDoor.MemI

/-- Block g is of type t, free to write, and its cells are cs. -/
def Blk (w : World) (g : Nat) (t : TypeId) (cs : List Value) : Prop := w.heap[g]? = some (.cells cs.toArray t (0, 0))
set_option maxRecDepth 100000 in
theorem Blk.keep {w w' : World} {g : Nat} {t : TypeId} {cs : List Value} (h : Blk w g t cs) (e : w'.heap[g]? = w.heap[g]?) : Blk w' g t cs := e.trans h
set_option maxRecDepth 100000 in
theorem Blk.lt {w : World} {g : Nat} {t : TypeId} {cs : List Value} (h : Blk w g t cs) : g < w.heap.size := (Array.getElem?_eq_some_iff.1 h).1
set_option maxRecDepth 100000 in
theorem Blk.below {w w' : World} {g : Nat} {t : TypeId} {cs : List Value} (h : Blk w g t cs) {B : Nat} (b : Below B w w') (hg : g < B) : Blk w' g t cs := h.keep (b.block g hg)
set_option maxRecDepth 100000 in
theorem Blk.later {w w' : World} {g : Nat} {t : TypeId} {cs : List Value} (h : Blk w g t cs) (b : Below w.heap.size w w') : Blk w' g t cs := h.below b h.lt
set_option maxRecDepth 100000 in
theorem Blk.drewN {w : World} {g : Nat} {t : TypeId} {cs : List Value} (h : Blk w g t cs) (m : Nat) : Blk (w.drewN m) g t cs := h
set_option maxRecDepth 100000 in
theorem Blk.cell {w : World} {g : Nat} {t : TypeId} {cs : List Value} (h : Blk w g t cs) (i : Nat) {v : Value} (hv : cs[i]? = some v) : w.cell? ⟨g, i, none⟩ = some v := by
  rw [cell_of_row w g i cs.toArray t (0, 0) h]; simpa using hv
set_option maxRecDepth 100000 in
theorem Blk.frozen {w : World} {g : Nat} {t : TypeId} {cs : List Value} (h : Blk w g t cs) (i : Nat) : w.frozen? ⟨g, i, none⟩ = false := frozen_of_row w g i cs.toArray t h
set_option maxRecDepth 100000 in
theorem Blk.owns {w : World} {g : Nat} {t : TypeId} {cs : List Value} (h : Blk w g t cs) (hl : cs.length ≤ maxLen) : w.ownsRow g t 1 (.slice (some ⟨g, 0, none⟩) cs.length cs.length) cs.length cs :=
  ⟨by simp, .inr ⟨g, cs.length, cs.toArray, rfl, Nat.le_refl _, h, Nat.le_refl _, hl, by simp, by simp⟩⟩
set_option maxRecDepth 100000 in
theorem Blk.set {w : World} {g : Nat} {t : TypeId} {cs : List Value} (h : Blk w g t cs) (i : Nat) (v : Value) (hl : cs.length ≤ maxLen) : Blk (w.setCell ⟨g, i, none⟩ v) g t (cs.set i v) := by
  obtain ⟨h1, h2⟩ := (h.owns hl).stored i v
  obtain ⟨h0, h⟩ := h1
  rcases h with ⟨h, _⟩ | ⟨g', cap', cur, hv, hb, hg, h1, h2, h3, h4⟩
  · simp at h
  · simp only [Value.slice.injEq, Option.some.injEq, Addr.mk.injEq, and_true, true_and] at hv
    obtain ⟨rfl, rfl⟩ := hv
    have : cur = (cs.set i v).toArray := by
      apply Array.toList_inj.1
      rw [List.take_of_length_le (by rw [Array.length_toList]; omega)] at h4
      simpa using h4
    rw [this] at hg
    exact hg
set_option maxRecDepth 100000 in
theorem Blk.new (w : World) (t : TypeId) (cs : List Value) : Blk (w.alloc (.cells cs.toArray t)) w.heap.size t cs := heap_alloc_new w _
set_option maxRecDepth 100000 in
theorem Blk.alloc {w : World} {g : Nat} {t : TypeId} {cs : List Value} (h : Blk w g t cs) (o : Obj) : Blk (w.alloc o) g t cs := h.keep (Below.heap_alloc w o g h.lt)
set_option maxRecDepth 100000 in
theorem Blk.other {w : World} {g : Nat} {t : TypeId} {cs : List Value} (h : Blk w g t cs) {a : Addr} (ne : g ≠ a.block) (v : Value) : Blk (w.setCell a v) g t cs := h.keep (Below.heap_setCell w a v g ne)
set_option maxRecDepth 100000 in
theorem Blk.rd {w : World} {g : Nat} {t : TypeId} {l : List Int} {r : List Value} (h : Blk w g t (l.map (Value.int .i64) ++ r)) : IRd w (some ⟨g, 0, none⟩) l := fun i hi =>
  ⟨g, 0, rfl, h.lt, by rw [Nat.zero_add]; exact h.cell i (by simp [List.getElem?_append, hi, List.getD])⟩
set_option maxRecDepth 100000 in
theorem Blk.int {w : World} {g : Nat} {t : TypeId} {l : List Int} {r : List Value} (h : Blk w g t (l.map (Value.int .i64) ++ r)) (i : Nat) (hi : i < l.length) : w.cell? ⟨g, i, none⟩ = some (.int .i64 (l.getD i 0)) :=
  h.cell i (by simp [List.getElem?_append, hi, List.getD])
set_option maxRecDepth 100000 in
theorem set_ints (l : List Int) (r : List Value) (i : Nat) (z : Int) (hi : i < l.length) : (l.map (Value.int .i64) ++ r).set i (.int .i64 z) = (l.set i z).map (Value.int .i64) ++ r := by
  rw [List.set_append, if_pos (by simpa using hi), List.map_set]
set_option maxRecDepth 100000 in
theorem below_drewN {B : Nat} {a w : World} (h : Below B a w) (m : Nat) : Below B a (w.drewN m) := ⟨h.os, h.tape, h.output, h.size, h.block⟩
set_option maxRecDepth 100000 in
theorem Rd.drewN {w : World} {a : Option Addr} {l : List Int} (h : Rd w a l) (m : Nat) : Rd (w.drewN m) a l := h.later (below_drewN (Below.refl w.heap.size w) m) (Nat.le_refl _)
set_option maxRecDepth 100000 in
theorem IRd.drewN {w : World} {a : Option Addr} {l : List Int} (h : IRd w a l) (m : Nat) : IRd (w.drewN m) a l := h.later (below_drewN (Below.refl w.heap.size w) m) (Nat.le_refl _)

set_option maxRecDepth 100000 in
theorem IRd.cells {w : World} {ad : Addr} {y : List Int} (h : IRd w (some ad) y) : ∀ j u, (y.map (Value.int .i64))[j]? = some u → w.cell? (ad.add j) = some u := by
  intro j u hu
  have hj : j < y.length := by
    have := (List.getElem?_eq_some_iff.1 hu).1
    simpa using this
  obtain ⟨b, off, e, _, hc⟩ := h j hj
  obtain rfl := Option.some.inj e
  rw [Addr.add_lit, hc]
  simpa [List.getD, hj] using hu

set_option maxRecDepth 100000 in
theorem iwpList_app (w : World) {ops : Array Oper} {rest : List Oper} {o : Oper} {a : Act} {Q : Exit → Act → World → Prop} (hgd : o.guard = none) (s x : Operand)
    (ho : o.op = .call { callee := .builtin .append, args := #[s, x], argTypes := #[72, 72] })
    (base g n cap : Nat) (l y : List Int) (hs : a.eval s = .slice (some ⟨g, 0, none⟩) n cap) (hn : n = l.length) (hrow : IRow w g cap l) (hbg : base ≤ g)
    (ao : Option Addr) (m c : Nat) (hx : a.eval x = .slice ao m c) (hm : m = y.length) (hrd : IRd w ao y) (hnone : ao = none → c = 0) (hsum : l.length + y.length ≤ 100000000)
    (h : ∀ g' cap' w', IRow w' g' cap' (l ++ y) → base ≤ g' → g' < w'.heap.size → w.grownBy w' (some g) → wpList Tryd.prog ops Q rest (a.put o.dst (.slice (some ⟨g', 0, none⟩) (n + m) cap')) w') :
    wpList Tryd.prog ops Q (o :: rest) a w := by
  obtain ⟨i0, hi, hz0, hz1, hz2⟩ := info_parts info64
  subst hn hm
  have hlt := hrow.lt
  cases ao with
  | none =>
    have hy : y = [] := by
      cases y with
      | nil => rfl
      | cons z r => obtain ⟨_, _, e, _⟩ := hrd 0 (by simp); cases e
    subst hy
    have hc0 := hnone rfl
    subst hc0
    refine wpList_append_own_none hgd s x 72 ho base 3 i0 1 Tryd.underlying72 hi _ _ _ hs (hrow.owns hbg) hx ?_
    simpa using h g cap w (by simpa using hrow) hbg hlt (World.grownBy.refl _ _)
  | some ad =>
    refine wpList_append_own w hgd s x 72 ho base 3 i0 (.int .i64 0) 1 8 Tryd.underlying72 hi hz0 hz1 hz2 rfl (by decide) _ _ _ hs (hrow.owns hbg) ad y.length c (y.map (Value.int .i64)) hx (by simp) (IRd.cells hrd) (ints_oneCell _ _) (by unfold maxLen; omega) (by omega) (by omega) ?_
    intro v' w' hown hgr hiff
    rcases hown.2 with ⟨hv, _⟩ | ⟨g', cap', cur, rfl, hb, hg', _⟩
    · exact absurd (hiff.1 hv).1 (by simp)
    · rw [← List.map_append] at hown
      obtain ⟨r1, r2, _, r4⟩ := IRow.of hown
      exact h g' cap' w' r1 r2 r4 hgr

set_option maxRecDepth 100000 in
theorem iwpList_fit (w : World) {ops : Array Oper} {rest : List Oper} {o : Oper} {a : Act} {Q : Exit → Act → World → Prop} (hgd : o.guard = none) (s x : Operand)
    (ho : o.op = .call { callee := .builtin .append, args := #[s, x], argTypes := #[72, 72] })
    (g n cap : Nat) (l y : List Int) (hs : a.eval s = .slice (some ⟨g, 0, none⟩) n cap) (hn : n = l.length) (hrow : IRow w g cap l)
    (ao : Option Addr) (m c : Nat) (hx : a.eval x = .slice ao m c) (hm : m = y.length) (hrd : IRd w ao y) (hnone : ao = none → c = 0) (hsum : l.length + y.length ≤ cap)
    (h : ∀ w', IRow w' g cap (l ++ y) → w.grownBy w' (some g) → wpList Tryd.prog ops Q rest (a.put o.dst (.slice (some ⟨g, 0, none⟩) (n + m) cap)) w') :
    wpList Tryd.prog ops Q (o :: rest) a w := by
  obtain ⟨i0, hi, hz0, hz1, hz2⟩ := info_parts info64
  subst hn hm
  refine wpList_append_fits_any w hgd s x 72 ho g 3 i0 1 Tryd.underlying72 hi hz1 g l.length cap _ hs (hrow.owns (Nat.le_refl _)) ao y.length c (y.map (Value.int .i64)) hx (by simp) ?_ ?_ (ints_oneCell _ _) hsum ?_
  · intro e
    subst e
    refine ⟨?_, hnone rfl⟩
    cases y with
    | nil => rfl
    | cons z r => obtain ⟨_, _, e, _⟩ := hrd 0 (by simp); cases e
  · intro ad e
    subst e
    exact IRd.cells hrd
  · intro w' hown hgr
    rw [← List.map_append] at hown
    exact h w' (IRow.of hown).1 hgr

set_option maxRecDepth 100000 in
theorem ird_one (w : World) (z : Int) : IRd (w.alloc (.cells #[.int .i64 z] 3)) (some ⟨w.heap.size, 0, none⟩) [z] := by
  intro i hi
  have : i = 0 := by simpa using hi
  subst this
  exact ⟨_, _, rfl, by simp, by simp [World.cell?_alloc_at]⟩
set_option maxRecDepth 100000 in
theorem ird_two (w : World) (z y : Int) : IRd (w.alloc (.cells #[.int .i64 z, .int .i64 y] 3)) (some ⟨w.heap.size, 0, none⟩) [z, y] := by
  intro i hi
  have : i = 0 ∨ i = 1 := by simp at hi; omega
  rcases this with rfl | rfl
  · exact ⟨_, _, rfl, by simp, by simp [World.cell?_alloc_at]⟩
  · exact ⟨_, _, rfl, by simp, by simp [World.cell?_alloc_at]⟩
set_option maxRecDepth 100000 in
theorem irow_new (w : World) (z : List Int) (hz : z.length ≤ maxLen) : IRow (w.alloc (.cells (z.map (Value.int .i64)).toArray 3)) w.heap.size z.length z :=
  ⟨Nat.le_refl _, hz, _, heap_alloc_new w _, by simp, by simp [← List.map_take]⟩
set_option maxRecDepth 100000 in
theorem irow_alloc {w : World} {g cap : Nat} {l : List Int} (h : IRow w g cap l) (o : Obj) : IRow (w.alloc o) g cap l := h.keep (Below.heap_alloc w o g h.lt)
set_option maxRecDepth 100000 in
theorem ird_alloc {w : World} {a : Option Addr} {l : List Int} (h : IRd w a l) (o : Obj) : IRd (w.alloc o) a l := h.later ((Below.refl w.heap.size w).alloc (Nat.le_refl _) o) (Nat.le_refl _)

end Go.Proofs.YtpgapjdejelajaaDoor.Blk

namespace Go.Proofs.YtpgapjdejelajaaDoor.Zone
open Go.RowKit Go.Proofs.YtpgapjdejelajaaDoor.Mem Go.Proofs.YtpgapjdejelajaaDoor.Blk

/-- Of the blocks that were there, all outside of [lo, hi) are as they were. -/
structure Kept (lo hi : Nat) (w w' : World) : Prop where
  os : w'.os = w.os
  tape : w'.tape = w.tape
  output : w'.output = w.output
  size : w.heap.size ≤ w'.heap.size
  block : ∀ i, i < w.heap.size → (i < lo ∨ hi ≤ i) → w'.heap[i]? = w.heap[i]?

set_option maxRecDepth 100000 in
theorem Kept.of_below {w w' : World} (h : Below w.heap.size w w') (n : Nat) : Kept n n w w' := ⟨h.os, h.tape, h.output, h.size, fun i hi _ => h.block i hi⟩
set_option maxRecDepth 100000 in
theorem Kept.refl (lo hi : Nat) (w : World) : Kept lo hi w w := ⟨rfl, rfl, rfl, Nat.le_refl _, fun _ _ _ => rfl⟩
set_option maxRecDepth 100000 in
theorem Kept.of_grown {w w' : World} {g : Nat} (h : w.grownBy w' (some g)) : Kept g (g + 1) w w' := ⟨h.os, h.tape, h.output, h.size, fun i hi hg => h.block i hi (by simp only [ne_eq, Option.some.injEq]; omega)⟩
set_option maxRecDepth 100000 in
theorem Kept.trans {lo hi : Nat} {a b c : World} (h : Kept lo hi a b) (k : Kept lo hi b c) : Kept lo hi a c :=
  ⟨k.os.trans h.os, k.tape.trans h.tape, k.output.trans h.output, Nat.le_trans h.size k.size, fun i hi hg => (k.block i (Nat.lt_of_lt_of_le hi h.size) hg).trans (h.block i hi hg)⟩
set_option maxRecDepth 100000 in
theorem Kept.mono {lo hi lo' hi' : Nat} {a b : World} (h : Kept lo hi a b) (h1 : lo' ≤ lo) (h2 : hi ≤ hi') : Kept lo' hi' a b :=
  ⟨h.os, h.tape, h.output, h.size, fun i hi hg => h.block i hi (by omega)⟩
set_option maxRecDepth 100000 in
/-- Nothing at all was turned: any zone. -/
theorem Kept.any {n lo hi : Nat} {a b : World} (h : Kept n n a b) : Kept lo hi a b := ⟨h.os, h.tape, h.output, h.size, fun i hi _ => h.block i hi (by omega)⟩
set_option maxRecDepth 100000 in
theorem Kept.below {lo hi n : Nat} {a b : World} (h : Kept lo hi a b) (h1 : n ≤ lo) (h2 : n ≤ a.heap.size) : Below n a b := ⟨h.os, h.tape, h.output, h.size, fun i hi => h.block i (by omega) (by omega)⟩
set_option maxRecDepth 100000 in
theorem Kept.later {n : Nat} {a b : World} (h : Kept n n a b) : Below a.heap.size a b := ⟨h.os, h.tape, h.output, h.size, fun i hi => h.block i hi (by omega)⟩

set_option maxRecDepth 100000 in
theorem Kept.setCell (w : World) (g i : Nat) (v : Value) : Kept g (g + 1) w (w.setCell ⟨g, i, none⟩ v) :=
  ⟨rfl, rfl, rfl, by simp, fun k _ hk => Below.heap_setCell w _ v k (by show k ≠ g; omega)⟩

/-- A slice as a value. -/
structure Sl where
  a : Option Addr
  n : Nat
  c : Nat
def Sl.v (s : Sl) : Value := .slice s.a s.n s.c

/-- The slice reads as the bytes l. -/
structure SRd (w : World) (s : Sl) (l : List Int) : Prop where
  len : s.n = l.length
  rd : Rd w s.a l
  nil : s.a = none → s.c = 0
  cap : s.n ≤ s.c
  bytes : Bytes l

/-- The slice is none, or a row of its own in the zone [lo, hi). -/
def SOwn (w : World) (lo hi : Nat) (s : Sl) (l : List Int) : Prop :=
  Bytes l ∧ ((s = ⟨none, 0, 0⟩ ∧ l = []) ∨ ∃ g, s.a = some ⟨g, 0, none⟩ ∧ s.n = l.length ∧ lo ≤ g ∧ g < hi ∧ Row w g s.c l)

set_option maxRecDepth 100000 in
theorem SOwn.rd {w : World} {lo hi : Nat} {s : Sl} {l : List Int} (h : SOwn w lo hi s l) : SRd w s l := by
  obtain ⟨hb, h | ⟨g, h1, h2, h3, h4, h5⟩⟩ := h
  · obtain ⟨rfl, rfl⟩ := h
    exact ⟨rfl, (fun i hi => by cases hi), fun _ => rfl, Nat.le_refl _, hb⟩
  · exact ⟨h2, by rw [h1]; exact h5.rd, (fun e => by rw [h1] at e; cases e), by rw [h2]; exact h5.1, hb⟩
set_option maxRecDepth 100000 in
theorem SOwn.carry {w w' : World} {lo hi a b : Nat} {s : Sl} {l : List Int} (h : SOwn w lo hi s l) (k : Kept a b w w') (d : hi ≤ a ∨ b ≤ lo) : SOwn w' lo hi s l := by
  obtain ⟨hb, h | ⟨g, h1, h2, h3, h4, h5⟩⟩ := h
  · exact ⟨hb, .inl h⟩
  · exact ⟨hb, .inr ⟨g, h1, h2, h3, h4, h5.keep (k.block g h5.lt (by omega))⟩⟩
set_option maxRecDepth 100000 in
/-- A step that turns one slice's block alone leaves a slice apart from it. -/
theorem SOwn.carryNe {w w' : World} {lo hi : Nat} {s t : Sl} {l : List Int} (h : SOwn w lo hi t l) (k : ∀ i, s.a ≠ some ⟨i, 0, none⟩ → i < w.heap.size → w'.heap[i]? = w.heap[i]?) (d : s.a = none ∨ s.a ≠ t.a) : SOwn w' lo hi t l := by
  obtain ⟨hb, h | ⟨g, h1, h2, h3, h4, h5⟩⟩ := h
  · exact ⟨hb, .inl h⟩
  · refine ⟨hb, .inr ⟨g, h1, h2, h3, h4, h5.keep (k g ?_ h5.lt)⟩⟩
    rcases d with d | d
    · rw [d]; intro e; cases e
    · rw [← h1]; exact d
set_option maxRecDepth 100000 in
theorem SOwn.carryNe2 {w w' : World} {lo hi : Nat} {s t : Sl} {l : List Int} (h : SOwn w lo hi t l) (k : ∀ i, s.a ≠ some ⟨i, 0, none⟩ → i < w.heap.size → w'.heap[i]? = w.heap[i]?) (d : t.a = none ∨ t.a ≠ s.a) : SOwn w' lo hi t l := by
  obtain ⟨hb, h | ⟨g, h1, h2, h3, h4, h5⟩⟩ := h
  · exact ⟨hb, .inl h⟩
  · refine ⟨hb, .inr ⟨g, h1, h2, h3, h4, h5.keep (k g ?_ h5.lt)⟩⟩
    rcases d with d | d
    · rw [d] at h1; cases h1
    · rw [← h1]; exact Ne.symm d
set_option maxRecDepth 100000 in
theorem SOwn.len {w : World} {lo hi : Nat} {s : Sl} {l : List Int} (h : SOwn w lo hi s l) : s.n = l.length := h.rd.len
set_option maxRecDepth 100000 in
theorem SOwn.mono {w : World} {lo hi lo' hi' : Nat} {s : Sl} {l : List Int} (h : SOwn w lo hi s l) (h1 : lo' ≤ lo) (h2 : hi ≤ hi') : SOwn w lo' hi' s l := by
  obtain ⟨hb, h | ⟨g, q1, q2, q3, q4, q5⟩⟩ := h
  · exact ⟨hb, .inl h⟩
  · exact ⟨hb, .inr ⟨g, q1, q2, by omega, by omega, q5⟩⟩
set_option maxRecDepth 100000 in
theorem SOwn.nil (w : World) (lo hi : Nat) : SOwn w lo hi ⟨none, 0, 0⟩ [] := ⟨(fun z hz => by cases hz), .inl ⟨rfl, rfl⟩⟩
set_option maxRecDepth 100000 in
theorem SOwn.row {w : World} {lo hi g n c : Nat} {l : List Int} (h : Row w g c l) (hn : n = l.length) (hb : Bytes l) (h1 : lo ≤ g) (h2 : g < hi) : SOwn w lo hi ⟨some ⟨g, 0, none⟩, n, c⟩ l := ⟨hb, .inr ⟨g, rfl, hn, h1, h2, h⟩⟩
set_option maxRecDepth 100000 in
theorem SRd.later {w w' : World} {s : Sl} {l : List Int} (h : SRd w s l) (b : Below w.heap.size w w') : SRd w' s l := ⟨h.len, h.rd.later b (Nat.le_refl _), h.nil, h.cap, h.bytes⟩
set_option maxRecDepth 100000 in
theorem SRd.below {w w' : World} {s : Sl} {l : List Int} {n : Nat} (h : SRd w s l) (b : Below n w w') (hn : w.heap.size ≤ n) : SRd w' s l := h.later (b.mono hn)
end Go.Proofs.YtpgapjdejelajaaDoor.Zone

namespace Go.Proofs.YtpgapjdejelajaaDoor.ZoneB
open Go.RowKit Go.Proofs.YtpgapjdejelajaaDoor.Mem Go.Proofs.YtpgapjdejelajaaDoor.Blk Go.Proofs.YtpgapjdejelajaaDoor.Zone

set_option maxRecDepth 100000 in
theorem toB (s : Sl) (l : List Int) (w : World) (h : SRd w s l) (hl : l.length ≤ 4194304) :
    Calls Tryd.prog 6 #[.slice s.a s.n s.c] w fun e w' =>
      e = .returned (.slice (some ⟨w.heap.size, 0, none⟩) s.n s.n) ∧ SOwn w' w.heap.size w'.heap.size ⟨some ⟨w.heap.size, 0, none⟩, s.n, s.n⟩ l ∧ Below w.heap.size w w' := by
  refine (toByteS s.a s.n s.c l w h.len h.rd hl).mono ?_
  rintro e w' ⟨rfl, r, b⟩
  exact ⟨rfl, SOwn.row r h.len h.bytes (Nat.le_refl _) r.lt, b⟩
set_option maxRecDepth 100000 in
theorem eqB (s t : Sl) (x y : List Int) (w : World) (h : SRd w s x) (k : SRd w t y) (lx : x.length ≤ 4194304) (ly : y.length ≤ 4194304) :
    Calls Tryd.prog 9 #[.slice s.a s.n s.c, .slice t.a t.n t.c] w fun e w' => e = .returned (.bool (decide (x = y))) ∧ Below w.heap.size w w' := by
  refine (eqByteS s.a t.a s.n s.c t.n t.c x y w h.len k.len h.rd k.rd lx ly).mono ?_
  rintro e w' ⟨rfl, m, rfl⟩
  exact ⟨rfl, ⟨rfl, rfl, rfl, Nat.le_refl _, fun _ _ => rfl⟩⟩
set_option maxRecDepth 100000 in
set_option maxHeartbeats 800000 in
theorem markB (s : Sl) (l : List Int) (q : Int) (w : World) (lo hi : Nat) (h : SOwn w lo hi s l) (hl : l.length ≤ 4194304) (q0 : 0 ≤ q) (q1 : q ≤ 4194304) :
    Calls Tryd.prog 10 #[.slice s.a s.n s.c, .int .i64 q] w fun e w' =>
      e = .returned (.int .i64 (q + s.n)) ∧ SOwn w' lo hi s (marks q s.n) ∧ Kept lo hi w w' ∧ ∀ i, s.a ≠ some ⟨i, 0, none⟩ → i < w.heap.size → w'.heap[i]? = w.heap[i]? := by
  obtain ⟨hb, ⟨rfl, rfl⟩ | ⟨g, h1, h2, h3, h4, h5⟩⟩ := h
  · have hm : marks q 0 = [] := rfl
    show Calls Tryd.prog 10 #[.slice none 0 0, .int .i64 q] w fun e w' => e = .returned (.int .i64 (q + (0 : Nat))) ∧ SOwn w' lo hi ⟨none, 0, 0⟩ (marks q 0) ∧ Kept lo hi w w' ∧ ∀ i, (none : Option Addr) ≠ some ⟨i, 0, none⟩ → i < w.heap.size → w'.heap[i]? = w.heap[i]?
    rw [hm]
    have HN : Hid (SOwn w lo hi ⟨none, 0, 0⟩ []) := SOwn.nil w lo hi
    clear hm hb hl
    go_enter Tryd.func10, Tryd.ntmps10
    go_wp2
    go_loop [1, 5] (fun k i => k = .int .i64 q ∧ i = .int .i64 0) (fun _ _ => 0)
    case atStart => exact ⟨rfl, rfl⟩
    case round =>
      obtain ⟨rfl, rfl⟩ := hrel
      go_wp2
      go_ret
      exact ⟨by simp, HN.out, Kept.refl _ _ _, by intros; rfl⟩
  · obtain ⟨sa, sn, sc⟩ := s
    simp only at h1 h2 h5
    subst h1
    refine (markByteS g sn sc l q w h2 h5 hl q0 q1).mono ?_
    rintro e w' ⟨rfl, r, gr⟩
    refine ⟨rfl, ⟨marks_bytes q sn, .inr ⟨g, rfl, (marks_length q sn).symm, h3, h4, r⟩⟩, (Kept.of_grown gr).mono h3 h4, ?_⟩
    intro i hne hi
    exact gr.block i hi (by simp only [ne_eq, Option.some.injEq]; intro e; exact hne (by rw [e]))
set_option maxRecDepth 100000 in
theorem heldB (s : Sl) (q : Int) (w : World) (h : SRd w s (marks q s.n)) (hl : s.n ≤ 4194304) (q0 : 0 ≤ q) (q1 : q ≤ 4194304) :
    Calls Tryd.prog 18 #[.slice s.a s.n s.c, .int .i64 q] w fun e w' => e = .returned (.int .i64 (q + s.n)) ∧ w = w' :=
  heldByteS s.a s.c s.n q w h.rd hl q0 q1
set_option maxRecDepth 100000 in
theorem szB (s : Sl) (q : Int) (w : World) (hl : s.n ≤ 9223372036854775807) (q0 : 0 ≤ q) (q1 : q ≤ 4194304) :
    Calls Tryd.prog 22 #[.slice s.a s.n s.c, .int .i64 q] w fun e w' => e = .returned (.int .i64 (if q - s.n < 0 then -1 else q - s.n)) ∧ w = w' := by
  have hw : IntKind.i64.wrap (q - (s.n : Int)) = q - (s.n : Int) := by rw [IntKind.wrap_i64]; omega
  by_cases h : q - (s.n : Int) < 0
  · rw [if_pos h]
    go_enter Tryd.func22, Tryd.ntmps22
    go_wp2
    go_ret
    exact ⟨rfl, rfl⟩
  · rw [if_neg h]
    go_enter Tryd.func22, Tryd.ntmps22
    go_wp2
    go_ret
    exact ⟨rfl, rfl⟩
end Go.Proofs.YtpgapjdejelajaaDoor.ZoneB

namespace Go.Proofs.YtpgapjdejelajaaDoor.Res
open Go.RowKit Go.Proofs.YtpgapjdejelajaaDoor.Blk

/-- One result. -/
def one (tmps : Array Value) : ResultVar → Sem Value
  | .tmp t => pure (tmps.getD t undef)
  | .cell a t => do loadVar t (← asAddr (tmps.getD a undef))
/-- Result r is v. -/
def Is (P : Program) (tmps : Array Value) (w : World) (r : ResultVar) (v : Value) : Prop := (one tmps r).run P w = .ok v w
set_option maxRecDepth 100000 in
theorem is_tmp {P : Program} {tmps : Array Value} {w : World} {t : Tmp} {v : Value} (h : tmps.getD t undef = v) : Is P tmps w (.tmp t) v := by
  show (pure (tmps.getD t undef) : Sem Value).run P w = _; rw [h]; rfl
/-- A type is a struct or an array of so many cells. -/
def aggB (P : Program) (ty : TypeId) (n : Nat) : Bool := (match P.underlying ty with | some (.struct _) | some (.array _ _) => true | _ => false) && (P.info? ty).map (·.size) == some n
set_option maxRecDepth 100000 in
theorem is_cell {P : Program} {tmps : Array Value} {w : World} {p : Tmp} {ty : TypeId} {g : Nat} {t : TypeId} {cs : List Value} (hp : tmps.getD p undef = .pointer (some ⟨g, 0, none⟩)) (hg : Blk w g t cs) (hu : aggB P ty cs.length = true) :
    Is P tmps w (.cell p ty) (.agg cs.toArray) := by
  unfold aggB at hu
  rw [Bool.and_eq_true, beq_iff_eq] at hu
  obtain ⟨h1, h2⟩ := hu
  show (do loadVar ty (← asAddr (tmps.getD p undef)) : Sem Value).run P w = _
  rw [hp]
  cases hd : P.underlying ty with
  | none => rw [hd] at h1; cases h1
  | some d =>
    rw [hd] at h1
    cases d with
    | struct fs => simp [asAddr, run_loadVar_row w g t ty cs.toArray (0, 0) (.struct fs) hg hd rfl (by simpa using h2)]
    | array n e => simp [asAddr, run_loadVar_row w g t ty cs.toArray (0, 0) (.array n e) hg hd rfl (by simpa using h2)]
    | _ => cases h1
set_option maxRecDepth 100000 in
theorem res1 {P : Program} {fn : Func} {tmps : Array Value} {w : World} {r0 : ResultVar} {v0 : Value} (h : fn.results = #[r0]) (h0 : Is P tmps w r0 v0) : (results fn tmps).run P w = .ok v0 w := by
  have e : results fn tmps = (do let vs ← fn.results.mapM (one tmps); pure (if h : vs.size = 1 then vs[0] else .tuple vs)) := rfl
  unfold Is at h0
  simp [e, h, h0]
set_option maxRecDepth 100000 in
theorem res2 {P : Program} {fn : Func} {tmps : Array Value} {w : World} {r0 r1 : ResultVar} {v0 v1 : Value} (h : fn.results = #[r0, r1]) (h0 : Is P tmps w r0 v0) (h1 : Is P tmps w r1 v1) : (results fn tmps).run P w = .ok (.tuple #[v0, v1]) w := by
  have e : results fn tmps = (do let vs ← fn.results.mapM (one tmps); pure (if h : vs.size = 1 then vs[0] else .tuple vs)) := rfl
  unfold Is at h0 h1
  simp [e, h, h0, h1]
set_option maxRecDepth 100000 in
theorem res3 {P : Program} {fn : Func} {tmps : Array Value} {w : World} {r0 r1 r2 : ResultVar} {v0 v1 v2 : Value} (h : fn.results = #[r0, r1, r2]) (h0 : Is P tmps w r0 v0) (h1 : Is P tmps w r1 v1) (h2 : Is P tmps w r2 v2) : (results fn tmps).run P w = .ok (.tuple #[v0, v1, v2]) w := by
  have e : results fn tmps = (do let vs ← fn.results.mapM (one tmps); pure (if h : vs.size = 1 then vs[0] else .tuple vs)) := rfl
  unfold Is at h0 h1 h2
  simp [e, h, h0, h1, h2]
set_option maxRecDepth 100000 in
theorem res4 {P : Program} {fn : Func} {tmps : Array Value} {w : World} {r0 r1 r2 r3 : ResultVar} {v0 v1 v2 v3 : Value} (h : fn.results = #[r0, r1, r2, r3]) (h0 : Is P tmps w r0 v0) (h1 : Is P tmps w r1 v1) (h2 : Is P tmps w r2 v2) (h3 : Is P tmps w r3 v3) : (results fn tmps).run P w = .ok (.tuple #[v0, v1, v2, v3]) w := by
  have e : results fn tmps = (do let vs ← fn.results.mapM (one tmps); pure (if h : vs.size = 1 then vs[0] else .tuple vs)) := rfl
  unfold Is at h0 h1 h2 h3
  simp [e, h, h0, h1, h2, h3]
end Go.Proofs.YtpgapjdejelajaaDoor.Res

namespace Go.Proofs.YtpgapjdejelajaaDoor.JaZ
open Go.RowKit Go.Proofs.YtpgapjdejelajaaDoor.Mem Go.Proofs.YtpgapjdejelajaaDoor.Blk Go.Proofs.YtpgapjdejelajaaDoor.Zone Go.Proofs.YtpgapjdejelajaaDoor.ZoneB Go.Proofs.YtpgapjdejelajaaDoor.Res

/-- The data. -/
structure JaD where
  secret : List Int
/-- The slices. -/
structure JaS where
  secret : Sl
def jaV (_D : JaD) (S : JaS) : Value := .agg #[.slice S.secret.a S.secret.n S.secret.c]
/-- It reads as D. -/
structure JaRd (w : World) (S : JaS) (D : JaD) : Prop where
  secret : SRd w S.secret D.secret
/-- No two slices lie in one block. -/
structure JaApart (S : JaS) : Prop where
/-- It owns its memory, in the zone [lo, hi). -/
structure JaOwn (w : World) (lo hi : Nat) (S : JaS) (D : JaD) : Prop where
  secret : SOwn w lo hi S.secret D.secret
  apart : JaApart S
set_option maxRecDepth 100000 in
theorem JaOwn.rd {w : World} {lo hi : Nat} {S : JaS} {D : JaD} (h : JaOwn w lo hi S D) : JaRd w S D := ⟨h.secret.rd⟩
set_option maxRecDepth 100000 in
theorem JaOwn.carry {w w' : World} {lo hi a b : Nat} {S : JaS} {D : JaD} (h : JaOwn w lo hi S D) (k : Kept a b w w') (d : hi ≤ a ∨ b ≤ lo) : JaOwn w' lo hi S D := ⟨h.secret.carry k d, h.apart⟩
set_option maxRecDepth 100000 in
theorem JaOwn.later {w w' : World} {lo hi : Nat} {S : JaS} {D : JaD} (h : JaOwn w lo hi S D) (k : Below w.heap.size w w') : JaOwn w' lo hi S D := h.carry (Kept.of_below k hi) (.inl (Nat.le_refl _))
set_option maxRecDepth 100000 in
theorem JaOwn.mono {w : World} {lo hi lo' hi' : Nat} {S : JaS} {D : JaD} (h : JaOwn w lo hi S D) (h1 : lo' ≤ lo) (h2 : hi ≤ hi') : JaOwn w lo' hi' S D := ⟨h.secret.mono h1 h2, h.apart⟩
set_option maxRecDepth 100000 in
theorem JaRd.later {w w' : World} {S : JaS} {D : JaD} (h : JaRd w S D) (k : Below w.heap.size w w') : JaRd w' S D := ⟨h.secret.later k⟩
/-- All lists are short. -/
structure JaShort (D : JaD) (n : Nat) : Prop where
  secret : D.secret.length ≤ n
set_option maxRecDepth 100000 in
theorem aggJa : aggB Tryd.prog 24 1 = true := by kernel_rfl

set_option maxRecDepth 100000 in
set_option maxHeartbeats 4000000 in
theorem toJar (S : JaS) (D : JaD) (w : World) (h : JaRd w S D) (hl : JaShort D 4194304) :
    Calls Tryd.prog 15 #[jaV D S] w fun e w' => ∃ S', e = .returned (jaV D S') ∧ JaOwn w' w.heap.size w'.heap.size S' D ∧ Below w.heap.size w w' := by
  have HR : Hid (JaRd w S D) := h
  have HL : Hid (JaShort D 4194304) := hl
  obtain ⟨x0, hx0⟩ : ∃ x0, ((w.alloc (.cells #[.slice S.secret.a S.secret.n S.secret.c] 32)).alloc (.cells #[.slice none 0 0] 24)).alloc (.cells #[.slice none 0 0] 24) = x0 := ⟨_, rfl⟩
  have HW0 : Hid (((w.alloc (.cells #[.slice S.secret.a S.secret.n S.secret.c] 32)).alloc (.cells #[.slice none 0 0] 24)).alloc (.cells #[.slice none 0 0] 24) = x0) := hx0
  have B0 : Hid (Below w.heap.size w x0) := by rw [← hx0]; exact (((Below.refl _ _).alloc (Nat.le_refl _) _).alloc (by simp) _).alloc (by simp; omega) _
  have KA0 : Hid (Blk x0 w.heap.size 32 [.slice S.secret.a S.secret.n S.secret.c]) := by rw [← hx0]; exact ((Blk.new w _ _).alloc _).alloc _
  have KR0 : Hid (Blk x0 (w.heap.size + 1) 24 [.slice none 0 0]) := by
    have := Blk.new (w.alloc (.cells #[.slice S.secret.a S.secret.n S.secret.c] 32)) 24 [.slice none 0 0]
    rw [World.size_alloc] at this
    rw [← hx0]; exact this.alloc _
  have KO0 : Hid (Blk x0 (w.heap.size + 1 + 1) 24 [.slice none 0 0]) := by
    have := Blk.new ((w.alloc (.cells #[.slice S.secret.a S.secret.n S.secret.c] 32)).alloc (.cells #[.slice none 0 0] 24)) 24 [.slice none 0 0]
    rw [World.size_alloc, World.size_alloc] at this
    rw [← hx0]; exact this
  have Z0 : Hid (w.heap.size + 1 + 1 < x0.heap.size) := KO0.out.lt
  clear h hl hx0
  unfold jaV
  go_enter Tryd.func15, Tryd.ntmps15
  go_upto_region 2 with fail
  rw [HW0.out]
  obtain ⟨ga, hga⟩ : ∃ ga, w.heap.size = ga := ⟨_, rfl⟩
  obtain ⟨gr, hgr⟩ : ∃ gr, w.heap.size + 1 = gr := ⟨_, rfl⟩
  obtain ⟨go, hgo⟩ : ∃ go, w.heap.size + 1 + 1 = go := ⟨_, rfl⟩
  have HGS : Hid (ga = w.heap.size ∧ gr = ga + 1 ∧ go = gr + 1) := ⟨hga.symm, by omega, by omega⟩
  rw [hgo] at KO0 Z0
  rw [hgr] at KR0
  rw [hga] at KA0
  rw [hgo, hgr, hga]
  clear HW0 hga hgr hgo
  have ca := KA0.out.cell 0 rfl
  go_wp2_with fail
  refine (toB S.secret D.secret x0 (HR.out.secret.later (Below.mono B0.out (Nat.le_refl _))) HL.out.secret).mono ?_
  rintro e y0 ⟨rfl, o0, b0⟩
  have Osecret : Hid (SOwn y0 x0.heap.size y0.heap.size ⟨some ⟨x0.heap.size, 0, none⟩, S.secret.n, S.secret.n⟩ D.secret) := o0
  have LTsecret : Hid (x0.heap.size < y0.heap.size) := by obtain ⟨_, ⟨h1, _⟩ | ⟨g, h1, _, h3, h4, _⟩⟩ := o0; (· cases h1); (· show _ < _; omega)
  have BN0 : Hid (Below w.heap.size w y0) := B0.out.trans (b0.mono B0.out.size)
  have KA0b : Hid (Blk y0 ga 32 [.slice S.secret.a S.secret.n S.secret.c]) := KA0.out.later b0
  have KR0b : Hid (Blk y0 gr 24 [.slice none 0 0]) := KR0.out.later b0
  have KO0b : Hid (Blk y0 go 24 [.slice none 0 0]) := KO0.out.later b0
  have KP0 : Hid (Kept go (go + 1) x0 y0) := (Kept.of_below b0 0).any
  have LOsecret : Hid (go + 1 ≤ x0.heap.size) := KO0.out.lt
  clear o0 b0 ca
  obtain ⟨x1, hx1⟩ : ∃ x1, y0.setCell ⟨go, 0, none⟩ (.slice (some ⟨x0.heap.size, 0, none⟩) S.secret.n S.secret.n) = x1 := ⟨_, rfl⟩
  have HW : Hid (y0.setCell ⟨go, 0, none⟩ (.slice (some ⟨x0.heap.size, 0, none⟩) S.secret.n S.secret.n) = x1) := hx1
  have co := KO0b.out.cell 0 rfl
  have fo := KO0b.out.frozen 0
  have KA1 : Hid (Blk x1 ga 32 [.slice S.secret.a S.secret.n S.secret.c]) := by rw [← hx1]; exact KA0b.out.other (by show ga ≠ go; have := HGS.out; omega) _
  have KR1 : Hid (Blk x1 gr 24 [.slice none 0 0]) := by rw [← hx1]; exact KR0b.out.other (by show gr ≠ go; have := HGS.out; omega) _
  have KO1 : Hid (Blk x1 go 24 [.slice (some ⟨x0.heap.size, 0, none⟩) S.secret.n S.secret.n]) := by rw [← hx1]; exact KO0b.out.set 0 _ (by simp [maxLen])
  have B1 : Hid (Below w.heap.size w x1) := by rw [← hx1]; exact BN0.out.setCell (by show _ ≤ go; have := HGS.out; omega) _
  have KS1 : Hid (Kept go (go + 1) y0 x1) := by rw [← hx1]; exact Kept.setCell _ _ _ _
  have ZS1 : Hid (x1.heap.size = y0.heap.size) := by rw [← hx1]; show _ = _; simp
  clear hx1
  go_upto_region 3 with fail
  rw [HW.out]
  clear HW co fo KA0 KR0 KO0 KA0b KR0b KO0b B0
  -- the whole is handed over
  have co0 := KO1.out.cell 0 rfl
  have cr0 := KR1.out.cell 0 rfl
  have fr0 := KR1.out.frozen 0
  go_wp2
  have KF : Blk (x1.setCell ⟨gr, 0, none⟩ (.slice (some ⟨x0.heap.size, 0, none⟩) S.secret.n S.secret.n)) gr 24 [.slice (some ⟨x0.heap.size, 0, none⟩) S.secret.n S.secret.n] := KR1.out.set 0 _ (by simp [maxLen])
  have BF : Below w.heap.size w (x1.setCell ⟨gr, 0, none⟩ (.slice (some ⟨x0.heap.size, 0, none⟩) S.secret.n S.secret.n)) := B1.out.setCell (by show _ ≤ gr; have := HGS.out; omega) _
  have KF2 : Kept gr (gr + 1) x1 (x1.setCell ⟨gr, 0, none⟩ (.slice (some ⟨x0.heap.size, 0, none⟩) S.secret.n S.secret.n)) := (Kept.setCell _ _ _ _)
  have Fsecret := (Osecret.out.carry KS1.out (.inr LOsecret.out)).carry KF2 (.inr (Nat.le_trans (by have := HGS.out; omega) LOsecret.out))
  have ST : Hid (w.heap.size ≤ x0.heap.size ∧ y0.heap.size ≤ (x1.setCell ⟨gr, 0, none⟩ (.slice (some ⟨x0.heap.size, 0, none⟩) S.secret.n S.secret.n)).heap.size) := by
    have s0 := KP0.out.size; have s1 := KS1.out.size; have sf := KF2.size; have lsecret := LTsecret.out; have hg := HGS.out; have z0 := Z0.out
    exact ⟨by omega, by omega⟩
  exact bodyPost_ret (v := jaV D ⟨⟨some ⟨x0.heap.size, 0, none⟩, S.secret.n, S.secret.n⟩⟩) (res1 rfl (is_cell rfl KF aggJa)) rfl ⟨⟨⟨some ⟨x0.heap.size, 0, none⟩, S.secret.n, S.secret.n⟩⟩, rfl, ⟨Fsecret.mono ST.out.1 ST.out.2, ⟨⟩⟩, BF⟩

set_option maxRecDepth 100000 in
set_option maxHeartbeats 4000000 in
theorem eqJar (S S' : JaS) (D : JaD) (w : World) (h : JaRd w S D) (h' : JaRd w S' D) (hl : JaShort D 4194304) :
    Calls Tryd.prog 8 #[jaV D S, jaV D S'] w fun e w' => e = .returned (.bool true) ∧ Below w.heap.size w w' := by
  have HR : Hid (JaRd w S D) := h
  have HQ : Hid (JaRd w S' D) := h'
  have HL : Hid (JaShort D 4194304) := hl
  obtain ⟨x0, hx0⟩ : ∃ x0, (w.alloc (.cells #[.slice S.secret.a S.secret.n S.secret.c] 24)).alloc (.cells #[.slice S'.secret.a S'.secret.n S'.secret.c] 24) = x0 := ⟨_, rfl⟩
  have HW0 : Hid ((w.alloc (.cells #[.slice S.secret.a S.secret.n S.secret.c] 24)).alloc (.cells #[.slice S'.secret.a S'.secret.n S'.secret.c] 24) = x0) := hx0
  have B0 : Hid (Below w.heap.size w x0) := by rw [← hx0]; exact ((Below.refl _ _).alloc (Nat.le_refl _) _).alloc (by simp) _
  have KA0 : Hid (Blk x0 w.heap.size 24 [.slice S.secret.a S.secret.n S.secret.c]) := by rw [← hx0]; exact (Blk.new w _ _).alloc _
  have KB0 : Hid (Blk x0 (w.heap.size + 1) 24 [.slice S'.secret.a S'.secret.n S'.secret.c]) := by
    have := Blk.new (w.alloc (.cells #[.slice S.secret.a S.secret.n S.secret.c] 24)) 24 [.slice S'.secret.a S'.secret.n S'.secret.c]
    rw [World.size_alloc] at this
    rw [← hx0]; exact this
  clear h h' hl hx0
  unfold jaV
  go_enter Tryd.func8, Tryd.ntmps8
  go_upto_region 1 with fail
  rw [HW0.out]
  generalize w.heap.size + 1 = gb at *
  obtain ⟨ga, hga⟩ : ∃ ga, w.heap.size = ga := ⟨_, rfl⟩
  have HGA : Hid (w.heap.size = ga) := hga
  rw [hga] at KA0
  rw [hga]
  clear HW0 hga
  have ca0 := KA0.out.cell 0 rfl
  have cb0 := KB0.out.cell 0 rfl
  go_wp2_with fail
  refine (eqB S.secret S'.secret D.secret D.secret x0 (HR.out.secret.later B0.out) (HQ.out.secret.later B0.out) HL.out.secret HL.out.secret).mono ?_
  rw [decide_eq_true (show D.secret = D.secret from rfl)]
  rintro e x1 ⟨rfl, b⟩
  have KA1 : Hid (Blk x1 ga 24 [.slice S.secret.a S.secret.n S.secret.c]) := KA0.out.later b
  have KB1 : Hid (Blk x1 gb 24 [.slice S'.secret.a S'.secret.n S'.secret.c]) := KB0.out.later b
  have B1 : Hid (Below w.heap.size w x1) := B0.out.trans (b.mono B0.out.size)
  clear b KA0 KB0 B0 ca0 cb0
  go_wp2
  go_ret
  exact ⟨rfl, B1.out⟩
/-- The lists marked, one behind the other. -/
def jaMarks (k : Int) (S : JaS) (D : JaD) : JaD := { D with secret := marks k S.secret.n }
def jaSum (S : JaS) : Nat := S.secret.n

set_option maxRecDepth 100000 in
set_option maxHeartbeats 4000000 in
theorem markJar (S : JaS) (D : JaD) (k : Int) (w : World) (lo hi : Nat) (h : JaOwn w lo hi S D) (hh : hi ≤ w.heap.size) (k0 : 0 ≤ k) (k1 : k + jaSum S ≤ 4194304) :
    Calls Tryd.prog 11 #[jaV D S, .int .i64 k] w fun e w' => e = .returned (.int .i64 (k + jaSum S)) ∧ JaOwn w' lo hi S (jaMarks k S D) ∧ Kept lo hi w w' := by
  have HA : Hid (JaApart S) := h.apart
  obtain ⟨x0, hx0⟩ : ∃ x0, w.alloc (.cells #[.slice S.secret.a S.secret.n S.secret.c] 24) = x0 := ⟨_, rfl⟩
  have HW0 : Hid (w.alloc (.cells #[.slice S.secret.a S.secret.n S.secret.c] 24) = x0) := hx0
  have b0 : Below w.heap.size w x0 := by rw [← hx0]; exact (Below.refl _ _).alloc (Nat.le_refl _) _
  have Q0 : Hid (Kept lo hi w x0) := (Kept.of_below b0 0).any
  have KA0 : Hid (Blk x0 w.heap.size 24 [.slice S.secret.a S.secret.n S.secret.c]) := by rw [← hx0]; exact Blk.new w _ _
  have Osecret0 : Hid (SOwn x0 lo hi S.secret D.secret) := h.secret.carry (Kept.of_below b0 hi) (.inl (Nat.le_refl _))
  have HZ : Hid (w.heap.size < x0.heap.size) := KA0.out.lt
  have HS : Hid (jaSum S = S.secret.n) := rfl
  have k1' : k + (S.secret.n : Int) ≤ 4194304 := by have := HS.out; omega
  have HE : Hid (k + (jaSum S : Int) = (k + (S.secret.n : Int))) := by have := HS.out; show _ = _; omega
  rw [HE.out]
  clear h hx0 b0 k1
  unfold jaV
  go_enter Tryd.func11, Tryd.ntmps11
  go_upto_region 1 with fail
  rw [HW0.out]
  obtain ⟨ga, hga⟩ : ∃ ga, w.heap.size = ga := ⟨_, rfl⟩
  have HGA : Hid (hi ≤ ga) := by show hi ≤ ga; omega
  rw [hga] at KA0
  rw [hga]
  clear HW0 hga
  have ca := KA0.out.cell 0 rfl
  go_wp2_with fail
  refine (markB S.secret D.secret k x0 lo hi Osecret0.out (by rw [← Osecret0.out.len]; omega) (by omega) (by omega)).mono ?_
  rintro e x1 ⟨rfl, o, kp, ne⟩
  have KA1 : Hid (Blk x1 ga 24 [.slice S.secret.a S.secret.n S.secret.c]) := KA0.out.keep (kp.block ga KA0.out.lt (.inr HGA.out))
  have Q1 : Hid (Kept lo hi w x1) := Q0.out.trans kp
  have Osecret1 : Hid (SOwn x1 lo hi S.secret (marks k S.secret.n)) := o
  clear o kp ne ca KA0 Q0 Osecret0
  go_wp2
  go_ret
  exact ⟨rfl, ⟨Osecret1.out, HA.out⟩, Q1.out⟩

set_option maxRecDepth 100000 in
set_option maxHeartbeats 4000000 in
theorem heldJar (S : JaS) (D : JaD) (k : Int) (w : World) (h : JaRd w S (jaMarks k S D)) (k0 : 0 ≤ k) (k1 : k + jaSum S ≤ 4194304) :
    Calls Tryd.prog 12 #[jaV D S, .int .i64 k] w fun e w' => e = .returned (.int .i64 (k + jaSum S)) ∧ Below w.heap.size w w' := by
  have HR : Hid (JaRd w S (jaMarks k S D)) := h
  obtain ⟨x0, hx0⟩ : ∃ x0, w.alloc (.cells #[.slice S.secret.a S.secret.n S.secret.c] 24) = x0 := ⟨_, rfl⟩
  have HW0 : Hid (w.alloc (.cells #[.slice S.secret.a S.secret.n S.secret.c] 24) = x0) := hx0
  have B0 : Hid (Below w.heap.size w x0) := by rw [← hx0]; exact (Below.refl _ _).alloc (Nat.le_refl _) _
  have KA0 : Hid (Blk x0 w.heap.size 24 [.slice S.secret.a S.secret.n S.secret.c]) := by rw [← hx0]; exact Blk.new w _ _
  have HS : Hid (jaSum S = S.secret.n) := rfl
  have k1' : k + (S.secret.n : Int) ≤ 4194304 := by have := HS.out; omega
  have HE : Hid (k + (jaSum S : Int) = (k + (S.secret.n : Int))) := by have := HS.out; show _ = _; omega
  rw [HE.out]
  clear h hx0 k1
  unfold jaV
  go_enter Tryd.func12, Tryd.ntmps12
  go_upto_region 1 with fail
  rw [HW0.out]
  generalize w.heap.size = ga at KA0 ⊢
  clear HW0
  have ca := KA0.out.cell 0 rfl
  go_wp2_with fail
  refine (heldB S.secret k x0 (HR.out.secret.later B0.out) (by omega) (by omega) (by omega)).mono ?_
  rintro e x1 ⟨rfl, rfl⟩
  have kn0 : ¬ ((k + (S.secret.n : Int)) < 0) := by omega
  clear ca
  go_wp2
  go_ret
  exact ⟨rfl, B0.out⟩
/-- All slices are of a length that there is. -/
structure JaSmall (S : JaS) : Prop where
  secret : S.secret.n ≤ 9223372036854775807

set_option maxRecDepth 100000 in
set_option maxHeartbeats 4000000 in
theorem szJar (S : JaS) (D : JaD) (k : Int) (w : World) (h : JaSmall S) (k0 : 0 ≤ k) (k1 : k ≤ 4194304) :
    Calls Tryd.prog 13 #[jaV D S, .int .i64 k] w fun e w' => e = .returned (.int .i64 (if k - jaSum S < 0 then -1 else k - jaSum S)) ∧ Below w.heap.size w w' := by
  obtain ⟨x0, hx0⟩ : ∃ x0, w.alloc (.cells #[.slice S.secret.a S.secret.n S.secret.c] 32) = x0 := ⟨_, rfl⟩
  have HW0 : Hid (w.alloc (.cells #[.slice S.secret.a S.secret.n S.secret.c] 32) = x0) := hx0
  have B0 : Hid (Below w.heap.size w x0) := by rw [← hx0]; exact (Below.refl _ _).alloc (Nat.le_refl _) _
  have KA0 : Hid (Blk x0 w.heap.size 32 [.slice S.secret.a S.secret.n S.secret.c]) := by rw [← hx0]; exact Blk.new w _ _
  have HS : Hid (jaSum S = S.secret.n) := rfl
  have HM : Hid (JaSmall S) := h
  obtain ⟨v, hv⟩ : ∃ v, (if k - (jaSum S : Int) < 0 then -1 else k - (jaSum S : Int)) = v := ⟨_, rfl⟩
  have HV : Hid ((if k - (jaSum S : Int) < 0 then -1 else k - (jaSum S : Int)) = v) := hv
  rw [hv]
  clear h hx0 hv
  unfold jaV
  go_enter Tryd.func13, Tryd.ntmps13
  go_upto_region 1 with fail
  rw [HW0.out]
  generalize w.heap.size = ga at KA0 ⊢
  clear HW0
  have ca := KA0.out.cell 0 rfl
  go_wp2_with fail
  refine (szB S.secret (k) x0 HM.out.secret (by omega) (by omega)).mono ?_
  rintro e x1 ⟨rfl, rfl⟩
  clear ca
  by_cases c0 : k - (S.secret.n : Int) < 0
  · obtain rfl : v = -1 := by rw [← HV.out]; exact if_pos (by have := HS.out; omega)
    rw [if_pos c0]
    go_wp2
    go_ret
    exact ⟨rfl, B0.out⟩
  · rw [if_neg c0]
    obtain rfl : v = k - (S.secret.n : Int) := by have := HS.out; rw [← HV.out, if_neg (by omega)]; omega
    go_wp2
    go_ret
    exact ⟨rfl, B0.out⟩
end Go.Proofs.YtpgapjdejelajaaDoor.JaZ

namespace Go.Proofs.YtpgapjdejelajaaDoor.ZoneI
open Go.RowKit Go.Proofs.YtpgapjdejelajaaDoor.Mem Go.Proofs.YtpgapjdejelajaaDoor.MemI Go.Proofs.YtpgapjdejelajaaDoor.Blk Go.Proofs.YtpgapjdejelajaaDoor.Zone

/-- The slice reads as the ints l. -/
structure ISRd (w : World) (s : Sl) (l : List Int) : Prop where
  len : s.n = l.length
  rd : IRd w s.a l
  nil : s.a = none → s.c = 0
  cap : s.n ≤ s.c
/-- The slice is none, or a row of its own in the zone [lo, hi). -/
def ISOwn (w : World) (lo hi : Nat) (s : Sl) (l : List Int) : Prop :=
  (s = ⟨none, 0, 0⟩ ∧ l = []) ∨ ∃ g, s.a = some ⟨g, 0, none⟩ ∧ s.n = l.length ∧ lo ≤ g ∧ g < hi ∧ IRow w g s.c l
set_option maxRecDepth 100000 in
theorem ISOwn.rd {w : World} {lo hi : Nat} {s : Sl} {l : List Int} (h : ISOwn w lo hi s l) : ISRd w s l := by
  obtain h | ⟨g, h1, h2, h3, h4, h5⟩ := h
  · obtain ⟨rfl, rfl⟩ := h
    exact ⟨rfl, (fun i hi => by cases hi), fun _ => rfl, Nat.le_refl _⟩
  · exact ⟨h2, by rw [h1]; exact h5.rd, (fun e => by rw [h1] at e; cases e), by rw [h2]; exact h5.1⟩
set_option maxRecDepth 100000 in
theorem ISOwn.carry {w w' : World} {lo hi a b : Nat} {s : Sl} {l : List Int} (h : ISOwn w lo hi s l) (k : Kept a b w w') (d : hi ≤ a ∨ b ≤ lo) : ISOwn w' lo hi s l := by
  obtain h | ⟨g, h1, h2, h3, h4, h5⟩ := h
  · exact .inl h
  · exact .inr ⟨g, h1, h2, h3, h4, h5.keep (k.block g h5.lt (by omega))⟩
set_option maxRecDepth 100000 in
theorem ISOwn.later {w w' : World} {lo hi : Nat} {s : Sl} {l : List Int} (h : ISOwn w lo hi s l) (k : Below w.heap.size w w') : ISOwn w' lo hi s l := h.carry (Kept.of_below k hi) (.inl (Nat.le_refl _))
set_option maxRecDepth 100000 in
theorem ISOwn.len {w : World} {lo hi : Nat} {s : Sl} {l : List Int} (h : ISOwn w lo hi s l) : s.n = l.length := h.rd.len
set_option maxRecDepth 100000 in
theorem ISOwn.mono {w : World} {lo hi lo' hi' : Nat} {s : Sl} {l : List Int} (h : ISOwn w lo hi s l) (h1 : lo' ≤ lo) (h2 : hi ≤ hi') : ISOwn w lo' hi' s l := by
  obtain h | ⟨g, q1, q2, q3, q4, q5⟩ := h
  · exact .inl h
  · exact .inr ⟨g, q1, q2, by omega, by omega, q5⟩
set_option maxRecDepth 100000 in
theorem ISOwn.nil (w : World) (lo hi : Nat) : ISOwn w lo hi ⟨none, 0, 0⟩ [] := .inl ⟨rfl, rfl⟩
set_option maxRecDepth 100000 in
theorem ISOwn.row {w : World} {lo hi g n c : Nat} {l : List Int} (h : IRow w g c l) (hn : n = l.length) (h1 : lo ≤ g) (h2 : g < hi) : ISOwn w lo hi ⟨some ⟨g, 0, none⟩, n, c⟩ l := .inr ⟨g, rfl, hn, h1, h2, h⟩
set_option maxRecDepth 100000 in
theorem ISRd.later {w w' : World} {s : Sl} {l : List Int} (h : ISRd w s l) (b : Below w.heap.size w w') : ISRd w' s l := ⟨h.len, h.rd.later b (Nat.le_refl _), h.nil, h.cap⟩

end Go.Proofs.YtpgapjdejelajaaDoor.ZoneI

namespace Go.Proofs.YtpgapjdejelajaaDoor.JaL
open Go.RowKit Go.Proofs.YtpgapjdejelajaaDoor.Mem Go.Proofs.YtpgapjdejelajaaDoor.Blk Go.Proofs.YtpgapjdejelajaaDoor.Zone Go.Proofs.YtpgapjdejelajaaDoor.ZoneI Go.Proofs.YtpgapjdejelajaaDoor.JaZ 
set_option maxRecDepth 100000 in
theorem ja_short_le {D : JaD} {n m : Nat} (h : JaShort D n) (hm : n ≤ m) : JaShort D m := ⟨Nat.le_trans h.secret hm⟩
set_option maxRecDepth 100000 in
theorem ja_sum_eq {w w' : World} {S S' : JaS} {D : JaD} (r : JaRd w S D) (r' : JaRd w' S' D) : jaSum S' = jaSum S := by
  have a0 := r.secret.len; have b0 := r'.secret.len
  unfold jaSum; omega
set_option maxRecDepth 100000 in
theorem ja_sum_le {w : World} {S : JaS} {D : JaD} {n : Nat} (r : JaRd w S D) (h : JaShort D n) : jaSum S ≤ 1 * n := by
  have a0 := r.secret.len; have b0 := h.secret
  unfold jaSum; omega
set_option maxRecDepth 100000 in
theorem ja_short_of {w : World} {S : JaS} {D : JaD} {n : Nat} (r : JaRd w S D) (h : jaSum S ≤ n) : JaShort D n := by
  unfold jaSum at h
  have a0 := r.secret.len
  exact ⟨by omega⟩
set_option maxRecDepth 100000 in
theorem ja_other {w : World} {g g' : Nat} {t : TypeId} {cs : List Value} (k : Blk w g' t cs) (ne : g' ≠ g) (v0 : Value) : Blk (w.setCell ⟨g, 0, none⟩ (v0)) g' t cs :=
  k.other (by exact ne) _
set_option maxRecDepth 100000 in
theorem ja_kept (w : World) (g : Nat) (v0 : Value) : Kept g (g + 1) w (w.setCell ⟨g, 0, none⟩ (v0)) := Kept.setCell _ _ _ _
set_option maxRecDepth 100000 in
theorem ja_size (w : World) (g : Nat) (v0 : Value) : (w.setCell ⟨g, 0, none⟩ (v0)).heap.size = w.heap.size := by simp
set_option maxRecDepth 100000 in
theorem ja_stored {w : World} {g lo hi : Nat} {u0 : Value} {D : JaD} {S : JaS} (k : Blk w g 24 [u0]) (o : JaOwn w lo hi S D) (d : g + 1 ≤ lo ∨ hi ≤ g) :
    Blk (w.setCell ⟨g, 0, none⟩ (.slice S.secret.a S.secret.n S.secret.c)) g 24 [.slice S.secret.a S.secret.n S.secret.c] ∧ JaOwn (w.setCell ⟨g, 0, none⟩ (.slice S.secret.a S.secret.n S.secret.c)) lo hi S D ∧ (∀ B a, B ≤ g → Below B a w → Below B a (w.setCell ⟨g, 0, none⟩ (.slice S.secret.a S.secret.n S.secret.c))) := by
  refine ⟨k.set 0 _ (by simp [maxLen]), o.carry (ja_kept w g _) (by omega), fun B a hB h => ?_⟩
  exact h.setCell (by exact hB) _
end Go.Proofs.YtpgapjdejelajaaDoor.JaL

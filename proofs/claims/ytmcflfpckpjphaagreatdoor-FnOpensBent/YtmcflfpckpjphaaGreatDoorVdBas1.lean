/-
  Slices of bytes as rows of numbers, and what the laws' own four helpers on them do: copy, compare, mark, and look for marks. Each contract asks that the slice is read as the list that it names, and a length of at most 4,194,304.
  Slices of ints as rows of numbers, and what the laws' own four helpers on them do: copy, compare, mark, and look for imarks. Each contract asks that the slice is read as the list that it names, and a length of at most 4,194,304.
  Plain facts on int's bit operations: masks, joins and turns of numbers below 2 to the 32, no condition beyond the bounds that each lemma names.
  Appending to a row of bytes that the call itself made, whatever is appended; and what impl's and spec's PutN answer at every slice of at most 2,097,152 bytes and every two ints.
  Blocks of the call's own whose cells are known one by one (arrays, structs), and appending to a row of ints that the call itself made.
  Memory in zones: a step keeps all blocks outside of a zone; what lies in a zone is carried over steps that keep it.
  What the laws' helpers over a slice of bytes answer, with the slice as one value and its memory as a zone.
  Slices of ints as values whose memory lies in a zone, and what the laws' helpers over them answer.
  What a call hands back, result by result: a temporary's value, or a struct that lies in a block of its own.
  The struct Win: its data, its value, what it reads as, what it owns; and what the laws' helpers over it answer.
  The struct Ep: its data, its value, what it reads as, what it owns; and what the laws' helpers over it answer.
  How long the lists of a Win are, all in all.
  How long the lists of a Ep are, all in all.
  A region that draws its order, told by what each of its operations leaves: each operation is shown once, from what those that it waits for have left; the last one, for which all wait, from what all have left.
  One operation of a region that draws its order: one that runs to its end; and 'append' of a slice onto an empty one without room: what was there stays as it was.
  One operation of a region that draws its order: a call of a Go function, by its contract.
  A window's copy: spec.l8Copy, impl.copyWin: the same window, in memory of its own.
-/
import Derived.Test.YtmcflfpckpjphaaGreatDoorProg
import Derived.WalkKit
import Derived.KernelRfl
import Derived.WalkLawsBesides
import Derived.Deep.QuietTactic
import Derived.BigQuiet
import Derived.Laws.AppendOwnNone
import Derived.Laws.Rows
import Derived.Laws.Tables
import Derived.Deep.WholeRow
import Derived.Great.BuildSlice
import Derived.Deep.CutBlock
import Derived.Deep.RegionLaw
import Derived.Deep.RegionLawGrows
set_option linter.unusedVariables false
set_option maxRecDepth 100000
namespace Go.Proofs.YtmcflfpckpjphaaGreatDoor.Mem
open Go.RowKit

theorem info8 : (Tryz.prog.info? 5).map (fun i => (i.zero, i.size, i.bytes)) = some (some (.int .u8 0), 1, 1) := by kernel_rfl

def Bytes (l : List Int) : Prop := ∀ z ∈ l, 0 ≤ z ∧ z ≤ 255
theorem Bytes.at {l : List Int} (h : Bytes l) (i : Nat) : 0 ≤ l.getD i 0 ∧ l.getD i 0 ≤ 255 := by
 by_cases hi : i < l.length
 ·
  simpa [List.getD, hi] using h _ (List.getElem_mem hi)
 ·
  simp [List.getD, List.getElem?_eq_none (Nat.le_of_not_lt hi)]

def Rd (w : World) (a : Option Addr) (l : List Int) : Prop :=
 ∀ i, i < l.length → ∃ b off, a = some ⟨b, off, none⟩ ∧ b < w.heap.size ∧ w.cell? ⟨b, off + i, none⟩ = some (.int .u8 (l.getD i 0))

def Row (w : World) (g cap : Nat) (l : List Int) : Prop :=
 l.length ≤ cap ∧ cap ≤ maxLen ∧ ∃ cur, w.heap[g]? = some (.cells cur 5 (0, 0)) ∧ cur.size = cap ∧ cur.toList.take l.length = l.map (Value.int .u8)

theorem Row.owns {w : World} {g cap : Nat} {l : List Int} (h : Row w g cap l) {base : Nat} (hb : base ≤ g) : w.ownsRow base 5 1 (.slice (some ⟨g, 0, none⟩) l.length cap) l.length (l.map (Value.int .u8)) := by
 obtain ⟨h1, h2, cur, h3, h4, h5⟩ := h
 exact ⟨by simp, .inr ⟨g, cap, cur, rfl, hb, h3, h1, h2, by omega, by simpa using h5⟩⟩
theorem Row.of {w : World} {base g n cap : Nat} {l : List Int} (h : w.ownsRow base 5 1 (.slice (some ⟨g, 0, none⟩) n cap) n (l.map (Value.int .u8))) : Row w g cap l ∧ base ≤ g ∧ n = l.length ∧ g < w.heap.size := by
 obtain ⟨h0, h⟩ := h
 have hn : n = l.length := by simpa using h0.symm
 subst hn
 rcases h with ⟨h, _⟩ | ⟨g', cap', cur, hv, hb, hg, h1, h2, h3, h4⟩
 ·
  simp at h
 ·
  simp only [Value.slice.injEq, Option.some.injEq, Addr.mk.injEq, and_true, true_and] at hv
  obtain ⟨rfl, rfl⟩ := hv
  exact ⟨⟨h1, h2, cur, hg, by omega, by simpa using h4⟩, hb, rfl, (Array.getElem?_eq_some_iff.1 hg).1⟩
theorem Row.keep {w w' : World} {g cap : Nat} {l : List Int} (h : Row w g cap l) (e : w'.heap[g]? = w.heap[g]?) : Row w' g cap l := by
 obtain ⟨h1, h2, cur, h3, h4⟩ := h
 exact ⟨h1, h2, cur, e.trans h3, h4⟩
theorem Row.lt {w : World} {g cap : Nat} {l : List Int} (h : Row w g cap l) : g < w.heap.size := by
 obtain ⟨_, _, cur, h3, _⟩ := h
 exact (Array.getElem?_eq_some_iff.1 h3).1
theorem Row.below {w w' : World} {g cap : Nat} {l : List Int} (h : Row w g cap l) {B : Nat} (b : Below B w w') (hg : g < B) : Row w' g cap l := h.keep (b.block g hg)
theorem Row.later {w w' : World} {g cap : Nat} {l : List Int} (h : Row w g cap l) (b : Below w.heap.size w w') : Row w' g cap l := h.below b h.lt
theorem Row.cell {w : World} {g cap : Nat} {l : List Int} (h : Row w g cap l) (i : Nat) (hi : i < l.length) : w.cell? ⟨g, i, none⟩ = some (.int .u8 (l.getD i 0)) := by
 have := (h.owns (Nat.zero_le g)).cellAt i (by omega)
 rw [this]
 simp [List.getD, hi]
theorem Row.rd {w : World} {g cap : Nat} {l : List Int} (h : Row w g cap l) : Rd w (some ⟨g, 0, none⟩) l := fun i hi =>
 ⟨g, 0, rfl, h.lt, by rw [Nat.zero_add]; exact h.cell i hi⟩
theorem Rd.later {w w' : World} {a : Option Addr} {l : List Int} (h : Rd w a l) {B : Nat} (b : Below B w w') (hB : w.heap.size ≤ B) : Rd w' a l := by
 intro i hi
 obtain ⟨x, off, rfl, h1, h2⟩ := h i hi
 exact ⟨x, off, rfl, Nat.lt_of_lt_of_le h1 b.size, by rw [b.cell (Nat.lt_of_lt_of_le h1 hB)]; exact h2⟩

def IsRow (k : IntKind) (w : World) (a : Option Addr) (len cap : Nat) (zs : List Int) : Prop :=
 (a = none ∧ len = 0 ∧ cap = 0 ∧ zs = []) ∨
 ∃ x, a = some x ∧ len ≤ cap ∧ cap ≤ maxLen ∧ zs.length = cap ∧ (∀ i, i < zs.length → w.cell? (x.add i) = some (.int k (zs.getD i 0))) ∧ ∀ n ∈ zs, (Lit.int k n).wf = true
theorem IsRow.read {w : World} {a : Option Addr} {len cap : Nat} {zs : List Int} (h : IsRow .u8 w a len cap zs) :
  ∃ l, len = l.length ∧ Rd w a l ∧ (a = none → cap = 0) ∧ Bytes l := by
 rcases h with ⟨rfl, rfl, rfl, rfl⟩ | ⟨x, rfl, h1, h2, h3, h4, h5⟩
 ·
  exact ⟨[], rfl, (fun i hi => by cases hi), (fun _ => rfl), (fun z hz => by cases hz)⟩
 ·
  refine ⟨zs.take len, by simp; omega, ?_, (fun h => by cases h), ?_⟩
  ·
   intro i hi
   have hi' : i < len := by simp at hi; omega
   have hc := h4 i (by omega)
   have hc0 := h4 0 (by omega)
   obtain ⟨b, off, spot⟩ := x
   have hspot : spot = none := by simpa [Addr.add] using World.cell?_spot hc0
   subst hspot
   rw [Addr.add_lit] at hc
   refine ⟨b, off, rfl, World.block_lt_of_cell? w _ hc, ?_⟩
   have e : (zs.take len).getD i 0 = zs.getD i 0 := by simp [List.getD, hi']
   rw [e]
   exact hc
  ·
   intro z hz
   have := h5 z (List.mem_of_mem_take hz)
   simpa [Lit.wf, IntKind.min, IntKind.max, IntKind.signed, IntKind.bits] using this

theorem set_mid (l : List Int) (k : Nat) (hk : k < l.length) :
  (l.take k ++ List.replicate (l.length - k) 0).set k (l.getD k 0) = l.take (k + 1) ++ List.replicate (l.length - (k + 1)) 0 := by
 apply List.ext_getElem?
 intro j
 simp only [List.getElem?_set, List.getElem?_append, List.length_take, List.getElem?_take, List.getElem?_replicate, List.length_append, List.length_replicate, List.getD]
 repeat' split
 all_goals first | omega | rfl | (simp_all; done) | skip
 all_goals simp_all
 all_goals omega

theorem grown_trans {a b c : World} {row : Option Nat} (h : a.grownBy b row) (k : b.grownBy c row) : a.grownBy c row :=
 ⟨k.os.trans h.os, k.tape.trans h.tape, k.output.trans h.output, Nat.le_trans h.size k.size, fun i hi hne => (k.block i (Nat.lt_of_lt_of_le hi h.size) hne).trans (h.block i hi hne)⟩

theorem take_eq_succ {x y : List Int} {k : Nat} (hx : k < x.length) (hy : k < y.length) (h : x.take k = y.take k) (he : x.getD k 0 = y.getD k 0) : x.take (k + 1) = y.take (k + 1) := by
 rw [List.take_succ_eq_append_getElem hx, List.take_succ_eq_append_getElem hy, h]
 simp only [List.getD, List.getElem?_eq_getElem hx, List.getElem?_eq_getElem hy, Option.getD_some] at he
 rw [he]
theorem dec_eq {x y : List Int} {k : Nat} (hx : ¬ k < x.length) (hl : x.length = y.length) (h : x.take k = y.take k) : decide (x = y) = true := by
 rw [List.take_of_length_le (by omega), List.take_of_length_le (by omega)] at h
 simp [h]
theorem dec_ne {x y : List Int} {k : Nat} (h : ¬ x.getD k 0 = y.getD k 0) : decide (x = y) = false := by
 simp only [decide_eq_false_iff_not]; rintro rfl; exact h rfl

theorem hid {p : Prop} (h : p) : Hid p := h
theorem hid2 {a b : Prop} (h1 : Hid a) (h2 : Hid b) : a ∧ b := ⟨h1, h2⟩
theorem hid3 {a b c : Prop} (h1 : Hid a) (h2 : Hid b) (h3 : Hid c) : a ∧ b ∧ c := ⟨h1, h2, h3⟩
theorem hid4 {a b c d : Prop} (h1 : Hid a) (h2 : Hid b) (h3 : Hid c) (h4 : Hid d) : a ∧ b ∧ c ∧ d := ⟨h1, h2, h3, h4⟩
theorem hid5 {a b c d e : Prop} (h1 : Hid a) (h2 : Hid b) (h3 : Hid c) (h4 : Hid d) (h5 : Hid e) : a ∧ b ∧ c ∧ d ∧ e := ⟨h1, h2, h3, h4, h5⟩
theorem hid6 {a b c d e f : Prop} (h1 : Hid a) (h2 : Hid b) (h3 : Hid c) (h4 : Hid d) (h5 : Hid e) (h6 : Hid f) : a ∧ b ∧ c ∧ d ∧ e ∧ f := ⟨h1, h2, h3, h4, h5, h6⟩
theorem hid7 {a b c d e f g : Prop} (h1 : Hid a) (h2 : Hid b) (h3 : Hid c) (h4 : Hid d) (h5 : Hid e) (h6 : Hid f) (h7 : Hid g) : a ∧ b ∧ c ∧ d ∧ e ∧ f ∧ g := ⟨h1, h2, h3, h4, h5, h6, h7⟩
theorem hid8 {a b c d e f g i : Prop} (h1 : Hid a) (h2 : Hid b) (h3 : Hid c) (h4 : Hid d) (h5 : Hid e) (h6 : Hid f) (h7 : Hid g) (h8 : Hid i) : a ∧ b ∧ c ∧ d ∧ e ∧ f ∧ g ∧ i := ⟨h1, h2, h3, h4, h5, h6, h7, h8⟩
end Go.Proofs.YtmcflfpckpjphaaGreatDoor.Mem

namespace Go.Proofs.YtmcflfpckpjphaaGreatDoor.MemI
open Go.RowKit Mem

theorem info64 : (Tryz.prog.info? 3).map (fun i => (i.zero, i.size, i.bytes)) = some (some (.int .i64 0), 1, 8) := by kernel_rfl

def IRd (w : World) (a : Option Addr) (l : List Int) : Prop :=
 ∀ i, i < l.length → ∃ b off, a = some ⟨b, off, none⟩ ∧ b < w.heap.size ∧ w.cell? ⟨b, off + i, none⟩ = some (.int .i64 (l.getD i 0))

def IRow (w : World) (g cap : Nat) (l : List Int) : Prop :=
 l.length ≤ cap ∧ cap ≤ maxLen ∧ ∃ cur, w.heap[g]? = some (.cells cur 3 (0, 0)) ∧ cur.size = cap ∧ cur.toList.take l.length = l.map (Value.int .i64)

theorem IRow.owns {w : World} {g cap : Nat} {l : List Int} (h : IRow w g cap l) {base : Nat} (hb : base ≤ g) : w.ownsRow base 3 1 (.slice (some ⟨g, 0, none⟩) l.length cap) l.length (l.map (Value.int .i64)) := by
 obtain ⟨h1, h2, cur, h3, h4, h5⟩ := h
 exact ⟨by simp, .inr ⟨g, cap, cur, rfl, hb, h3, h1, h2, by omega, by simpa using h5⟩⟩
theorem IRow.of {w : World} {base g n cap : Nat} {l : List Int} (h : w.ownsRow base 3 1 (.slice (some ⟨g, 0, none⟩) n cap) n (l.map (Value.int .i64))) : IRow w g cap l ∧ base ≤ g ∧ n = l.length ∧ g < w.heap.size := by
 obtain ⟨h0, h⟩ := h
 have hn : n = l.length := by simpa using h0.symm
 subst hn
 rcases h with ⟨h, _⟩ | ⟨g', cap', cur, hv, hb, hg, h1, h2, h3, h4⟩
 ·
  simp at h
 ·
  simp only [Value.slice.injEq, Option.some.injEq, Addr.mk.injEq, and_true, true_and] at hv
  obtain ⟨rfl, rfl⟩ := hv
  exact ⟨⟨h1, h2, cur, hg, by omega, by simpa using h4⟩, hb, rfl, (Array.getElem?_eq_some_iff.1 hg).1⟩
theorem IRow.keep {w w' : World} {g cap : Nat} {l : List Int} (h : IRow w g cap l) (e : w'.heap[g]? = w.heap[g]?) : IRow w' g cap l := by
 obtain ⟨h1, h2, cur, h3, h4⟩ := h
 exact ⟨h1, h2, cur, e.trans h3, h4⟩
theorem IRow.lt {w : World} {g cap : Nat} {l : List Int} (h : IRow w g cap l) : g < w.heap.size := by
 obtain ⟨_, _, cur, h3, _⟩ := h
 exact (Array.getElem?_eq_some_iff.1 h3).1
theorem IRow.below {w w' : World} {g cap : Nat} {l : List Int} (h : IRow w g cap l) {B : Nat} (b : Below B w w') (hg : g < B) : IRow w' g cap l := h.keep (b.block g hg)
theorem IRow.later {w w' : World} {g cap : Nat} {l : List Int} (h : IRow w g cap l) (b : Below w.heap.size w w') : IRow w' g cap l := h.below b h.lt
theorem IRow.cell {w : World} {g cap : Nat} {l : List Int} (h : IRow w g cap l) (i : Nat) (hi : i < l.length) : w.cell? ⟨g, i, none⟩ = some (.int .i64 (l.getD i 0)) := by
 have := (h.owns (Nat.zero_le g)).cellAt i (by omega)
 rw [this]
 simp [List.getD, hi]
theorem IRow.rd {w : World} {g cap : Nat} {l : List Int} (h : IRow w g cap l) : IRd w (some ⟨g, 0, none⟩) l := fun i hi =>
 ⟨g, 0, rfl, h.lt, by rw [Nat.zero_add]; exact h.cell i hi⟩
theorem IRd.later {w w' : World} {a : Option Addr} {l : List Int} (h : IRd w a l) {B : Nat} (b : Below B w w') (hB : w.heap.size ≤ B) : IRd w' a l := by
 intro i hi
 obtain ⟨x, off, rfl, h1, h2⟩ := h i hi
 exact ⟨x, off, rfl, Nat.lt_of_lt_of_le h1 b.size, by rw [b.cell (Nat.lt_of_lt_of_le h1 hB)]; exact h2⟩

end Go.Proofs.YtmcflfpckpjphaaGreatDoor.MemI

namespace Go.Proofs.YtmcflfpckpjphaaGreatDoor.Bits
open Go.RowKit (wrap64)

theorem wrap_i64_nat (m : Nat) (h : m < 9223372036854775808) : IntKind.i64.wrap (m : Int) = (m : Int) := by
 rw [IntKind.wrap_i64]; omega

theorem ofInt64_nat (a : Nat) (h : a < 18446744073709551616) : (BitVec.ofInt 64 (a : Int)).toNat = a := by
 rw [BitVec.ofInt_natCast, BitVec.toNat_ofNat]; exact Nat.mod_eq_of_lt (by omega)

theorem and_i64 (a b : Nat) (ha : a < 9223372036854775808) (hb : b < 9223372036854775808) : bits .and .i64 (a : Int) (b : Int) = ((a &&& b : Nat) : Int) := by
 have h : a &&& b < 9223372036854775808 := Nat.lt_of_le_of_lt Nat.and_le_left ha
 show IntKind.i64.wrap ((BitVec.ofInt 64 (a : Int) &&& BitVec.ofInt 64 (b : Int)).toNat : Int) = _
 rw [BitVec.toNat_and, ofInt64_nat a (by omega), ofInt64_nat b (by omega), wrap_i64_nat _ h]

theorem or_i64 (a b : Nat) (ha : a < 9223372036854775808) (hb : b < 9223372036854775808) : bits .or .i64 (a : Int) (b : Int) = ((a ||| b : Nat) : Int) := by
 have h : a ||| b < 2 ^ 63 := Nat.or_lt_two_pow (by omega) (by omega)
 show IntKind.i64.wrap ((BitVec.ofInt 64 (a : Int) ||| BitVec.ofInt 64 (b : Int)).toNat : Int) = _
 rw [BitVec.toNat_or, ofInt64_nat a (by omega), ofInt64_nat b (by omega), wrap_i64_nat _ (by omega)]

theorem xor_i64 (a b : Nat) (ha : a < 9223372036854775808) (hb : b < 9223372036854775808) : bits .xor .i64 (a : Int) (b : Int) = ((a ^^^ b : Nat) : Int) := by
 have h : a ^^^ b < 2 ^ 63 := Nat.xor_lt_two_pow (by omega) (by omega)
 show IntKind.i64.wrap ((BitVec.ofInt 64 (a : Int) ^^^ BitVec.ofInt 64 (b : Int)).toNat : Int) = _
 rw [BitVec.toNat_xor, ofInt64_nat a (by omega), ofInt64_nat b (by omega), wrap_i64_nat _ (by omega)]

theorem or_u32 (a b : Nat) (ha : a < 4294967296) (hb : b < 4294967296) : bits .or .u32 (a : Int) (b : Int) = ((a ||| b : Nat) : Int) := by
 have h : a ||| b < 2 ^ 32 := Nat.or_lt_two_pow (by omega) (by omega)
 have e : ∀ c : Nat, c < 4294967296 → (BitVec.ofInt 32 (c : Int)).toNat = c := fun c hc => by rw [BitVec.ofInt_natCast, BitVec.toNat_ofNat]; exact Nat.mod_eq_of_lt (by omega)
 show IntKind.u32.wrap ((BitVec.ofInt 32 (a : Int) ||| BitVec.ofInt 32 (b : Int)).toNat : Int) = _
 rw [BitVec.toNat_or, e a ha, e b hb, show ∀ n, IntKind.u32.wrap n = n % 4294967296 from fun n => by simp [IntKind.wrap, IntKind.bits, IntKind.signed]]
 omega

theorem mask_i64 (k : Nat) (hk : k ≤ 62) (x : Int) : bits .and .i64 x ((2 ^ k - 1 : Nat) : Int) = x % ((2 ^ k : Nat) : Int) := by
 have hp : 2 ^ k ≤ 2 ^ 62 := Nat.pow_le_pow_right (by omega) hk
 have hp0 : 0 < 2 ^ k := Nat.two_pow_pos k
 have e : (2 : Nat) ^ 62 = 4611686018427387904 := by decide
 have hl : (x % 18446744073709551616).toNat % 2 ^ k < 9223372036854775808 := by
  have := Nat.mod_lt (x % 18446744073709551616).toNat hp0; omega
 show IntKind.i64.wrap ((BitVec.ofInt 64 x &&& BitVec.ofInt 64 ((2 ^ k - 1 : Nat) : Int)).toNat : Int) = _
 rw [BitVec.toNat_and, ofInt64_nat _ (by omega), Nat.and_two_pow_sub_one_eq_mod, BitVec.toNat_ofInt]
 have e2 : (((2 ^ 64 : Nat) : Int)) = 18446744073709551616 := by decide
 rw [e2, wrap_i64_nat _ hl]
 have h1 : (((x % 18446744073709551616).toNat % 2 ^ k : Nat) : Int) = (x % 18446744073709551616) % ((2 ^ k : Nat) : Int) := by
  rw [Int.natCast_emod, Int.toNat_of_nonneg (by omega)]
 rw [h1]
 refine Int.emod_emod_of_dvd x ?_
 have : (18446744073709551616 : Int) = ((2 ^ k * 2 ^ (64 - k) : Nat) : Int) := by rw [← Nat.pow_add, show k + (64 - k) = 64 by omega]; decide
 rw [this, Int.natCast_mul]
 exact Int.dvd_mul_right _ _

theorem mask32 (x : Int) : bits .and .i64 x 4294967295 = x % 4294967296 := mask_i64 32 (by omega) x
theorem mask8 (x : Int) : bits .and .i64 x 255 = x % 256 := mask_i64 8 (by omega) x
theorem mask30 (x : Int) : bits .and .i64 x 1073741823 = x % 1073741824 := mask_i64 30 (by omega) x

def rotN (x n : Nat) : Nat := x / 2 ^ n ||| x * 2 ^ (32 - n) % 4294967296
def rot (x n : Int) : Int := if 1 ≤ n ∧ n ≤ 31 then ((rotN (x % 4294967296).toNat n.toNat : Nat) : Int) else x % 4294967296

theorem rotN_lt (x n : Nat) (hx : x < 4294967296) : rotN x n < 4294967296 := by
 have h1 : x / 2 ^ n < 2 ^ 32 := Nat.lt_of_le_of_lt (Nat.div_le_self _ _) (by omega)
 have h2 : x * 2 ^ (32 - n) % 4294967296 < 2 ^ 32 := by omega
 have := Nat.or_lt_two_pow h1 h2
 unfold rotN; omega
theorem rot_bd (x n : Int) : 0 ≤ rot x n ∧ rot x n ≤ 4294967295 := by
 unfold rot
 split
 ·
  have := rotN_lt (x % 4294967296).toNat n.toNat (by omega); omega
 ·
  omega

theorem rot_wide (x n : Int) (h1 : 1 ≤ n) (h2 : n ≤ 31) :
  bits .and .i64 (bits .or .i64 (x % 4294967296 / 2 ^ n.toNat) (wrap64 (x % 4294967296 * 2 ^ (32 - n).toNat))) 4294967295 = rot x n := by
 obtain ⟨X, hX⟩ := Int.eq_ofNat_of_zero_le (show 0 ≤ x % 4294967296 by omega)
 obtain ⟨N, rfl⟩ := Int.eq_ofNat_of_zero_le (show 0 ≤ n by omega)
 have hXl : X < 4294967296 := by omega
 have e1 : (32 - (N : Int)).toNat = 32 - N := by omega
 have hpw : 2 ^ (32 - N) ≤ 2 ^ 31 := Nat.pow_le_pow_right (by omega) (by omega)
 have e31 : (2 : Nat) ^ 31 = 2147483648 := by decide
 have hm : X * 2 ^ (32 - N) < 9223372036854775808 := by
  have := Nat.mul_le_mul (show X ≤ 4294967295 by omega) hpw; omega
 have hd : X / 2 ^ N < 9223372036854775808 := Nat.lt_of_le_of_lt (Nat.div_le_self _ _) (by omega)
 have e2 : (X : Int) / 2 ^ N = ((X / 2 ^ N : Nat) : Int) := by simp
 have e3 : (X : Int) * 2 ^ (32 - N) = ((X * 2 ^ (32 - N) : Nat) : Int) := by simp
 have e4 : wrap64 ((X * 2 ^ (32 - N) : Nat) : Int) = ((X * 2 ^ (32 - N) : Nat) : Int) := by rw [← IntWalk.i64_left]; exact wrap_i64_nat _ hm
 rw [mask32]
 unfold rot
 rw [if_pos ⟨h1, h2⟩, hX, e1]
 simp only [Int.toNat_natCast]
 rw [e2, e3, e4, or_i64 _ _ hd hm]
 unfold rotN
 rw [show (4294967296 : Int) = ((2 ^ 32 : Nat) : Int) by decide, ← Int.natCast_emod, Nat.or_mod_two_pow, Nat.mod_eq_of_lt (a := X / 2 ^ N)]
 exact Nat.lt_of_le_of_lt (Nat.div_le_self _ _) (by omega)

theorem rot_word (x n : Int) (h1 : 1 ≤ n) (h2 : n ≤ 31) :
  wrap64 (bits .or .u32 (x % 4294967296 / 2 ^ n.toNat) (x % 4294967296 * 2 ^ (32 - n).toNat % 4294967296)) = rot x n := by
 obtain ⟨X, hX⟩ := Int.eq_ofNat_of_zero_le (show 0 ≤ x % 4294967296 by omega)
 obtain ⟨N, rfl⟩ := Int.eq_ofNat_of_zero_le (show 0 ≤ n by omega)
 have hXl : X < 4294967296 := by omega
 have e1 : (32 - (N : Int)).toNat = 32 - N := by omega
 have hd : X / 2 ^ N < 4294967296 := Nat.lt_of_le_of_lt (Nat.div_le_self _ _) (by omega)
 have e2 : (X : Int) / 2 ^ N = ((X / 2 ^ N : Nat) : Int) := by simp
 have e3 : (X : Int) * 2 ^ (32 - N) % 4294967296 = ((X * 2 ^ (32 - N) % 4294967296 : Nat) : Int) := by simp
 have hb := rotN_lt X N hXl
 unfold rot
 rw [if_pos ⟨h1, h2⟩, hX, e1]
 simp only [Int.toNat_natCast]
 rw [e2, e3, or_u32 _ _ hd (by omega)]
 unfold rotN at hb ⊢
 rw [← IntWalk.i64_left]; exact wrap_i64_nat _ (by omega)

end Go.Proofs.YtmcflfpckpjphaaGreatDoor.Bits

namespace Go.Proofs.YtmcflfpckpjphaaGreatDoor.App
open Go.RowKit Mem

theorem Rd.cells {w : World} {ad : Addr} {y : List Int} (h : Rd w (some ad) y) : ∀ j u, (y.map (Value.int .u8))[j]? = some u → w.cell? (ad.add j) = some u := by
 intro j u hu
 have hj : j < y.length := by
  have := (List.getElem?_eq_some_iff.1 hu).1
  simpa using this
 obtain ⟨b, off, e, _, hc⟩ := h j hj
 obtain rfl := Option.some.inj e
 rw [Addr.add_lit, hc]
 simpa [List.getD, hj] using hu

theorem wpList_app (w : World) {ops : Array Oper} {rest : List Oper} {o : Oper} {a : Act} {Q : Exit → Act → World → Prop} (hgd : o.guard = none) (s x : Operand)
  (ho : o.op = .call { callee := .builtin .append, args := #[s, x], argTypes := #[22, 22] })
  (base g n cap : Nat) (l y : List Int) (hs : a.eval s = .slice (some ⟨g, 0, none⟩) n cap) (hn : n = l.length) (hrow : Row w g cap l) (hbg : base ≤ g)
  (ao : Option Addr) (m c : Nat) (hx : a.eval x = .slice ao m c) (hm : m = y.length) (hrd : Rd w ao y) (hnone : ao = none → c = 0) (hsum : l.length + y.length ≤ 100000000)
  (h : ∀ g' cap' w', Row w' g' cap' (l ++ y) → base ≤ g' → g' < w'.heap.size → w.grownBy w' (some g) → wpList Tryz.prog ops Q rest (a.put o.dst (.slice (some ⟨g', 0, none⟩) (n + m) cap')) w') :
  wpList Tryz.prog ops Q (o :: rest) a w := by
 obtain ⟨i0, hi, hz0, hz1, hz2⟩ := info_parts info8
 subst hn hm
 have hlt := hrow.lt
 cases ao with
 | none =>
  have hy : y = [] := by
   cases y with
   | nil => rfl
   | cons z r => obtain ⟨_, _, e, _⟩ := hrd 0 (by simp); cases e
  subst hy
  have hc0 := hnone rfl
  subst hc0
  refine wpList_append_own_none hgd s x 22 ho base 5 i0 1 Tryz.underlying22 hi _ _ _ hs (hrow.owns hbg) hx ?_
  simpa using h g cap w (by simpa using hrow) hbg hlt (World.grownBy.refl _ _)
 | some ad =>
  refine wpList_append_own w hgd s x 22 ho base 5 i0 (.int .u8 0) 1 1 Tryz.underlying22 hi hz0 hz1 hz2 rfl (by decide) _ _ _ hs (hrow.owns hbg) ad y.length c (y.map (Value.int .u8)) hx (by simp) (Rd.cells hrd) (ints_oneCell _ _) (by unfold maxLen; omega) (by omega) (by omega) ?_
  intro v' w' hown hgr hiff
  rcases hown.2 with ⟨hv, _⟩ | ⟨g', cap', cur, rfl, hb, hg', _⟩
  ·
   exact absurd (hiff.1 hv).1 (by simp)
  ·
   rw [← List.map_append] at hown
   obtain ⟨r1, r2, _, r4⟩ := Row.of hown
   exact h g' cap' w' r1 r2 r4 hgr

theorem wpList_fit (w : World) {ops : Array Oper} {rest : List Oper} {o : Oper} {a : Act} {Q : Exit → Act → World → Prop} (hgd : o.guard = none) (s x : Operand)
  (ho : o.op = .call { callee := .builtin .append, args := #[s, x], argTypes := #[22, 22] })
  (g n cap : Nat) (l y : List Int) (hs : a.eval s = .slice (some ⟨g, 0, none⟩) n cap) (hn : n = l.length) (hrow : Row w g cap l)
  (ao : Option Addr) (m c : Nat) (hx : a.eval x = .slice ao m c) (hm : m = y.length) (hrd : Rd w ao y) (hnone : ao = none → c = 0) (hsum : l.length + y.length ≤ cap)
  (h : ∀ w', Row w' g cap (l ++ y) → w.grownBy w' (some g) → wpList Tryz.prog ops Q rest (a.put o.dst (.slice (some ⟨g, 0, none⟩) (n + m) cap)) w') :
  wpList Tryz.prog ops Q (o :: rest) a w := by
 obtain ⟨i0, hi, hz0, hz1, hz2⟩ := info_parts info8
 subst hn hm
 refine wpList_append_fits_any w hgd s x 22 ho g 5 i0 1 Tryz.underlying22 hi hz1 g l.length cap _ hs (hrow.owns (Nat.le_refl _)) ao y.length c (y.map (Value.int .u8)) hx (by simp) ?_ ?_ (ints_oneCell _ _) hsum ?_
 ·
  intro e
  subst e
  refine ⟨?_, hnone rfl⟩
  cases y with
  | nil => rfl
  | cons z r => obtain ⟨_, _, e, _⟩ := hrd 0 (by simp); cases e
 ·
  intro ad e
  subst e
  exact Rd.cells hrd
 ·
  intro w' hown hgr
  rw [← List.map_append] at hown
  exact h w' (Row.of hown).1 hgr

theorem rd_one (w : World) (z : Int) : Rd (w.alloc (.cells #[.int .u8 z] 5)) (some ⟨w.heap.size, 0, none⟩) [z] := by
 intro i hi
 have : i = 0 := by simpa using hi
 subst this
 exact ⟨_, _, rfl, by simp, by simp [World.cell?_alloc_at]⟩
theorem row_new (w : World) (z : List Int) (hz : z.length ≤ maxLen) : Row (w.alloc (.cells (z.map (Value.int .u8)).toArray 5)) w.heap.size z.length z :=
 ⟨Nat.le_refl _, hz, _, heap_alloc_new w _, by simp, by simp [← List.map_take]⟩
theorem row_alloc {w : World} {g cap : Nat} {l : List Int} (h : Row w g cap l) (o : Obj) : Row (w.alloc o) g cap l := h.keep (Below.heap_alloc w o g h.lt)
set_option maxHeartbeats 400000 in
theorem putBytes (a b : Option Addr) (nx ca ny cb : Nat) (x y : List Int) (w : World) (ex : nx = x.length) (ey : ny = y.length) (hx : Rd w a x) (hy : Rd w b y) (na : a = none → ca = 0) (nb : b = none → cb = 0) (lx : x.length ≤ 4194304) (ly : y.length ≤ 4194304) :
  Calls Tryz.prog 57 #[.slice a nx ca, .slice b ny cb] w fun e w' =>
   e = .returned (.slice (some ⟨w.heap.size, 0, none⟩) (nx + ny) (nx + ny)) ∧ Row w' w.heap.size (nx + ny) (x ++ y) ∧ Below w.heap.size w w' := by
 subst ex ey
 obtain ⟨i0, hi, hz0, hz1, hz2⟩ := info_parts info8
 have HX := hid (hx)
 have HY := hid (hy)
 clear hx hy
 go_enter Tryz.func57, Tryz.ntmps57
 go_wp2_with (first | (at_make; refine wpList_make_own _ rfl _ _ 22 rfl w.heap.size 5 i0 (.int .u8 0) 1 Tryz.underlying22 hi hz0 hz1 _ _ _ (x.length + y.length) rfl rfl (by omega) (by rw [hz2]; omega) (by unfold maxLen; omega) (Nat.le_refl _) ?_; intro w1 hown hgr; have hb1 : Hid (Below w.heap.size w w1) := (Below.refl _ _).grown hgr (Nat.le_refl _) (fun k h => by cases h); have hr1 : Hid (Row w1 w.heap.size (x.length + y.length) []) := (Row.of (l := []) hown).1; clear hown hgr) | (at_builtin; refine wpList_fit _ rfl (.tmp 12) (.tmp 13) rfl w.heap.size 0 (x.length + y.length) [] x rfl rfl hr1.out a x.length ca rfl rfl (HX.out.later hb1.out (Nat.le_refl _)) na (by simp) ?_; intro w2 hr2 hg2; have hb2 : Hid (Below w.heap.size w w2) := hb1.out.grown hg2 hb1.out.size (fun k h => by cases h; exact Nat.le_refl _); have hr2 := hid (hr2); clear hg2) | (at_builtin; refine wpList_fit _ rfl (.tmp 15) (.tmp 16) rfl w.heap.size x.length (x.length + y.length) ([] ++ x) y rfl rfl hr2.out b y.length cb rfl rfl (HY.out.later hb2.out (Nat.le_refl _)) nb (by simp) ?_; intro w3 hr3 hg3; have hb3 : Hid (Below w.heap.size w w3) := hb2.out.grown hg3 hb2.out.size (fun k h => by cases h; exact Nat.le_refl _); have hr3 := hid (hr3); clear hg3))
 go_ret
 exact ⟨rfl, by simpa using hr3.out, hb3.out⟩

def isSize (k : Int) : Bool := decide (1 ≤ k ∧ k ≤ 6)
theorem isSize_iff (k : Int) : isSize k = true ↔ 1 ≤ k ∧ k ≤ 6 := by simp [isSize]
theorem isSize_not (k : Int) (h : ¬ (1 ≤ k ∧ k ≤ 6)) : isSize k = false := by simpa [isSize] using h

theorem isNumberSize (k : Int) (w : World) :
  Calls Tryz.prog 117 #[.int .i64 k] w fun e w' => e = .returned (.bool (isSize k)) ∧ w = w' := by
 by_cases h1 : 1 ≤ k
 ·
  by_cases h2 : k ≤ 6
  ·
   have H : Hid (isSize k = true) := (isSize_iff k).2 ⟨h1, h2⟩
   go_enter Tryz.func117, Tryz.ntmps117
   go_wp2
   go_ret
   exact ⟨by rw [H.out]; simp, rfl⟩
  ·
   have H : Hid (isSize k = false) := isSize_not k (by omega)
   go_enter Tryz.func117, Tryz.ntmps117
   go_wp2
   go_ret
   exact ⟨by rw [H.out]; simp, rfl⟩
 ·
  have H : Hid (isSize k = false) := isSize_not k (by omega)
  go_enter Tryz.func117, Tryz.ntmps117
  go_wp2
  go_ret
  exact ⟨by rw [H.out]; simp, rfl⟩

def num (n : Int) : Nat → List Int
 | 0 => []
 | j + 1 => n / 2 ^ (8 * j) % 256 :: num n j
theorem num_length (n : Int) (k : Nat) : (num n k).length = k := by induction k with
 | zero => rfl
 | succ j ih => simp [num, ih]
theorem num_bytes (n : Int) (k : Nat) : Bytes (num n k) := by
 induction k with
 | zero => intro z hz; cases hz
 | succ j ih =>
  intro z hz
  simp only [num, List.mem_cons] at hz
  rcases hz with rfl | hz
  ·
   omega
  ·
   exact ih z hz
theorem num_getD (n : Int) (k j : Nat) (h : j < k) : (num n k).getD j 0 = n / 2 ^ (8 * (k - 1 - j)) % 256 := by
 induction k generalizing j with
 | zero => omega
 | succ i ih =>
  cases j with
  | zero => simp [num]
  | succ j =>
   have := ih j (by omega)
   rw [show i + 1 - 1 - (j + 1) = i - 1 - j by omega]
   simpa [num] using this
theorem num_take (n : Int) (k j : Nat) (h : j < k) : (num n k).take (j + 1) = (num n k).take j ++ [n / 2 ^ (8 * (k - 1 - j)) % 256] := by
 rw [List.take_succ_eq_append_getElem (by rw [num_length]; exact h)]
 have := num_getD n k j h
 simp only [List.getD, List.getElem?_eq_getElem (show j < (num n k).length by rw [num_length]; exact h), Option.getD_some] at this
 rw [this]
def putN (n k : Int) : List Int := if 1 ≤ k ∧ k ≤ 6 then num n k.toNat else []
theorem putN_length (n k : Int) : (putN n k).length ≤ 6 := by
 unfold putN; split
 ·
  rw [num_length]; omega
 ·
  simp
theorem set_num (n : Int) (k j : Nat) (h : j < k) :
  (List.replicate (k - j) (0 : Int) ++ num n j).set (k - 1 - j) (n / 2 ^ (8 * j) % 256) = List.replicate (k - (j + 1)) 0 ++ num n (j + 1) := by
 rw [show k - j = (k - (j + 1)) + 1 by omega, List.replicate_succ', List.append_assoc, List.set_append, if_neg (by simp; omega), List.length_replicate, show k - 1 - j - (k - (j + 1)) = 0 by omega]
 rfl
theorem div_step (n : Int) (j : Nat) : n / 2 ^ (8 * j) / 256 = n / 2 ^ (8 * (j + 1)) := by
 rw [Int.ediv_ediv_of_nonneg (Int.le_of_lt (Int.pow_pos (by decide))), show (256 : Int) = 2 ^ 8 by decide, ← Int.pow_add]
 congr 2

set_option maxHeartbeats 400000 in
theorem highestFirst (n : Int) (k : Nat) (w : World) (h1 : 1 ≤ k) (h6 : k ≤ 8) :
  Calls Tryz.prog 118 #[.int .i64 n, .int .i64 k] w fun e w' =>
   e = .returned (.slice (some ⟨w.heap.size, 0, none⟩) k k) ∧ Row w' w.heap.size k (num n k) ∧ Below w.heap.size w w' := by
 obtain ⟨i0, hi, hz0, hz1, hz2⟩ := info_parts info8
 go_enter Tryz.func118, Tryz.ntmps118
 go_wp2_with (at_make; refine wpList_make_full _ rfl _ _ 22 rfl w.heap.size 5 i0 (.int .u8 0) 1 Tryz.underlying22 hi hz0 hz1 _ _ _ _ k rfl rfl rfl rfl (by rw [hz2]; omega) (by unfold maxLen; omega) (Nat.le_refl _) ?_; intro w1 hown hgr)
 have hb1 : Below w.heap.size w w1 := (Below.refl _ _).grown hgr (Nat.le_refl _) (fun k h => by cases h)
 have hown1 : w1.ownsRow w.heap.size 5 1 (.slice (some ⟨w.heap.size, 0, none⟩) k k) k ((List.replicate (k - 0) (0 : Int) ++ num n 0).map (Value.int .u8)) := by
  simpa [Value.cells, toList_madeCells_one, num] using hown
 clear hown hgr
 go_loopw [0, 6] (fun c i wr => ∃ j : Nat, j ≤ k ∧ i = .int .i64 ((k : Int) - 1 - j) ∧ c = .int .i64 (n / 2 ^ (8 * j)) ∧ wr.ownsRow w.heap.size 5 1 (.slice (some ⟨w.heap.size, 0, none⟩) k k) k ((List.replicate (k - j) (0 : Int) ++ num n j).map (Value.int .u8)) ∧ Below w.heap.size w wr)
  (fun _ i _ => (intOf i + 1).toNat)
 case atStart => exact ⟨0, Nat.zero_le _, by go_num, by simp, hown1, hb1⟩
 case round =>
  obtain ⟨j, hj, rfl, rfl, ho, hb⟩ := hrel
  clear hown1 hb1
  by_cases hlt : j < k
  ·
   have hst := ho.stored (k - 1 - j) (.int .u8 (n / 2 ^ (8 * j) % 256))
   have hfr := ho.frozenAt (k - 1 - j)
   have hca : ∃ v, wr.cell? ⟨w.heap.size, k - 1 - j, none⟩ = some v := by
    rw [ho.cellAt (k - 1 - j) (by omega)]
    exact ⟨_, List.getElem?_eq_getElem (by simp [num_length]; omega)⟩
   obtain ⟨v0, hca⟩ := hca
   have R1 : Hid ((wr.setCell ⟨w.heap.size, k - 1 - j, none⟩ (.int .u8 (n / 2 ^ (8 * j) % 256))).ownsRow w.heap.size 5 1 (.slice (some ⟨w.heap.size, 0, none⟩) k k) k ((List.replicate (k - (j + 1)) (0 : Int) ++ num n (j + 1)).map (Value.int .u8))) := by
    have := hst.1
    rw [← List.map_set, set_num n k j hlt] at this
    exact this
   have R2 : Hid (Below w.heap.size w (wr.setCell ⟨w.heap.size, k - 1 - j, none⟩ (.int .u8 (n / 2 ^ (8 * j) % 256)))) := hb.setCell (Nat.le_refl _) _
   have R3 : Hid (n / 2 ^ (8 * j) / 256 = n / 2 ^ (8 * (j + 1))) := div_step n j
   obtain ⟨q, hq⟩ : ∃ q : Nat, (q : Int) = (k : Int) - 1 - j := ⟨k - 1 - j, by omega⟩
   have hq' : k - 1 - j = q := by omega
   rw [hq'] at hfr hca R1 R2
   rw [← hq]
   have HQ : Hid ((q : Int) = (k : Int) - 1 - j) := hq
   have hqk : q < k := by omega
   clear hst ho hb hq hq'
   generalize n / 2 ^ (8 * j) = c at *
   go_wp2
   go_roundw
   case rel => exact ⟨j + 1, by omega, by have := HQ.out; go_num, by rw [← R3.out], R1.out, R2.out⟩
   case measure => simp [intOf]
  ·
   obtain rfl : j = k := by omega
   have hneg : (j : Int) - 1 - (j : Int) < 0 := by omega
   go_wp2
   go_ret
   rw [Nat.sub_self, List.replicate_zero, List.nil_append] at ho
   exact ⟨rfl, (Row.of ho).1, hb⟩

set_option maxHeartbeats 400000 in
theorem implPutN (a : Option Addr) (nl ca : Nat) (l : List Int) (n k : Int) (w : World) (hn : nl = l.length) (hr : Rd w a l) (na : a = none → ca = 0) (ll : l.length ≤ 2097152) :
  Calls Tryz.prog 73 #[.slice a nl ca, .int .i64 n, .int .i64 k] w fun e w' =>
   ∃ g m cap, e = .returned (.slice (some ⟨g, 0, none⟩) m cap) ∧ m = (l ++ putN n k).length ∧ w.heap.size ≤ g ∧ Row w' g cap (l ++ putN n k) ∧ Below w.heap.size w w' := by
 subst hn
 have HR := hid (hr)
 clear hr
 by_cases hk : 1 ≤ k ∧ k ≤ 6
 ·
  obtain ⟨K, rfl⟩ := Int.eq_ofNat_of_zero_le (show 0 ≤ k by omega)
  have hs : isSize (K : Int) = true := (isSize_iff _).2 hk
  have HP : Hid (putN n (K : Int) = num n K) := by show putN n (K : Int) = num n K; unfold putN; rw [if_pos hk, Int.toNat_natCast]
  have hk1 : 1 ≤ K := by omega
  have hk2 : K ≤ 6 := by omega
  clear hk
  go_enter Tryz.func73, Tryz.ntmps73
  go_wp2_with fail
  refine (isNumberSize _ _).mono ?_
  rintro e w1 ⟨rfl, rfl⟩
  go_wp2_with fail
  refine (highestFirst n K _ hk1 (by omega)).mono ?_
  rintro e w1 ⟨rfl, h1, h2⟩
  go_wp2_with fail
  have HN : Hid ((num n K).length = K) := num_length n K
  refine (putBytes a _ _ ca K K l (num n K) w1 rfl HN.out.symm (HR.out.later h2 (Nat.le_refl _)) h1.rd na (by intro h; cases h) (by omega) (by rw [HN.out]; omega)).mono ?_
  rintro e w2 ⟨rfl, h3, h4⟩
  have hz := h2.size
  go_wp2
  go_ret
  exact ⟨w1.heap.size, _, _, rfl, by rw [HP.out, List.length_append, HN.out], hz, by rw [HP.out]; exact h3, h2.trans (h4.mono hz)⟩
 ·
  have hs : isSize k = false := isSize_not k hk
  have HP : Hid (putN n k = []) := by show putN n k = []; unfold putN; rw [if_neg hk]
  clear hk
  go_enter Tryz.func73, Tryz.ntmps73
  go_wp2_with fail
  refine (isNumberSize _ _).mono ?_
  rintro e w1 ⟨rfl, rfl⟩
  go_wp2_with fail
  refine (putBytes a none _ ca 0 0 l [] w rfl rfl HR.out (by intro i hi; cases hi) na (fun _ => rfl) (by omega) (by simp)).mono ?_
  rintro e w2 ⟨rfl, h3, h4⟩
  go_wp2
  go_ret
  exact ⟨w.heap.size, _, _, rfl, by rw [HP.out, List.append_nil], Nat.le_refl _, by rw [HP.out]; exact h3, h4⟩

set_option maxHeartbeats 800000 in
theorem specPutN (a : Option Addr) (nl ca : Nat) (l : List Int) (n k : Int) (w : World) (hn : nl = l.length) (hr : Rd w a l) (na : a = none → ca = 0) (ll : l.length ≤ 2097152) :
  Calls Tryz.prog 102 #[.slice a nl ca, .int .i64 n, .int .i64 k] w fun e w' =>
   ∃ g m cap, e = .returned (.slice (some ⟨g, 0, none⟩) m cap) ∧ m = (l ++ putN n k).length ∧ w.heap.size ≤ g ∧ Row w' g cap (l ++ putN n k) ∧ Below w.heap.size w w' := by
 subst hn
 have HR := hid (hr)
 clear hr
 have ha1 : Below w.heap.size w (w.alloc (.cells #[] 5)) := (Below.refl _ _).alloc (Nat.le_refl _) _
 have HA := hid (ha1)
 clear ha1
 by_cases hk : 1 ≤ k ∧ k ≤ 6
 ·
  obtain ⟨K, rfl⟩ := Int.eq_ofNat_of_zero_le (show 0 ≤ k by omega)
  have HP : Hid (putN n (K : Int) = num n K) := by show putN n (K : Int) = num n K; unfold putN; rw [if_pos hk, Int.toNat_natCast]
  have hk1 : 1 ≤ K := by omega
  have hk2 : K ≤ 6 := by omega
  clear hk
  go_enter Tryz.func102, Tryz.ntmps102
  go_wp2_with (at_builtin; refine wpList_app _ rfl _ _ rfl w.heap.size w.heap.size 0 0 [] l rfl rfl (row_new w [] (by simp)) (Nat.le_refl _) a l.length ca rfl rfl (HR.out.later HA.out (Nat.le_refl _)) na (by simp; omega) ?_; intro g1 c1 w1 r1 b1 l1 gr1; have R1 := hid (r1); have B1 : Hid (Below w.heap.size w w1) := HA.out.grown gr1 HA.out.size (fun k h => by cases h; exact Nat.le_refl _); clear r1 gr1 l1)
  go_loopw [7, 8] (fun v i wr => ∃ (j g c : Nat), j ≤ K ∧ i = .int .i64 ((K : Int) - 1 - j) ∧ v = .slice (some ⟨g, 0, none⟩) (l.length + j) c ∧ w.heap.size ≤ g ∧ Row wr g c (l ++ (num n K).take j) ∧ Below w.heap.size w wr)
   (fun _ i _ => (intOf i + 1).toNat)
  case atStart => exact ⟨0, g1, c1, Nat.zero_le _, by go_num, by simp, b1, by simpa using R1.out, B1.out⟩
  case round =>
   obtain ⟨j, g, c, hj, rfl, rfl, hg, hrow, hb⟩ := hrel
   clear HA R1 B1 HR
   by_cases hlt : j < K
   ·
    obtain ⟨q, hq⟩ : ∃ q : Nat, (q : Int) = (K : Int) - 1 - j := ⟨K - 1 - j, by omega⟩
    have hq' : K - 1 - j = q := by omega
    have HT : Hid ((num n K).take (j + 1) = (num n K).take j ++ [n / 2 ^ (8 * q) % 256]) := by have := num_take n K j hlt; rw [hq'] at this; exact this
    have HN : Hid (((num n K).take j).length = j) := by show _ = _; rw [List.length_take, num_length]; omega
    rw [← hq]
    have HQ : Hid ((q : Int) = (K : Int) - 1 - j) := hq
    have hq5 : q ≤ 5 := by omega
    have hm := Bits.mask8 (n / 2 ^ (8 * q))
    have HRow := hid (hrow)
    have HB := hid (hb)
    have HL : Hid (l.length + j = (l ++ (num n K).take j).length) := by show _ = _; rw [List.length_append, HN.out]
    clear hq hq' hrow hb
    go_wp2_with (at_builtin; refine wpList_app _ rfl (.tmp 25) (.tmp 32) rfl w.heap.size g (l.length + j) c (l ++ (num n K).take j) [n / 2 ^ (8 * q) % 256] rfl HL.out (row_alloc HRow.out _) hg (some ⟨wr.heap.size, 0, none⟩) 1 1 rfl rfl (rd_one _ _) (by intro h; cases h) (by rw [← HL.out]; simp; omega) ?_; intro g2 c2 w2 r2 b2 l2 gr2; have R2 := hid (r2); have B2 : Hid (Below w.heap.size w w2) := (HB.out.alloc HB.out.size _).grown gr2 (Nat.le_trans HB.out.size (by simp)) (fun k h => by cases h; exact hg); clear r2 gr2 l2)
    go_roundw
    case rel => exact ⟨j + 1, g2, c2, by omega, by have := HQ.out; go_num, by simp [Nat.add_assoc], b2, by rw [HT.out, ← List.append_assoc]; exact R2.out, B2.out⟩
    case measure => simp [intOf]
   ·
    obtain rfl : j = K := by omega
    have hneg : (j : Int) - 1 - (j : Int) < 0 := by omega
    have HN : Hid ((num n j).take j = num n j) := List.take_of_length_le (by rw [num_length]; exact Nat.le_refl _)
    go_wp2
    go_ret
    exact ⟨g, _, c, rfl, by rw [HP.out, List.length_append, num_length], hg, by rw [HP.out]; rw [HN.out] at hrow; exact hrow, hb⟩
 ·
  have HP : Hid (putN n k = []) := by show putN n k = []; unfold putN; rw [if_neg hk]
  rcases (show k < 1 ∨ 6 < k by omega) with hk' | hk'
  all_goals
   go_enter Tryz.func102, Tryz.ntmps102
   go_wp2_with (at_builtin; refine wpList_app _ rfl _ _ rfl w.heap.size w.heap.size 0 0 [] l rfl rfl (row_new w [] (by simp)) (Nat.le_refl _) a l.length ca rfl rfl (HR.out.later HA.out (Nat.le_refl _)) na (by simp; omega) ?_; intro g1 c1 w1 r1 b1 l1 gr1; have R1 := hid (r1); have B1 : Hid (Below w.heap.size w w1) := HA.out.grown gr1 HA.out.size (fun k h => by cases h; exact Nat.le_refl _); clear r1 gr1 l1)
   go_ret
   exact ⟨_, _, _, rfl, by rw [HP.out, List.append_nil], b1, by rw [HP.out]; simpa using R1.out, B1.out⟩
end Go.Proofs.YtmcflfpckpjphaaGreatDoor.App

namespace Go.Proofs.YtmcflfpckpjphaaGreatDoor.Blk
open Go.RowKit Mem MemI

def Blk (w : World) (g : Nat) (t : TypeId) (cs : List Value) : Prop := w.heap[g]? = some (.cells cs.toArray t (0, 0))
theorem Blk.keep {w w' : World} {g : Nat} {t : TypeId} {cs : List Value} (h : Blk w g t cs) (e : w'.heap[g]? = w.heap[g]?) : Blk w' g t cs := e.trans h
theorem Blk.lt {w : World} {g : Nat} {t : TypeId} {cs : List Value} (h : Blk w g t cs) : g < w.heap.size := (Array.getElem?_eq_some_iff.1 h).1
theorem Blk.below {w w' : World} {g : Nat} {t : TypeId} {cs : List Value} (h : Blk w g t cs) {B : Nat} (b : Below B w w') (hg : g < B) : Blk w' g t cs := h.keep (b.block g hg)
theorem Blk.later {w w' : World} {g : Nat} {t : TypeId} {cs : List Value} (h : Blk w g t cs) (b : Below w.heap.size w w') : Blk w' g t cs := h.below b h.lt
theorem Blk.drewN {w : World} {g : Nat} {t : TypeId} {cs : List Value} (h : Blk w g t cs) (m : Nat) : Blk (w.drewN m) g t cs := h
theorem Blk.cell {w : World} {g : Nat} {t : TypeId} {cs : List Value} (h : Blk w g t cs) (i : Nat) {v : Value} (hv : cs[i]? = some v) : w.cell? ⟨g, i, none⟩ = some v := by
 rw [cell_of_row w g i cs.toArray t (0, 0) h]; simpa using hv
theorem Blk.frozen {w : World} {g : Nat} {t : TypeId} {cs : List Value} (h : Blk w g t cs) (i : Nat) : w.frozen? ⟨g, i, none⟩ = false := frozen_of_row w g i cs.toArray t h
theorem Blk.owns {w : World} {g : Nat} {t : TypeId} {cs : List Value} (h : Blk w g t cs) (hl : cs.length ≤ maxLen) : w.ownsRow g t 1 (.slice (some ⟨g, 0, none⟩) cs.length cs.length) cs.length cs :=
 ⟨by simp, .inr ⟨g, cs.length, cs.toArray, rfl, Nat.le_refl _, h, Nat.le_refl _, hl, by simp, by simp⟩⟩
theorem Blk.set {w : World} {g : Nat} {t : TypeId} {cs : List Value} (h : Blk w g t cs) (i : Nat) (v : Value) (hl : cs.length ≤ maxLen) : Blk (w.setCell ⟨g, i, none⟩ v) g t (cs.set i v) := by
 obtain ⟨h1, h2⟩ := (h.owns hl).stored i v
 obtain ⟨h0, h⟩ := h1
 rcases h with ⟨h, _⟩ | ⟨g', cap', cur, hv, hb, hg, h1, h2, h3, h4⟩
 ·
  simp at h
 ·
  simp only [Value.slice.injEq, Option.some.injEq, Addr.mk.injEq, and_true, true_and] at hv
  obtain ⟨rfl, rfl⟩ := hv
  have : cur = (cs.set i v).toArray := by
   apply Array.toList_inj.1
   rw [List.take_of_length_le (by rw [Array.length_toList]; omega)] at h4
   simpa using h4
  rw [this] at hg
  exact hg
theorem Blk.new (w : World) (t : TypeId) (cs : List Value) : Blk (w.alloc (.cells cs.toArray t)) w.heap.size t cs := heap_alloc_new w _
theorem Blk.alloc {w : World} {g : Nat} {t : TypeId} {cs : List Value} (h : Blk w g t cs) (o : Obj) : Blk (w.alloc o) g t cs := h.keep (Below.heap_alloc w o g h.lt)
theorem Blk.other {w : World} {g : Nat} {t : TypeId} {cs : List Value} (h : Blk w g t cs) {a : Addr} (ne : g ≠ a.block) (v : Value) : Blk (w.setCell a v) g t cs := h.keep (Below.heap_setCell w a v g ne)
theorem Blk.int {w : World} {g : Nat} {t : TypeId} {l : List Int} {r : List Value} (h : Blk w g t (l.map (Value.int .i64) ++ r)) (i : Nat) (hi : i < l.length) : w.cell? ⟨g, i, none⟩ = some (.int .i64 (l.getD i 0)) :=
 h.cell i (by simp [List.getElem?_append, hi, List.getD])
theorem set_ints (l : List Int) (r : List Value) (i : Nat) (z : Int) (hi : i < l.length) : (l.map (Value.int .i64) ++ r).set i (.int .i64 z) = (l.set i z).map (Value.int .i64) ++ r := by
 rw [List.set_append, if_pos (by simpa using hi), List.map_set]
theorem below_drewN {B : Nat} {a w : World} (h : Below B a w) (m : Nat) : Below B a (w.drewN m) := ⟨h.os, h.tape, h.output, h.size, h.block⟩
theorem Rd.drewN {w : World} {a : Option Addr} {l : List Int} (h : Rd w a l) (m : Nat) : Rd (w.drewN m) a l := h.later (below_drewN (Below.refl w.heap.size w) m) (Nat.le_refl _)
theorem IRd.cells {w : World} {ad : Addr} {y : List Int} (h : IRd w (some ad) y) : ∀ j u, (y.map (Value.int .i64))[j]? = some u → w.cell? (ad.add j) = some u := by
 intro j u hu
 have hj : j < y.length := by
  have := (List.getElem?_eq_some_iff.1 hu).1
  simpa using this
 obtain ⟨b, off, e, _, hc⟩ := h j hj
 obtain rfl := Option.some.inj e
 rw [Addr.add_lit, hc]
 simpa [List.getD, hj] using hu

theorem iwpList_app (w : World) {ops : Array Oper} {rest : List Oper} {o : Oper} {a : Act} {Q : Exit → Act → World → Prop} (hgd : o.guard = none) (s x : Operand)
  (ho : o.op = .call { callee := .builtin .append, args := #[s, x], argTypes := #[37, 37] })
  (base g n cap : Nat) (l y : List Int) (hs : a.eval s = .slice (some ⟨g, 0, none⟩) n cap) (hn : n = l.length) (hrow : IRow w g cap l) (hbg : base ≤ g)
  (ao : Option Addr) (m c : Nat) (hx : a.eval x = .slice ao m c) (hm : m = y.length) (hrd : IRd w ao y) (hnone : ao = none → c = 0) (hsum : l.length + y.length ≤ 100000000)
  (h : ∀ g' cap' w', IRow w' g' cap' (l ++ y) → base ≤ g' → g' < w'.heap.size → w.grownBy w' (some g) → wpList Tryz.prog ops Q rest (a.put o.dst (.slice (some ⟨g', 0, none⟩) (n + m) cap')) w') :
  wpList Tryz.prog ops Q (o :: rest) a w := by
 obtain ⟨i0, hi, hz0, hz1, hz2⟩ := info_parts info64
 subst hn hm
 have hlt := hrow.lt
 cases ao with
 | none =>
  have hy : y = [] := by
   cases y with
   | nil => rfl
   | cons z r => obtain ⟨_, _, e, _⟩ := hrd 0 (by simp); cases e
  subst hy
  have hc0 := hnone rfl
  subst hc0
  refine wpList_append_own_none hgd s x 37 ho base 3 i0 1 Tryz.underlying37 hi _ _ _ hs (hrow.owns hbg) hx ?_
  simpa using h g cap w (by simpa using hrow) hbg hlt (World.grownBy.refl _ _)
 | some ad =>
  refine wpList_append_own w hgd s x 37 ho base 3 i0 (.int .i64 0) 1 8 Tryz.underlying37 hi hz0 hz1 hz2 rfl (by decide) _ _ _ hs (hrow.owns hbg) ad y.length c (y.map (Value.int .i64)) hx (by simp) (IRd.cells hrd) (ints_oneCell _ _) (by unfold maxLen; omega) (by omega) (by omega) ?_
  intro v' w' hown hgr hiff
  rcases hown.2 with ⟨hv, _⟩ | ⟨g', cap', cur, rfl, hb, hg', _⟩
  ·
   exact absurd (hiff.1 hv).1 (by simp)
  ·
   rw [← List.map_append] at hown
   obtain ⟨r1, r2, _, r4⟩ := IRow.of hown
   exact h g' cap' w' r1 r2 r4 hgr

theorem ird_one (w : World) (z : Int) : IRd (w.alloc (.cells #[.int .i64 z] 3)) (some ⟨w.heap.size, 0, none⟩) [z] := by
 intro i hi
 have : i = 0 := by simpa using hi
 subst this
 exact ⟨_, _, rfl, by simp, by simp [World.cell?_alloc_at]⟩
theorem irow_new (w : World) (z : List Int) (hz : z.length ≤ maxLen) : IRow (w.alloc (.cells (z.map (Value.int .i64)).toArray 3)) w.heap.size z.length z :=
 ⟨Nat.le_refl _, hz, _, heap_alloc_new w _, by simp, by simp [← List.map_take]⟩
theorem irow_alloc {w : World} {g cap : Nat} {l : List Int} (h : IRow w g cap l) (o : Obj) : IRow (w.alloc o) g cap l := h.keep (Below.heap_alloc w o g h.lt)
theorem cells5 {w : World} {g : Nat} {t : TypeId} {v0 v1 v2 v3 v4 : Value} (h : Blk w g t [v0, v1, v2, v3, v4]) : w.cell? ⟨g, 0, none⟩ = some v0 ∧ w.cell? ⟨g, 1, none⟩ = some v1 ∧ w.cell? ⟨g, 2, none⟩ = some v2 ∧ w.cell? ⟨g, 3, none⟩ = some v3 ∧ w.cell? ⟨g, 4, none⟩ = some v4 := ⟨h.cell 0 rfl, h.cell 1 rfl, h.cell 2 rfl, h.cell 3 rfl, h.cell 4 rfl⟩
theorem froz5 {w : World} {g : Nat} {t : TypeId} {v0 v1 v2 v3 v4 : Value} (h : Blk w g t [v0, v1, v2, v3, v4]) : w.frozen? ⟨g, 0, none⟩ = false ∧ w.frozen? ⟨g, 1, none⟩ = false ∧ w.frozen? ⟨g, 2, none⟩ = false ∧ w.frozen? ⟨g, 3, none⟩ = false ∧ w.frozen? ⟨g, 4, none⟩ = false := ⟨h.frozen 0, h.frozen 1, h.frozen 2, h.frozen 3, h.frozen 4⟩
theorem cells11 {w : World} {g : Nat} {t : TypeId} {v0 v1 v2 v3 v4 v5 v6 v7 v8 v9 v10 : Value} (h : Blk w g t [v0, v1, v2, v3, v4, v5, v6, v7, v8, v9, v10]) : w.cell? ⟨g, 0, none⟩ = some v0 ∧ w.cell? ⟨g, 1, none⟩ = some v1 ∧ w.cell? ⟨g, 2, none⟩ = some v2 ∧ w.cell? ⟨g, 3, none⟩ = some v3 ∧ w.cell? ⟨g, 4, none⟩ = some v4 ∧ w.cell? ⟨g, 5, none⟩ = some v5 ∧ w.cell? ⟨g, 6, none⟩ = some v6 ∧ w.cell? ⟨g, 7, none⟩ = some v7 ∧ w.cell? ⟨g, 8, none⟩ = some v8 ∧ w.cell? ⟨g, 9, none⟩ = some v9 ∧ w.cell? ⟨g, 10, none⟩ = some v10 := ⟨h.cell 0 rfl, h.cell 1 rfl, h.cell 2 rfl, h.cell 3 rfl, h.cell 4 rfl, h.cell 5 rfl, h.cell 6 rfl, h.cell 7 rfl, h.cell 8 rfl, h.cell 9 rfl, h.cell 10 rfl⟩
theorem froz11 {w : World} {g : Nat} {t : TypeId} {v0 v1 v2 v3 v4 v5 v6 v7 v8 v9 v10 : Value} (h : Blk w g t [v0, v1, v2, v3, v4, v5, v6, v7, v8, v9, v10]) : w.frozen? ⟨g, 0, none⟩ = false ∧ w.frozen? ⟨g, 1, none⟩ = false ∧ w.frozen? ⟨g, 2, none⟩ = false ∧ w.frozen? ⟨g, 3, none⟩ = false ∧ w.frozen? ⟨g, 4, none⟩ = false ∧ w.frozen? ⟨g, 5, none⟩ = false ∧ w.frozen? ⟨g, 6, none⟩ = false ∧ w.frozen? ⟨g, 7, none⟩ = false ∧ w.frozen? ⟨g, 8, none⟩ = false ∧ w.frozen? ⟨g, 9, none⟩ = false ∧ w.frozen? ⟨g, 10, none⟩ = false := ⟨h.frozen 0, h.frozen 1, h.frozen 2, h.frozen 3, h.frozen 4, h.frozen 5, h.frozen 6, h.frozen 7, h.frozen 8, h.frozen 9, h.frozen 10⟩
end Go.Proofs.YtmcflfpckpjphaaGreatDoor.Blk

namespace Go.Proofs.YtmcflfpckpjphaaGreatDoor.Zone
open Go.RowKit Mem Blk

structure Kept (lo hi : Nat) (w w' : World) : Prop where
 os : w'.os = w.os
 tape : w'.tape = w.tape
 output : w'.output = w.output
 size : w.heap.size ≤ w'.heap.size
 block : ∀ i, i < w.heap.size → (i < lo ∨ hi ≤ i) → w'.heap[i]? = w.heap[i]?

theorem Kept.of_below {w w' : World} (h : Below w.heap.size w w') (n : Nat) : Kept n n w w' := ⟨h.os, h.tape, h.output, h.size, fun i hi _ => h.block i hi⟩
theorem Kept.refl (lo hi : Nat) (w : World) : Kept lo hi w w := ⟨rfl, rfl, rfl, Nat.le_refl _, fun _ _ _ => rfl⟩
theorem Kept.of_grown {w w' : World} {g : Nat} (h : w.grownBy w' (some g)) : Kept g (g + 1) w w' := ⟨h.os, h.tape, h.output, h.size, fun i hi hg => h.block i hi (by simp only [ne_eq, Option.some.injEq]; omega)⟩
theorem Kept.trans {lo hi : Nat} {a b c : World} (h : Kept lo hi a b) (k : Kept lo hi b c) : Kept lo hi a c :=
 ⟨k.os.trans h.os, k.tape.trans h.tape, k.output.trans h.output, Nat.le_trans h.size k.size, fun i hi hg => (k.block i (Nat.lt_of_lt_of_le hi h.size) hg).trans (h.block i hi hg)⟩
theorem Kept.mono {lo hi lo' hi' : Nat} {a b : World} (h : Kept lo hi a b) (h1 : lo' ≤ lo) (h2 : hi ≤ hi') : Kept lo' hi' a b :=
 ⟨h.os, h.tape, h.output, h.size, fun i hi hg => h.block i hi (by omega)⟩
theorem Kept.any {n lo hi : Nat} {a b : World} (h : Kept n n a b) : Kept lo hi a b := ⟨h.os, h.tape, h.output, h.size, fun i hi _ => h.block i hi (by omega)⟩
theorem Kept.below {lo hi n : Nat} {a b : World} (h : Kept lo hi a b) (h1 : n ≤ lo) (h2 : n ≤ a.heap.size) : Below n a b := ⟨h.os, h.tape, h.output, h.size, fun i hi => h.block i (by omega) (by omega)⟩
theorem Kept.setCell (w : World) (g i : Nat) (v : Value) : Kept g (g + 1) w (w.setCell ⟨g, i, none⟩ v) :=
 ⟨rfl, rfl, rfl, by simp, fun k _ hk => Below.heap_setCell w _ v k (by show k ≠ g; omega)⟩

structure Sl where
 a : Option Addr
 n : Nat
 c : Nat
structure SRd (w : World) (s : Sl) (l : List Int) : Prop where
 len : s.n = l.length
 rd : Rd w s.a l
 nil : s.a = none → s.c = 0
 cap : s.n ≤ s.c
 bytes : Bytes l

def SOwn (w : World) (lo hi : Nat) (s : Sl) (l : List Int) : Prop :=
 Bytes l ∧ ((s = ⟨none, 0, 0⟩ ∧ l = []) ∨ ∃ g, s.a = some ⟨g, 0, none⟩ ∧ s.n = l.length ∧ lo ≤ g ∧ g < hi ∧ Row w g s.c l)

theorem SOwn.rd {w : World} {lo hi : Nat} {s : Sl} {l : List Int} (h : SOwn w lo hi s l) : SRd w s l := by
 obtain ⟨hb, h | ⟨g, h1, h2, h3, h4, h5⟩⟩ := h
 ·
  obtain ⟨rfl, rfl⟩ := h
  exact ⟨rfl, (fun i hi => by cases hi), fun _ => rfl, Nat.le_refl _, hb⟩
 ·
  exact ⟨h2, by rw [h1]; exact h5.rd, (fun e => by rw [h1] at e; cases e), by rw [h2]; exact h5.1, hb⟩
theorem SOwn.carry {w w' : World} {lo hi a b : Nat} {s : Sl} {l : List Int} (h : SOwn w lo hi s l) (k : Kept a b w w') (d : hi ≤ a ∨ b ≤ lo) : SOwn w' lo hi s l := by
 obtain ⟨hb, h | ⟨g, h1, h2, h3, h4, h5⟩⟩ := h
 ·
  exact ⟨hb, .inl h⟩
 ·
  exact ⟨hb, .inr ⟨g, h1, h2, h3, h4, h5.keep (k.block g h5.lt (by omega))⟩⟩
theorem SOwn.len {w : World} {lo hi : Nat} {s : Sl} {l : List Int} (h : SOwn w lo hi s l) : s.n = l.length := h.rd.len
theorem SOwn.mono {w : World} {lo hi lo' hi' : Nat} {s : Sl} {l : List Int} (h : SOwn w lo hi s l) (h1 : lo' ≤ lo) (h2 : hi ≤ hi') : SOwn w lo' hi' s l := by
 obtain ⟨hb, h | ⟨g, q1, q2, q3, q4, q5⟩⟩ := h
 ·
  exact ⟨hb, .inl h⟩
 ·
  exact ⟨hb, .inr ⟨g, q1, q2, by omega, by omega, q5⟩⟩
theorem SOwn.nil (w : World) (lo hi : Nat) : SOwn w lo hi ⟨none, 0, 0⟩ [] := ⟨(fun z hz => by cases hz), .inl ⟨rfl, rfl⟩⟩
theorem SOwn.row {w : World} {lo hi g n c : Nat} {l : List Int} (h : Row w g c l) (hn : n = l.length) (hb : Bytes l) (h1 : lo ≤ g) (h2 : g < hi) : SOwn w lo hi ⟨some ⟨g, 0, none⟩, n, c⟩ l := ⟨hb, .inr ⟨g, rfl, hn, h1, h2, h⟩⟩
theorem SRd.later {w w' : World} {s : Sl} {l : List Int} (h : SRd w s l) (b : Below w.heap.size w w') : SRd w' s l := ⟨h.len, h.rd.later b (Nat.le_refl _), h.nil, h.cap, h.bytes⟩
end Go.Proofs.YtmcflfpckpjphaaGreatDoor.Zone

namespace Go.Proofs.YtmcflfpckpjphaaGreatDoor.ZoneI
open Go.RowKit Mem MemI Blk Zone

structure ISRd (w : World) (s : Sl) (l : List Int) : Prop where
 len : s.n = l.length
 rd : IRd w s.a l
 nil : s.a = none → s.c = 0
 cap : s.n ≤ s.c
def ISOwn (w : World) (lo hi : Nat) (s : Sl) (l : List Int) : Prop :=
 (s = ⟨none, 0, 0⟩ ∧ l = []) ∨ ∃ g, s.a = some ⟨g, 0, none⟩ ∧ s.n = l.length ∧ lo ≤ g ∧ g < hi ∧ IRow w g s.c l
theorem ISOwn.rd {w : World} {lo hi : Nat} {s : Sl} {l : List Int} (h : ISOwn w lo hi s l) : ISRd w s l := by
 obtain h | ⟨g, h1, h2, h3, h4, h5⟩ := h
 ·
  obtain ⟨rfl, rfl⟩ := h
  exact ⟨rfl, (fun i hi => by cases hi), fun _ => rfl, Nat.le_refl _⟩
 ·
  exact ⟨h2, by rw [h1]; exact h5.rd, (fun e => by rw [h1] at e; cases e), by rw [h2]; exact h5.1⟩
theorem ISOwn.carry {w w' : World} {lo hi a b : Nat} {s : Sl} {l : List Int} (h : ISOwn w lo hi s l) (k : Kept a b w w') (d : hi ≤ a ∨ b ≤ lo) : ISOwn w' lo hi s l := by
 obtain h | ⟨g, h1, h2, h3, h4, h5⟩ := h
 ·
  exact .inl h
 ·
  exact .inr ⟨g, h1, h2, h3, h4, h5.keep (k.block g h5.lt (by omega))⟩
theorem ISOwn.later {w w' : World} {lo hi : Nat} {s : Sl} {l : List Int} (h : ISOwn w lo hi s l) (k : Below w.heap.size w w') : ISOwn w' lo hi s l := h.carry (Kept.of_below k hi) (.inl (Nat.le_refl _))
theorem ISOwn.len {w : World} {lo hi : Nat} {s : Sl} {l : List Int} (h : ISOwn w lo hi s l) : s.n = l.length := h.rd.len
theorem ISOwn.mono {w : World} {lo hi lo' hi' : Nat} {s : Sl} {l : List Int} (h : ISOwn w lo hi s l) (h1 : lo' ≤ lo) (h2 : hi ≤ hi') : ISOwn w lo' hi' s l := by
 obtain h | ⟨g, q1, q2, q3, q4, q5⟩ := h
 ·
  exact .inl h
 ·
  exact .inr ⟨g, q1, q2, by omega, by omega, q5⟩
theorem ISOwn.nil (w : World) (lo hi : Nat) : ISOwn w lo hi ⟨none, 0, 0⟩ [] := .inl ⟨rfl, rfl⟩
theorem ISOwn.row {w : World} {lo hi g n c : Nat} {l : List Int} (h : IRow w g c l) (hn : n = l.length) (h1 : lo ≤ g) (h2 : g < hi) : ISOwn w lo hi ⟨some ⟨g, 0, none⟩, n, c⟩ l := .inr ⟨g, rfl, hn, h1, h2, h⟩
theorem ISRd.later {w w' : World} {s : Sl} {l : List Int} (h : ISRd w s l) (b : Below w.heap.size w w') : ISRd w' s l := ⟨h.len, h.rd.later b (Nat.le_refl _), h.nil, h.cap⟩

end Go.Proofs.YtmcflfpckpjphaaGreatDoor.ZoneI

namespace Go.Proofs.YtmcflfpckpjphaaGreatDoor.Res
open Go.RowKit Blk

def one (tmps : Array Value) : ResultVar → Sem Value
 | .tmp t => pure (tmps.getD t undef)
 | .cell a t => do loadVar t (← asAddr (tmps.getD a undef))
def Is (P : Program) (tmps : Array Value) (w : World) (r : ResultVar) (v : Value) : Prop := (one tmps r).run P w = .ok v w
theorem is_tmp {P : Program} {tmps : Array Value} {w : World} {t : Tmp} {v : Value} (h : tmps.getD t undef = v) : Is P tmps w (.tmp t) v := by
 show (pure (tmps.getD t undef) : Sem Value).run P w = _; rw [h]; rfl
def aggB (P : Program) (ty : TypeId) (n : Nat) : Bool := (match P.underlying ty with | some (.struct _) | some (.array _ _) => true | _ => false) && (P.info? ty).map (·.size) == some n
theorem is_cell {P : Program} {tmps : Array Value} {w : World} {p : Tmp} {ty : TypeId} {g : Nat} {t : TypeId} {cs : List Value} (hp : tmps.getD p undef = .pointer (some ⟨g, 0, none⟩)) (hg : Blk w g t cs) (hu : aggB P ty cs.length = true) :
  Is P tmps w (.cell p ty) (.agg cs.toArray) := by
 unfold aggB at hu
 rw [Bool.and_eq_true, beq_iff_eq] at hu
 obtain ⟨h1, h2⟩ := hu
 show (do loadVar ty (← asAddr (tmps.getD p undef)) : Sem Value).run P w = _
 rw [hp]
 cases hd : P.underlying ty with
 | none => rw [hd] at h1; cases h1
 | some d =>
  rw [hd] at h1
  cases d with
  | struct fs => simp [asAddr, run_loadVar_row w g t ty cs.toArray (0, 0) (.struct fs) hg hd rfl (by simpa using h2)]
  | array n e => simp [asAddr, run_loadVar_row w g t ty cs.toArray (0, 0) (.array n e) hg hd rfl (by simpa using h2)]
  | _ => cases h1
theorem res1 {P : Program} {fn : Func} {tmps : Array Value} {w : World} {r0 : ResultVar} {v0 : Value} (h : fn.results = #[r0]) (h0 : Is P tmps w r0 v0) : (results fn tmps).run P w = .ok v0 w := by
 have e : results fn tmps = (do let vs ← fn.results.mapM (one tmps); pure (if h : vs.size = 1 then vs[0] else .tuple vs)) := rfl
 unfold Is at h0
 simp [e, h, h0]
theorem res2 {P : Program} {fn : Func} {tmps : Array Value} {w : World} {r0 r1 : ResultVar} {v0 v1 : Value} (h : fn.results = #[r0, r1]) (h0 : Is P tmps w r0 v0) (h1 : Is P tmps w r1 v1) : (results fn tmps).run P w = .ok (.tuple #[v0, v1]) w := by
 have e : results fn tmps = (do let vs ← fn.results.mapM (one tmps); pure (if h : vs.size = 1 then vs[0] else .tuple vs)) := rfl
 unfold Is at h0 h1
 simp [e, h, h0, h1]
theorem res3 {P : Program} {fn : Func} {tmps : Array Value} {w : World} {r0 r1 r2 : ResultVar} {v0 v1 v2 : Value} (h : fn.results = #[r0, r1, r2]) (h0 : Is P tmps w r0 v0) (h1 : Is P tmps w r1 v1) (h2 : Is P tmps w r2 v2) : (results fn tmps).run P w = .ok (.tuple #[v0, v1, v2]) w := by
 have e : results fn tmps = (do let vs ← fn.results.mapM (one tmps); pure (if h : vs.size = 1 then vs[0] else .tuple vs)) := rfl
 unfold Is at h0 h1 h2
 simp [e, h, h0, h1, h2]
end Go.Proofs.YtmcflfpckpjphaaGreatDoor.Res

namespace Go.Proofs.YtmcflfpckpjphaaGreatDoor.WnZ
open Go.RowKit Mem Blk Zone ZoneI MemI Res

structure WnD where
 top : Int
 bits : List Int
structure WnS where
 bits : Sl
def wnV (D : WnD) (S : WnS) : Value := .agg #[.int .i64 D.top, .slice S.bits.a S.bits.n S.bits.c]
structure WnRd (w : World) (S : WnS) (D : WnD) : Prop where
 bits : ISRd w S.bits D.bits
structure WnApart (S : WnS) : Prop where
structure WnOwn (w : World) (lo hi : Nat) (S : WnS) (D : WnD) : Prop where
 bits : ISOwn w lo hi S.bits D.bits
 apart : WnApart S
theorem WnOwn.rd {w : World} {lo hi : Nat} {S : WnS} {D : WnD} (h : WnOwn w lo hi S D) : WnRd w S D := ⟨h.bits.rd⟩
theorem WnOwn.carry {w w' : World} {lo hi a b : Nat} {S : WnS} {D : WnD} (h : WnOwn w lo hi S D) (k : Kept a b w w') (d : hi ≤ a ∨ b ≤ lo) : WnOwn w' lo hi S D := ⟨h.bits.carry k d, h.apart⟩
theorem WnOwn.later {w w' : World} {lo hi : Nat} {S : WnS} {D : WnD} (h : WnOwn w lo hi S D) (k : Below w.heap.size w w') : WnOwn w' lo hi S D := h.carry (Kept.of_below k hi) (.inl (Nat.le_refl _))
theorem WnOwn.mono {w : World} {lo hi lo' hi' : Nat} {S : WnS} {D : WnD} (h : WnOwn w lo hi S D) (h1 : lo' ≤ lo) (h2 : hi ≤ hi') : WnOwn w lo' hi' S D := ⟨h.bits.mono h1 h2, h.apart⟩
theorem WnRd.later {w w' : World} {S : WnS} {D : WnD} (h : WnRd w S D) (k : Below w.heap.size w w') : WnRd w' S D := ⟨h.bits.later k⟩
structure WnShort (D : WnD) (n : Nat) : Prop where
 bits : D.bits.length ≤ n
theorem aggWn : aggB Tryz.prog 39 2 = true := by kernel_rfl

end Go.Proofs.YtmcflfpckpjphaaGreatDoor.WnZ

namespace Go.Proofs.YtmcflfpckpjphaaGreatDoor.EpZ
open Go.RowKit Mem MemI Blk Zone ZoneI Res WnZ

structure EpD where
 n : Int
 key : List Int
 seq : Int
 win : WnD
structure EpS where
 key : Sl
 win : WnS
def epV (D : EpD) (S : EpS) : Value := .agg #[.int .i64 D.n, .slice S.key.a S.key.n S.key.c, .int .i64 D.seq, .int .i64 D.win.top, .slice S.win.bits.a S.win.bits.n S.win.bits.c]
structure EpRd (w : World) (S : EpS) (D : EpD) : Prop where
 key : SRd w S.key D.key
 win : WnRd w S.win D.win
def EpOwn (w : World) (lo hi : Nat) (S : EpS) (D : EpD) : Prop :=
 ∃ a0 b0 a1 b1 : Nat, SOwn w a0 b0 S.key D.key ∧ WnOwn w a1 b1 S.win D.win ∧ (lo ≤ a0 ∧ b0 ≤ hi ∧ lo ≤ a1 ∧ b1 ≤ hi ∧ (b0 ≤ a1 ∨ b1 ≤ a0))
theorem EpOwn.rd {w : World} {lo hi : Nat} {S : EpS} {D : EpD} (h : EpOwn w lo hi S D) : EpRd w S D := by
 obtain ⟨a0, b0, a1, b1, o0, o1, z⟩ := h
 exact ⟨o0.rd, o1.rd⟩
theorem EpOwn.carry {w w' : World} {lo hi a b : Nat} {S : EpS} {D : EpD} (h : EpOwn w lo hi S D) (k : Kept a b w w') (d : hi ≤ a ∨ b ≤ lo) : EpOwn w' lo hi S D := by
 obtain ⟨a0, b0, a1, b1, o0, o1, z⟩ := h
 exact ⟨a0, b0, a1, b1, o0.carry k (by omega), o1.carry k (by omega), z⟩
theorem EpOwn.later {w w' : World} {lo hi : Nat} {S : EpS} {D : EpD} (h : EpOwn w lo hi S D) (k : Below w.heap.size w w') : EpOwn w' lo hi S D := h.carry (Kept.of_below k hi) (.inl (Nat.le_refl _))
theorem EpOwn.mono {w : World} {lo hi lo' hi' : Nat} {S : EpS} {D : EpD} (h : EpOwn w lo hi S D) (h1 : lo' ≤ lo) (h2 : hi ≤ hi') : EpOwn w lo' hi' S D := by
 obtain ⟨a0, b0, a1, b1, o0, o1, z⟩ := h
 exact ⟨a0, b0, a1, b1, o0, o1, by omega⟩
theorem EpRd.later {w w' : World} {S : EpS} {D : EpD} (h : EpRd w S D) (k : Below w.heap.size w w') : EpRd w' S D := ⟨h.key.later k, h.win.later k⟩
structure EpShort (D : EpD) (n : Nat) : Prop where
 key : D.key.length ≤ n
 win : WnShort D.win n
theorem aggEp : aggB Tryz.prog 41 5 = true := by kernel_rfl

end Go.Proofs.YtmcflfpckpjphaaGreatDoor.EpZ

namespace Go.Proofs.YtmcflfpckpjphaaGreatDoor.WnL2
open Go.RowKit Mem Blk Zone ZoneI WnZ
theorem wn_short_le {D : WnD} {n m : Nat} (h : WnShort D n) (hm : n ≤ m) : WnShort D m := ⟨Nat.le_trans h.bits hm⟩
end Go.Proofs.YtmcflfpckpjphaaGreatDoor.WnL2

namespace Go.Proofs.YtmcflfpckpjphaaGreatDoor.EpL
open Go.RowKit Mem Blk Zone ZoneI EpZ WnZ WnL2
theorem ep_short_le {D : EpD} {n m : Nat} (h : EpShort D n) (hm : n ≤ m) : EpShort D m := ⟨Nat.le_trans h.key hm, wn_short_le h.win hm⟩
theorem ep_other {w : World} {g g' : Nat} {t : TypeId} {cs : List Value} (k : Blk w g' t cs) (ne : g' ≠ g) (v0 v1 v2 v3 v4 : Value) : Blk (((((w.setCell ⟨g, 0, none⟩ (v0)).setCell ⟨g, 1, none⟩ (v1)).setCell ⟨g, 2, none⟩ (v2)).setCell ⟨g, 3, none⟩ (v3)).setCell ⟨g, 4, none⟩ (v4)) g' t cs :=
 ((((k.other (by exact ne) _).other (by exact ne) _).other (by exact ne) _).other (by exact ne) _).other (by exact ne) _
theorem ep_kept (w : World) (g : Nat) (v0 v1 v2 v3 v4 : Value) : Kept g (g + 1) w (((((w.setCell ⟨g, 0, none⟩ (v0)).setCell ⟨g, 1, none⟩ (v1)).setCell ⟨g, 2, none⟩ (v2)).setCell ⟨g, 3, none⟩ (v3)).setCell ⟨g, 4, none⟩ (v4)) := ((((Kept.setCell _ _ _ _).trans (Kept.setCell _ _ _ _)).trans (Kept.setCell _ _ _ _)).trans (Kept.setCell _ _ _ _)).trans (Kept.setCell _ _ _ _)
theorem ep_size (w : World) (g : Nat) (v0 v1 v2 v3 v4 : Value) : (((((w.setCell ⟨g, 0, none⟩ (v0)).setCell ⟨g, 1, none⟩ (v1)).setCell ⟨g, 2, none⟩ (v2)).setCell ⟨g, 3, none⟩ (v3)).setCell ⟨g, 4, none⟩ (v4)).heap.size = w.heap.size := by simp
theorem ep_stored {w : World} {g lo hi : Nat} {u0 u1 u2 u3 u4 : Value} {D : EpD} {S : EpS} (k : Blk w g 41 [u0, u1, u2, u3, u4]) (o : EpOwn w lo hi S D) (d : g + 1 ≤ lo ∨ hi ≤ g) :
  Blk (((((w.setCell ⟨g, 0, none⟩ (.int .i64 D.n)).setCell ⟨g, 1, none⟩ (.slice S.key.a S.key.n S.key.c)).setCell ⟨g, 2, none⟩ (.int .i64 D.seq)).setCell ⟨g, 3, none⟩ (.int .i64 D.win.top)).setCell ⟨g, 4, none⟩ (.slice S.win.bits.a S.win.bits.n S.win.bits.c)) g 41 [.int .i64 D.n, .slice S.key.a S.key.n S.key.c, .int .i64 D.seq, .int .i64 D.win.top, .slice S.win.bits.a S.win.bits.n S.win.bits.c] ∧ EpOwn (((((w.setCell ⟨g, 0, none⟩ (.int .i64 D.n)).setCell ⟨g, 1, none⟩ (.slice S.key.a S.key.n S.key.c)).setCell ⟨g, 2, none⟩ (.int .i64 D.seq)).setCell ⟨g, 3, none⟩ (.int .i64 D.win.top)).setCell ⟨g, 4, none⟩ (.slice S.win.bits.a S.win.bits.n S.win.bits.c)) lo hi S D ∧ (∀ B a, B ≤ g → Below B a w → Below B a (((((w.setCell ⟨g, 0, none⟩ (.int .i64 D.n)).setCell ⟨g, 1, none⟩ (.slice S.key.a S.key.n S.key.c)).setCell ⟨g, 2, none⟩ (.int .i64 D.seq)).setCell ⟨g, 3, none⟩ (.int .i64 D.win.top)).setCell ⟨g, 4, none⟩ (.slice S.win.bits.a S.win.bits.n S.win.bits.c))) := by
 refine ⟨((((k.set 0 _ (by simp [maxLen])).set 1 _ (by simp [maxLen])).set 2 _ (by simp [maxLen])).set 3 _ (by simp [maxLen])).set 4 _ (by simp [maxLen]), o.carry (ep_kept w g _ _ _ _ _) (by omega), fun B a hB h => ?_⟩
 exact ((((h.setCell (by exact hB) _).setCell (by exact hB) _).setCell (by exact hB) _).setCell (by exact hB) _).setCell (by exact hB) _
end Go.Proofs.YtmcflfpckpjphaaGreatDoor.EpL

namespace Go.Proofs.YtmcflfpckpjphaaGreatDoor.Each
open Go.RowKit

def frL (D : List Nat) (t : Nat → Value) : Nat → List Value → List Value
 | _, [] => []
 | i, v :: r => (if D.contains i then t i else v) :: frL D t (i + 1) r
def fr (D : List Nat) (a : Act) (t : Nat → Value) : Act := { tmps := (frL D t 0 a.tmps.toList).toArray, defers := a.defers }
theorem frL_at (D : List Nat) (t : Nat → Value) (l : List Value) : ∀ i k, (frL D t i l)[k]? = (l[k]?).map (fun v => if D.contains (i + k) then t (i + k) else v) := by
 induction l with
 | nil => intro i k; simp [frL]
 | cons v r ih =>
  intro i k
  cases k with
  | zero => simp [frL]
  | succ k =>
   have := ih (i + 1) k
   rw [show i + 1 + k = i + (k + 1) by omega] at this
   simpa [frL] using this
theorem fr_eq (D : List Nat) (a : Act) (t : Nat → Value) : fr D a t = { tmps := a.tmps.mapIdx (fun i v => if D.contains i then t i else v), defers := a.defers } := by
 unfold fr
 congr 1
 apply Array.ext_getElem?
 intro k
 rw [Array.getElem?_mapIdx, List.getElem?_toArray, frL_at, Nat.zero_add, Array.getElem?_toList]
def upd (t : Nat → Value) (d : Nat) (v : Value) : Nat → Value := fun i => if i = d then v else t i
theorem upd_same (t : Nat → Value) (d : Nat) (v : Value) : upd t d v d = v := by simp [upd]
theorem upd_other (t : Nat → Value) (d : Nat) (v : Value) (i : Nat) (h : i ≠ d) : upd t d v i = t i := by simp [upd, h]
theorem fr_start (D : List Nat) (a : Act) : fr D a (fun i => a.tmps.getD i undef) = a := by
 cases a with | mk tmps defers =>
 rw [fr_eq]
 congr 1
 apply Array.ext
 ·
  simp
 ·
  intro i h1 h2
  simp at h1
  simp [h2]
theorem fr_put (D : List Nat) (a : Act) (t : Nat → Value) (d : Nat) (v : Value) (hd : D.contains d = true) : (fr D a t).put (some d) v = fr D a (upd t d v) := by
 rw [fr_eq, fr_eq]
 simp only [Act.put]
 congr 1
 apply Array.ext
 ·
  simp
 ·
  intro i h1 h2
  simp only [Array.size_setIfInBounds, Array.size_mapIdx] at h1
  rw [Array.getElem_setIfInBounds (by simpa using h1)]
  by_cases hid : d = i
  ·
   subst hid
   simp only [if_true, Array.getElem_mapIdx, hd, upd_same]
  ·
   simp only [hid, if_false, Array.getElem_mapIdx]
   split
   ·
    rw [upd_other _ _ _ _ (Ne.symm hid)]
   ·
    rfl
theorem fr_eval (D : List Nat) (a : Act) (t : Nat → Value) (d : Nat) (hd : D.contains d = true) (hl : d < a.tmps.size) : (fr D a t).eval (.tmp d) = t d := by
 have hd' : d ∈ D := by simpa using hd
 rw [fr_eq]
 simp [Act.eval, Array.getD, hl, hd']
theorem fr_eval_old (D : List Nat) (a : Act) (t : Nat → Value) (d : Nat) (hd : D.contains d = false) : (fr D a t).eval (.tmp d) = a.eval (.tmp d) := by
 have hd' : ¬ d ∈ D := by simpa using hd
 rw [fr_eq]
 by_cases hl : d < a.tmps.size
 ·
  simp [Act.eval, Array.getD, hl, hd']
 ·
  simp [Act.eval, Array.getD, hl]

def pre (ops : Array Oper) (i : Nat) : List Nat := match ops[i]? with
 | some o => (o.after.toList.filter (Region.binds .any)).map (·.on)
 | none => []
theorem mem_pre {ops : Array Oper} {i : Nat} {o : Oper} (h : ops[i]? = some o) {j : Nat} : j ∈ pre ops i ↔ ∃ e ∈ o.after, Region.binds .any e = true ∧ e.on = j := by
 unfold pre
 rw [h]
 simp only [List.mem_map, List.mem_filter, Array.mem_toList_iff]
 constructor
 ·
  rintro ⟨e, ⟨h1, h2⟩, h3⟩; exact ⟨e, h1, h2, h3⟩
 ·
  rintro ⟨e, h1, h2, h3⟩; exact ⟨e, ⟨h1, h2⟩, h3⟩

theorem pre_mem {ops : Array Oper} {i j : Nat} (h : (pre ops i).contains j = true) : j ∈ pre ops i := by simpa using h

def fitB (ops : Array Oper) (last : Nat) (D : List Nat) (dst : Nat → Nat) : Bool :=
 ops.size == last + 1 &&
 (List.range (last + 1)).all (fun i => (pre ops i).all (fun j => decide (j < i))) &&
 (List.range last).all (fun j => (List.range (last + 1)).any (fun k => decide (j < k) && (pre ops k).contains j)) &&
 (List.range last).all (fun i => D.contains (dst i) && (List.range last).all (fun j => i == j || dst i != dst j))

theorem region_each {P : Program} {ops : Array Oper} {Q : Exit → Act → World → Prop} {id : Nat} {a0 : Act} {w0 : World}
  (hm : P.follows .mixedOrders = true) (D : List Nat) (last : Nat) (dst : Nat → Nat) (cls : Nat → Nat)
  (F : Nat → Nat → Value → World → Prop) (B : World → Prop) (hfit : fitB ops last D dst = true)
  (hB : B w0.drew)
  (hkeep : ∀ i g v w w', i < last → F i g v w → Below w.heap.size w w' → B w' → F i g v w')
  (hstep : ∀ i, i < last → ∀ (t : Nat → Value) (ρ : Nat → Nat) (w : World), B w → (∀ j ∈ pre ops i, F j (ρ j) (t (dst j)) w) → (∀ x y, x ∈ pre ops i → y ∈ pre ops i → cls x ≠ 0 → cls y ≠ 0 → cls x ≠ cls y → ρ x ≠ ρ y) →
   wpOp P ops Q i (fun a' w' => ∃ v g, a' = (fr D a0 t).put (some (dst i)) v ∧ B w' ∧ Below w.heap.size w w' ∧ F i g v w' ∧ (cls i = 0 ∨ g < w'.heap.size ∧ (w.heap.size ≤ g ∨ ∃ j ∈ pre ops i, cls j = cls i ∧ g = ρ j))) (fr D a0 t) w)
  (hlast : ∀ (t : Nat → Value) (ρ : Nat → Nat) (w : World), B w → (∀ j, j < last → F j (ρ j) (t (dst j)) w) →
   (∀ i j, i < last → j < last → cls i ≠ 0 → cls j ≠ 0 → cls i ≠ cls j → ρ i ≠ ρ j) →
   wpOp P ops Q last (fun a' w' => Q .normal a' w') (fr D a0 t) w) :
  (Code.region id ops true).wp P Q a0 w0 := by
 unfold fitB at hfit
 simp only [Bool.and_eq_true, beq_iff_eq, List.all_eq_true, List.mem_range, decide_eq_true_eq, List.any_eq_true, Bool.or_eq_true, bne_iff_ne, ne_eq] at hfit
 obtain ⟨⟨⟨hsz, hord⟩, hcov⟩, hdst⟩ := hfit
 have main : ∀ (fuel : Nat) (listed : Array Bool) (a : Act) (w : World), listed.size = ops.size → listed.getD last true = false → listed.toList.count false ≤ fuel →
   (∀ i, i < last + 1 → listed.getD i true = true → ∀ j ∈ pre ops i, listed.getD j true = true) →
   (∃ (t : Nat → Value) (ρ : Nat → Nat), a = fr D a0 t ∧ B w ∧ (∀ i, i < last → listed.getD i true = true → F i (ρ i) (t (dst i)) w ∧ (cls i = 0 ∨ ρ i < w.heap.size)) ∧
    (∀ i j, i < last → j < last → listed.getD i true = true → listed.getD j true = true → cls i ≠ 0 → cls j ≠ 0 → cls i ≠ cls j → ρ i ≠ ρ j)) →
   wpAny P .any ops Q fuel listed a w := by
  intro fuel
  induction fuel with
  | zero =>
   intro listed a w hls hl hc _ _
   exfalso
   have hlt : last < listed.size := by omega
   have : false ∈ listed.toList := by
    rw [Array.mem_toList_iff]
    have : listed[last] = false := by simpa [Array.getD, hlt] using hl
    rw [← this]; exact Array.getElem_mem hlt
   have := List.count_pos_iff.2 this
   omega
  | succ fuel ih =>
   intro listed a w hls hl hc hcl ⟨t, ρ, ha, hBw, hF, hne⟩
   have hop : ∀ i, i < last + 1 → ∃ o, ops[i]? = some o := fun i hi => ⟨ops[i]'(by omega), by simp⟩
   refine ⟨fun h0 => ?_, fun i hi => ?_⟩
   ·
    exfalso
    -- the least that is not listed may come up
    have : ∃ i, i < last + 1 ∧ listed.getD i true = false ∧ ∀ j, j < i → listed.getD j true = true := by
     have aux : ∀ m, m ≤ last + 1 → (∀ j, j < m → listed.getD j true = true) ∨ ∃ i, i < m ∧ listed.getD i true = false ∧ ∀ j, j < i → listed.getD j true = true := by
      intro m
      induction m with
      | zero => intro _; exact .inl fun j hj => by omega
      | succ m ihm =>
       intro hm1
       rcases ihm (by omega) with h | ⟨i, h1, h2, h3⟩
       ·
        cases hv : listed.getD m true with
        | false => exact .inr ⟨m, by omega, hv, h⟩
        | true =>
         left; intro j hj
         rcases Nat.lt_or_ge j m with h' | h'
         ·
          exact h j h'
         ·
          obtain rfl : j = m := by omega
          exact hv
       ·
        exact .inr ⟨i, by omega, h2, h3⟩
     rcases aux (last + 1) (Nat.le_refl _) with h | h
     ·
      have := h last (by omega); rw [hl] at this; cases this
     ·
      exact h
    obtain ⟨i, hi, hu, hb⟩ := this
    obtain ⟨o, ho⟩ := hop i hi
    have : i ∈ Region.ready .any ops listed := mem_ready.2 ⟨hu, o, ho, fun e he hbi => by
     have hj := hord i hi e.on ((mem_pre ho).2 ⟨e, he, hbi, rfl⟩)
     have := hb e.on hj
     have hlt : e.on < listed.size := by omega
     simpa [Array.getD, hlt] using this⟩
    rw [h0] at this; cases this
   ·
    obtain ⟨hu, o, ho, hpre⟩ := mem_ready.1 hi
    have hil : i < last + 1 := by
     have := (Array.getElem?_eq_some_iff.1 ho).1; omega
    have hpre' : ∀ j ∈ pre ops i, listed.getD j true = true := fun j hj => by
     obtain ⟨e, he, hbi, rfl⟩ := (mem_pre ho).1 hj
     have h1 := hpre e he hbi
     have hlt : e.on < listed.size := by
      have := hord i hil e.on hj; omega
     simpa [Array.getD, hlt] using h1
    have hset : ∀ j, (listed.setIfInBounds i true).getD j true = true ↔ j = i ∨ listed.getD j true = true := fun j => by
     by_cases hji : j = i
     ·
      subst hji
      have hlt : j < listed.size := by omega
      simp [Array.getD, hlt]
     ·
      simp only [hji, false_or]
      rw [getD_set_ne true (Ne.symm hji)]
    by_cases hlast' : i = last
    ·
     subst hlast'
     have hall : ∀ d j, j + d = i → j < i → listed.getD j true = true := by
      intro d
      induction d using Nat.strongRecOn with
      | ind d ihd =>
       intro j hjd hji
       obtain ⟨k, hk, hjk, hmem⟩ := hcov j hji
       have hmem' : j ∈ pre ops k := by simpa using hmem
       by_cases hki : k = i
       ·
        subst hki; exact hpre' j hmem'
       ·
        exact hcl k hk (ihd (i - k) (by omega) k (by omega) (by omega)) j hmem'
     have hl2 := hlast t ρ w hBw (fun j hj => (hF j hj (hall (i - j) j (by omega) hj)).1) (fun x y hx hy => hne x y hx hy (hall (i - x) x (by omega) hx) (hall (i - y) y (by omega) hy))
     rw [ha]
     refine wpOp_mono (fun a' w' hQ => wpAny_done ?_ hQ fuel) hl2
     apply List.eq_nil_iff_forall_not_mem.2
     intro k hk
     obtain ⟨hku, ok, hok, _⟩ := mem_ready.1 hk
     have hkl : k < i + 1 := by have := (Array.getElem?_eq_some_iff.1 hok).1; omega
     have : (listed.setIfInBounds i true).getD k true = true := (hset k).2 (by
      by_cases hki : k = i
      ·
       exact .inl hki
      ·
       exact .inr (hall (i - k) k (by omega) (by omega)))
     rw [hku] at this; cases this
    ·
     have hilt : i < last := by omega
     have hs := hstep i hilt t ρ w hBw (fun j hj => (hF j (by have := hord i hil j hj; omega) (hpre' j hj)).1) (fun x y hx hy => hne x y (by have := hord i hil x hx; omega) (by have := hord i hil y hy; omega) (hpre' x hx) (hpre' y hy))
     rw [ha]
     refine wpOp_mono (fun a' w' h => ?_) hs
     obtain ⟨v, g, rfl, hB', hbe, hFi, hg⟩ := h
     rw [fr_put D a0 t (dst i) v (hdst i hilt).1]
     apply ih
     ·
      simp [hls]
     ·
      cases hx : (listed.setIfInBounds i true).getD last true with
      | false => rfl
      | true =>
       rcases (hset last).1 hx with h | h
       ·
        exact absurd h.symm hlast'
       ·
        rw [hl] at h; cases h
     ·
      have hlt : i < listed.toList.length := by simp; omega
      have hfi : listed.toList[i] = false := by
       have hlt' : i < listed.size := by omega
       simpa [Array.getD, hlt'] using hu
      rw [Array.toList_setIfInBounds, List.count_set hlt, hfi]
      have : 0 < listed.toList.count false := List.count_pos_iff.2 (by rw [← hfi]; exact List.getElem_mem hlt)
      rw [if_pos (by rfl), if_neg (by decide)]
      omega
     ·
      intro k hk hkl j hj
      rcases (hset k).1 hkl with rfl | h
      ·
       exact (hset j).2 (.inr (hpre' j hj))
      ·
       exact (hset j).2 (.inr (hcl k hk h j hj))
     ·
      refine ⟨upd t (dst i) v, fun k => if k = i then g else ρ k, rfl, hB', ?_, ?_⟩
      ·
       intro k hk hkl
       by_cases hki : k = i
       ·
        subst hki
        simp only [if_true, upd_same]
        exact ⟨hFi, hg.imp (fun h => h) And.left⟩
       ·
        have hdk : dst k ≠ dst i := by
         have := (hdst k hk).2 i hilt
         rcases this with h | h
         ·
          exact absurd h hki
         ·
          exact h
        have := hF k hk (((hset k).1 hkl).resolve_left hki)
        simp only [hki, if_false, upd_other _ _ _ _ hdk]
        exact ⟨hkeep k _ _ w w' hk this.1 hbe hB', this.2.imp (fun h => h) (fun h => Nat.lt_of_lt_of_le h hbe.size)⟩
      ·
       intro x y hx hy hxl hyl cx cy cxy
       have key : ∀ y, y < last → y ≠ i → (listed.setIfInBounds i true).getD y true = true → cls i ≠ 0 → cls y ≠ 0 → cls i ≠ cls y → g ≠ ρ y := by
        intro y hy hyi hyl ci cy ciy
        have hyl' := ((hset y).1 hyl).resolve_left hyi
        rcases hg with h | ⟨_, h | ⟨j, hj, hcj, rfl⟩⟩
        ·
         exact absurd h ci
        ·
         have := (hF y hy hyl').2
         rcases this with h' | h'
         ·
          exact absurd h' cy
         ·
          omega
        ·
         have hjl : j < last := by have := hord i hil j hj; omega
         exact hne j y hjl hy (hpre' j hj) hyl' (by rw [hcj]; exact ci) cy (by rw [hcj]; exact ciy)
       by_cases hxi : x = i
       ·
        subst hxi
        have hyx : y ≠ x := fun h => cxy (by rw [h])
        simp only [if_true, hyx, if_false]
        exact key y hy hyx hyl cx cy cxy
       ·
        by_cases hyi : y = i
        ·
         subst hyi
         simp only [if_true, hxi, if_false]
         exact Ne.symm (key x hx hxi hxl cy cx (Ne.symm cxy))
        ·
         simp only [hxi, hyi, if_false]
         exact hne x y hx hy (((hset x).1 hxl).resolve_left hxi) (((hset y).1 hyl).resolve_left hyi) cx cy cxy
 refine wp_region_any hm ?_
 have hrep : ∀ i, i < last + 1 → (Array.replicate ops.size false).getD i true = false := fun i hi => by
  have : i < ops.size := by omega
  simp [Array.getD, this]
 refine main ops.size (Array.replicate ops.size false) a0 w0.drew (by simp) (hrep last (by omega)) (by simp) (fun i hi h => by rw [hrep i hi] at h; cases h) ?_
 exact ⟨_, fun _ => 0, (fr_start D a0).symm, hB, (fun i hi h => by rw [hrep i (by omega)] at h; cases h), (fun i j hi _ h => by rw [hrep i (by omega)] at h; cases h)⟩
end Go.Proofs.YtmcflfpckpjphaaGreatDoor.Each

namespace Go.Proofs.YtmcflfpckpjphaaGreatDoor.Copy
open Go.RowKit Mem MemI App Blk Each

set_option maxHeartbeats 400000 in
theorem op_wp {P : Program} {ops : Array Oper} {Q : Exit → Act → World → Prop} {i : Nat} {o : Oper} {K : Act → World → Prop} {a : Act} {w : World}
  (hi : ops[i]? = some o) (hg : o.guard = none) (h : Oper.wp P o a w K Q) : wpOp P ops Q i K a w := by
 unfold wpOp
 rw [hi]
 have hw : Region.wanted o (yielded ops a.tmps) = true := by simp [Region.wanted, hg]
 simp only [hw, if_true]
 exact .inl h
set_option maxHeartbeats 400000 in
theorem op_run {P : Program} {ops : Array Oper} {Q : Exit → Act → World → Prop} {i : Nat} {o : Oper} {K : Act → World → Prop} {a : Act} {w w' : World} {v : Value}
  (hi : ops[i]? = some o) (hg : o.guard = none) (hr : (execOp a.eval o).run P w = .ok (.value v) w') (hk : K (a.put o.dst v) w') : wpOp P ops Q i K a w := by
 refine op_wp hi hg ?_
 unfold Oper.wp
 rw [hr]
 exact hk

set_option maxHeartbeats 400000 in
theorem grown_none_below {w w' : World} (h : w.grownBy w' none) : Below w.heap.size w w' :=
 (Below.refl _ _).grown h (Nat.le_refl _) (fun k e => by cases e)

set_option maxHeartbeats 400000 in
theorem op_icopy {ops : Array Oper} {Q : Exit → Act → World → Prop} {i : Nat} {o : Oper} {K : Act → World → Prop} {a : Act} {w : World}
  (hi : ops[i]? = some o) (hgd : o.guard = none) (s x : Operand) (hop : o.op = .call { callee := .builtin .append, args := #[s, x], argTypes := #[37, 37] })
  (g : Nat) (hs : a.eval s = .slice (some ⟨g, 0, none⟩) 0 0) (hrow : IRow w g 0 [])
  (ao : Option Addr) (m c : Nat) (y : List Int) (hx : a.eval x = .slice ao m c) (hm : m = y.length) (hrd : IRd w ao y) (hnone : ao = none → c = 0) (hsum : y.length ≤ 10000000)
  (hK : ∀ g' cap' w', IRow w' g' cap' y → g' < w'.heap.size → (w.heap.size ≤ g' ∨ g' = g) → Below w.heap.size w w' → K (a.put o.dst (.slice (some ⟨g', 0, none⟩) m cap')) w') : wpOp Tryz.prog ops Q i K a w := by
 obtain ⟨i0, h2, hz0, hz1, hz2⟩ := info_parts info64
 refine op_wp hi hgd ?_
 have hw : Region.wanted o (yielded ops a.tmps) = true := by simp [Region.wanted, hgd]
 cases y with
 | nil =>
  have hm0 : m = 0 := hm
  subst hm0
  have hK' := hK g 0 w hrow hrow.lt (.inr rfl) (Below.refl _ _)
  cases ao with
  | none =>
   have hc0 := hnone rfl
   subst hc0

   unfold Oper.wp
   simp [execOp, hop, resolve, invoke, builtin, hs, hx, Result.andThen]
   exact hK'
  | some ad =>
   have h := step_append_room (P := Tryz.prog) (ops := ops) (o := o) (a := a) (w := w) (K := K) (Q := Q) (E := True) hgd s x 37 hop 3 i0 1 Tryz.underlying37 h2 hz1 g 0 0 0 hs ad 0 c [] hx rfl (by intro j u hu; simp at hu) (by simp) (by simp) (by intro j hj; simp at hj) hK'
   rw [if_pos hw] at h
   exact h
 | cons z r =>
  cases ao with
  | none => obtain ⟨_, _, e, _⟩ := hrd 0 (by simp); cases e
  | some ad =>
   have h := step_append_grows (P := Tryz.prog) (ops := ops) (o := o) (a := a) (w := w) (K := K) (Q := Q) (E := True) hgd s x 37 hop 3 i0 (.int .i64 0) 1 8 Tryz.underlying37 h2 hz0 hz1 hz2 rfl (by decide) (some ⟨g, 0, none⟩) 0 0 [] hs (by intro e; cases e) rfl (by intro b _ j u hu; simp at hu) ad m c ((z :: r).map (Value.int .i64)) hx (by simp [hm]) (IRd.cells hrd) (ints_oneCell _ _) (by rw [hm]; simp) (by rw [hm]; unfold maxLen; omega) (by rw [hm]; omega) (by
    intro v' w' hown hgr
    rw [List.nil_append, Nat.zero_add] at hown
    rcases hown.2 with ⟨hv, h0⟩ | ⟨g', cap', cur, rfl, hb, hg', _⟩
    ·
     rw [hm] at h0; simp at h0
    ·
     obtain ⟨r1, r2, _, r4⟩ := IRow.of hown
     exact hK g' cap' w' r1 r4 (.inl r2) (grown_none_below hgr))
   rw [if_pos hw] at h
   exact h
end Go.Proofs.YtmcflfpckpjphaaGreatDoor.Copy

namespace Go.Proofs.YtmcflfpckpjphaaGreatDoor.Ops
open Go.RowKit Mem App Blk Each Copy

theorem op_call {P : Program} {ops : Array Oper} {Q : Exit → Act → World → Prop} {i : Nat} {o : Oper} {K : Act → World → Prop} {a : Act} {w : World} {f : FuncId} {args : Array Value} {R : Ending → World → Prop}
  (hi : ops[i]? = some o) (hg : o.guard = none) (hr : (execOp a.eval o).run P w = .ok (.enter f args) w) (hc : Calls P f args w R)
  (hk : ∀ e w', R e w' → ∃ v, e = .returned v ∧ K (a.put o.dst v) w') : wpOp P ops Q i K a w := by
 refine op_wp hi hg ?_
 unfold Oper.wp
 rw [hr]
 refine hc.mono ?_
 intro e w' h
 obtain ⟨v, rfl, h2⟩ := hk e w' h
 exact h2
end Go.Proofs.YtmcflfpckpjphaaGreatDoor.Ops

namespace Go.Proofs.YtmcflfpckpjphaaGreatDoor.WnC
open Go.RowKit Mem MemI Blk Zone ZoneI WnZ Res Each Copy Ops
def Copied (w wx : World) (q c n : Nat) (D : WnD) : Prop := Blk wx (w.heap.size + 1) 39 [.int .i64 D.top, .slice (some ⟨q, 0, none⟩) n c] ∧ IRow wx q c D.bits ∧ w.heap.size + 2 ≤ q ∧ Below w.heap.size w wx
theorem copied {w x0 wx : World} {q c n : Nat} {D : WnD} (k : Blk wx (w.heap.size + 1) 39 [.int .i64 0, .slice none 0 0]) (r : IRow wx q c D.bits) (l : w.heap.size + 2 ≤ q) (b0 : Below w.heap.size w x0) (b : Below x0.heap.size x0 wx) :
  Copied w ((wx.setCell ⟨w.heap.size + 1, 0, none⟩ (.int .i64 D.top)).setCell ⟨w.heap.size + 1, 1, none⟩ (.slice (some ⟨q, 0, none⟩) n c)) q c n D :=
 ⟨(k.set 0 _ (by simp [maxLen])).set 1 _ (by simp [maxLen]), (r.keep (Below.heap_setCell _ _ _ _ (by show q ≠ w.heap.size + 1; omega))).keep (Below.heap_setCell _ _ _ _ (by show q ≠ w.heap.size + 1; omega)), l, ((b0.trans (b.mono b0.size)).setCell (by show w.heap.size ≤ w.heap.size + 1; omega) _).setCell (by show w.heap.size ≤ w.heap.size + 1; omega) _⟩

abbrev DL1 : List Nat := [3, 4, 5, 6, 7, 8, 9]
set_option maxHeartbeats 4000000 in
theorem specCopy (S : WnS) (D : WnD) (w : World) (h : WnRd w S D) (hl : D.bits.length ≤ 4194304) :
  Calls Tryz.prog 123 #[wnV D S] w fun e w' => ∃ S', e = .returned (wnV D S') ∧ WnOwn w' w.heap.size w'.heap.size S' D ∧ Below w.heap.size w w' := by
 have HR := hid (h)
 have HLen : Hid (S.bits.n = D.bits.length) := h.bits.len
 obtain ⟨x0, hx0⟩ : ∃ x0, (w.alloc (.cells #[.int .i64 D.top, .slice S.bits.a S.bits.n S.bits.c] 39)).alloc (.cells #[.int .i64 0, .slice none 0 0] 39) = x0 := ⟨_, rfl⟩
 have HW0 : Hid (_ = x0) := hx0
 have B0 : Hid (Below w.heap.size w x0) := by rw [← hx0]; exact ((Below.refl _ _).alloc (Nat.le_refl _) _).alloc (by simp) _
 have KA : Hid (Blk x0 w.heap.size 39 [.int .i64 D.top, .slice S.bits.a S.bits.n S.bits.c]) := by rw [← hx0]; exact (Blk.new w _ _).alloc _
 have KO : Hid (Blk x0 (w.heap.size + 1) 39 [.int .i64 0, .slice none 0 0]) := by
  have := Blk.new (w.alloc (.cells #[.int .i64 D.top, .slice S.bits.a S.bits.n S.bits.c] 39)) 39 [.int .i64 0, .slice none 0 0]
  rw [World.size_alloc] at this
  rw [← hx0]; exact this
 have HSZ : Hid (w.heap.size + 2 ≤ x0.heap.size) := by rw [← hx0]; show _ ≤ _; simp
 clear h hx0
 unfold wnV
 go_enter Tryz.func123, Tryz.ntmps123
 go_upto_region 1 with fail
 rw [HW0.out]
 clear HW0
 go_cut [9] from 3 to 8 (fun s9 wx => ∃ q c, s9 = .agg #[.int .i64 D.top, .slice (some ⟨q, 0, none⟩) S.bits.n c] ∧ Copied w wx q c S.bits.n D)
 case first =>
  rename_i J K' hRJ hMet
  generalize hA : Act.mk _ _ = A
  have a1' : A.eval (.tmp 1) = .pointer (some ⟨w.heap.size, 0, none⟩) := by rw [← hA]; rfl
  have a2' : A.eval (.tmp 2) = .pointer (some ⟨w.heap.size + 1, 0, none⟩) := by rw [← hA]; rfl
  have asz : A.tmps.size = 10 := by rw [← hA]; rfl
  have hKA : ∀ wx, Below x0.heap.size x0 wx → Blk wx w.heap.size 39 [.int .i64 D.top, .slice S.bits.a S.bits.n S.bits.c] := fun wx hb => KA.out.later hb
  have hKO : ∀ wx, Below x0.heap.size x0 wx → Blk wx (w.heap.size + 1) 39 [.int .i64 0, .slice none 0 0] := fun wx hb => KO.out.later hb
  have hRS : ∀ wx, Below x0.heap.size x0 wx → ISRd wx S.bits D.bits := fun wx hb => HR.out.bits.later (B0.out.trans (hb.mono B0.out.size))
  refine region_each (by kernel_rfl) DL1 7 (fun i => DL1.getD i 0) (fun _ => 0)
   (fun i gB v wx => match i with
    | 0 => v = .pointer (some ⟨w.heap.size, 0, none⟩)
    | 1 => v = .int .i64 D.top
    | 2 => v = .slice (some ⟨gB, 0, none⟩) 0 0 ∧ IRow wx gB 0 [] ∧ x0.heap.size ≤ gB
    | 3 => v = .pointer (some ⟨w.heap.size, 1, none⟩)
    | 4 => v = .slice S.bits.a S.bits.n S.bits.c
    | 5 => ∃ c, v = .slice (some ⟨gB, 0, none⟩) S.bits.n c ∧ IRow wx gB c (D.bits) ∧ x0.heap.size ≤ gB
    | 6 => ∃ G c, v = .agg #[.int .i64 D.top, .slice (some ⟨G, 0, none⟩) S.bits.n c] ∧ IRow wx G c D.bits ∧ x0.heap.size ≤ G
    | _ => False) (fun wx => Below x0.heap.size x0 wx) (by kernel_rfl) (Below.refl _ _).drew ?_ ?_ ?_
  ·
   intro i gB v wx wy hi hF hb _
   match i, hi with
   | 0, _ => exact hF
   | 1, _ => exact hF
   | 2, _ => obtain ⟨h0, h1, h2⟩ := hF; exact ⟨h0, h1.later hb, h2⟩
   | 3, _ => exact hF
   | 4, _ => exact hF
   | 5, _ => obtain ⟨c, h0, h1, h2⟩ := hF; exact ⟨c, h0, h1.later hb, h2⟩
   | 6, _ => obtain ⟨G, c, h0, h1, h2⟩ := hF; exact ⟨G, c, h0, h1.later hb, h2⟩
  ·
   intro i hi t ρ wx hB hp hd
   match i, hi with
   | 0, _ =>
    have e1 : (fr DL1 A t).eval (.tmp 1) = .pointer (some ⟨w.heap.size, 0, none⟩) := (fr_eval_old _ _ _ 1 rfl).trans a1'
    refine op_run (v := .pointer (some ⟨w.heap.size, 0, none⟩)) (w' := wx) rfl rfl ?_ ?_
    ·
     clear hp hd; have ec : ∀ v, (fr DL1 A t).eval (.const v) = v := fun _ => rfl; generalize (fr DL1 A t).eval = ev at ec e1 ⊢; go_simp
    ·
     exact ⟨_, 0, rfl, hB, Below.refl _ _, rfl, .inl rfl⟩
   | 1, _ =>
    have e3 : (fr DL1 A t).eval (.tmp 3) = .pointer (some ⟨w.heap.size, 0, none⟩) := (fr_eval _ _ _ 3 rfl (by rw [asz]; decide)).trans (hp 0 (pre_mem (by kernel_rfl)))
    have hc := (hKA wx hB).cell 0 rfl
    refine op_run (v := .int .i64 D.top) (w' := wx) rfl rfl ?_ ?_
    ·
     clear hp hd; have ec : ∀ v, (fr DL1 A t).eval (.const v) = v := fun _ => rfl; generalize (fr DL1 A t).eval = ev at ec e3 ⊢; go_simp
    ·
     exact ⟨_, 0, rfl, hB, Below.refl _ _, rfl, .inl rfl⟩
   | 2, _ =>
    refine op_run (v := .slice (some ⟨wx.heap.size, 0, none⟩) 0 0) (w' := wx.alloc (.cells #[] 3)) rfl rfl ?_ ?_
    ·
     clear hp hd; have ec : ∀ v, (fr DL1 A t).eval (.const v) = v := fun _ => rfl; generalize (fr DL1 A t).eval = ev at ec  ⊢; go_simp
    ·
     exact ⟨_, wx.heap.size, rfl, hB.alloc hB.size _, (Below.refl _ _).alloc (Nat.le_refl _) _, ⟨rfl, irow_new wx [] (by simp), hB.size⟩, .inl rfl⟩
   | 3, _ =>
    have e1 : (fr DL1 A t).eval (.tmp 1) = .pointer (some ⟨w.heap.size, 0, none⟩) := (fr_eval_old _ _ _ 1 rfl).trans a1'
    refine op_run (v := .pointer (some ⟨w.heap.size, 1, none⟩)) (w' := wx) rfl rfl ?_ ?_
    ·
     clear hp hd; have ec : ∀ v, (fr DL1 A t).eval (.const v) = v := fun _ => rfl; generalize (fr DL1 A t).eval = ev at ec e1 ⊢; go_simp
    ·
     exact ⟨_, 0, rfl, hB, Below.refl _ _, rfl, .inl rfl⟩
   | 4, _ =>
    have e6 : (fr DL1 A t).eval (.tmp 6) = .pointer (some ⟨w.heap.size, 1, none⟩) := (fr_eval _ _ _ 6 rfl (by rw [asz]; decide)).trans (hp 3 (pre_mem (by kernel_rfl)))
    have hc := (hKA wx hB).cell 1 rfl
    refine op_run (v := .slice S.bits.a S.bits.n S.bits.c) (w' := wx) rfl rfl ?_ ?_
    ·
     clear hp hd; have ec : ∀ v, (fr DL1 A t).eval (.const v) = v := fun _ => rfl; generalize (fr DL1 A t).eval = ev at ec e6 ⊢; go_simp
    ·
     exact ⟨_, 0, rfl, hB, Below.refl _ _, rfl, .inl rfl⟩
   | 5, _ =>
    obtain ⟨hv2, q2_0, q2_1⟩ := hp 2 (pre_mem (by kernel_rfl))
    have e5 : (fr DL1 A t).eval (.tmp 5) = .slice (some ⟨(ρ 2), 0, none⟩) 0 0 := (fr_eval _ _ _ 5 rfl (by rw [asz]; decide)).trans hv2
    have e7 : (fr DL1 A t).eval (.tmp 7) = .slice S.bits.a S.bits.n S.bits.c := (fr_eval _ _ _ 7 rfl (by rw [asz]; decide)).trans (hp 4 (pre_mem (by kernel_rfl)))
    refine op_icopy rfl rfl (.tmp 5) (.tmp 7) rfl ((ρ 2)) e5 (q2_0) (S.bits.a) S.bits.n S.bits.c (D.bits) e7 ((hRS wx hB).len) ((hRS wx hB).rd) ((hRS wx hB).nil) (by omega) ?_
    intro g2 c2 wy r2 l2 d2 b2
    exact ⟨_, g2, rfl, hB.trans (b2.mono hB.size), b2, ⟨c2, rfl, r2, by rcases d2 with d2 | d2; (· exact Nat.le_trans hB.size d2); (· rw [d2]; exact q2_1)⟩, .inl rfl⟩
   | 6, _ =>
    have e4 : (fr DL1 A t).eval (.tmp 4) = .int .i64 D.top := (fr_eval _ _ _ 4 rfl (by rw [asz]; decide)).trans (hp 1 (pre_mem (by kernel_rfl)))
    obtain ⟨c5, hv5, q5_0, q5_1⟩ := hp 5 (pre_mem (by kernel_rfl))
    have e8 : (fr DL1 A t).eval (.tmp 8) = .slice (some ⟨(ρ 5), 0, none⟩) S.bits.n c5 := (fr_eval _ _ _ 8 rfl (by rw [asz]; decide)).trans hv5
    refine op_run (v := .agg #[.int .i64 D.top, .slice (some ⟨(ρ 5), 0, none⟩) S.bits.n c5]) (w' := wx) rfl rfl ?_ ?_
    ·
     clear hp hd q5_0 q5_1; have ec : ∀ v, (fr DL1 A t).eval (.const v) = v := fun _ => rfl; generalize (fr DL1 A t).eval = ev at ec e4 e8 ⊢; go_simp
    ·
     exact ⟨_, 0, rfl, hB, Below.refl _ _, ⟨_, _, rfl, q5_0, q5_1⟩, .inl rfl⟩
  ·
   intro t ρ wx hB hF hne
   obtain ⟨G6, c6, hv6, q6_0, q6_1⟩ := hF 6 (by decide)
   have e9 : (fr DL1 A t).eval (.tmp 9) = .agg #[.int .i64 D.top, .slice (some ⟨G6, 0, none⟩) S.bits.n c6] := (fr_eval _ _ _ 9 rfl (by rw [asz]; decide)).trans hv6
   have e2 : (fr DL1 A t).eval (.tmp 2) = .pointer (some ⟨w.heap.size + 1, 0, none⟩) := (fr_eval_old _ _ _ 2 rfl).trans a2'
   clear hne
   have q0 := (hKO wx hB).cell 0 rfl
   have q1 := (hKO wx hB).cell 1 rfl
   have f0 := (hKO wx hB).frozen 0
   have f1 := (hKO wx hB).frozen 1
   have kO : Hid (Blk wx (w.heap.size + 1) 39 [.int .i64 0, .slice none 0 0]) := hKO wx hB
   have rC := hid (q6_0)
   have lC : Hid (x0.heap.size ≤ G6) := q6_1
   refine op_wp rfl rfl ?_
   clear hF q6_0 q6_1
   generalize hE : (fr DL1 A t).eval = ev at e9 e2
   unfold Oper.wp
   rw [hE]
   go_simp
   refine hMet _ _ (Met.intro (hRJ _ _ ⟨t 3, t 4, t 5, t 6, t 7, t 8, t 9, ⟨G6, c6, hv6, copied kO.out rC.out (Nat.le_trans HSZ.out lC.out) B0.out hB⟩, ?_⟩))
   rw [← hA]; rfl
 case rest =>
  obtain ⟨q, c, rfl, hcp⟩ := hcut
  have HC : Hid (Copied w wc q c S.bits.n D) := hcp
  clear hcp
  go_wp2
  obtain ⟨k1, r1, l1, b1⟩ := HC.out
  exact bodyPost_ret (v := wnV D ⟨⟨some ⟨q, 0, none⟩, S.bits.n, c⟩⟩) (res1 rfl (is_cell rfl k1 aggWn)) rfl ⟨⟨⟨some ⟨q, 0, none⟩, S.bits.n, c⟩⟩, rfl, ⟨ISOwn.row r1 HLen.out (by omega) r1.lt, ⟨⟩⟩, b1⟩
abbrev DL2 : List Nat := [3, 4, 5, 6, 7, 8, 9]
set_option maxHeartbeats 4000000 in
theorem implCopy (S : WnS) (D : WnD) (w : World) (h : WnRd w S D) (hl : D.bits.length ≤ 4194304) :
  Calls Tryz.prog 121 #[wnV D S] w fun e w' => ∃ S', e = .returned (wnV D S') ∧ WnOwn w' w.heap.size w'.heap.size S' D ∧ Below w.heap.size w w' := by
 have HR := hid (h)
 have HLen : Hid (S.bits.n = D.bits.length) := h.bits.len
 obtain ⟨x0, hx0⟩ : ∃ x0, (w.alloc (.cells #[.int .i64 D.top, .slice S.bits.a S.bits.n S.bits.c] 39)).alloc (.cells #[.int .i64 0, .slice none 0 0] 39) = x0 := ⟨_, rfl⟩
 have HW0 : Hid (_ = x0) := hx0
 have B0 : Hid (Below w.heap.size w x0) := by rw [← hx0]; exact ((Below.refl _ _).alloc (Nat.le_refl _) _).alloc (by simp) _
 have KA : Hid (Blk x0 w.heap.size 39 [.int .i64 D.top, .slice S.bits.a S.bits.n S.bits.c]) := by rw [← hx0]; exact (Blk.new w _ _).alloc _
 have KO : Hid (Blk x0 (w.heap.size + 1) 39 [.int .i64 0, .slice none 0 0]) := by
  have := Blk.new (w.alloc (.cells #[.int .i64 D.top, .slice S.bits.a S.bits.n S.bits.c] 39)) 39 [.int .i64 0, .slice none 0 0]
  rw [World.size_alloc] at this
  rw [← hx0]; exact this
 have HSZ : Hid (w.heap.size + 2 ≤ x0.heap.size) := by rw [← hx0]; show _ ≤ _; simp
 clear h hx0
 unfold wnV
 go_enter Tryz.func121, Tryz.ntmps121
 go_upto_region 1 with fail
 rw [HW0.out]
 clear HW0
 go_cut [9] from 3 to 8 (fun s9 wx => ∃ q c, s9 = .agg #[.int .i64 D.top, .slice (some ⟨q, 0, none⟩) S.bits.n c] ∧ Copied w wx q c S.bits.n D)
 case first =>
  rename_i J K' hRJ hMet
  generalize hA : Act.mk _ _ = A
  have a1' : A.eval (.tmp 1) = .pointer (some ⟨w.heap.size, 0, none⟩) := by rw [← hA]; rfl
  have a2' : A.eval (.tmp 2) = .pointer (some ⟨w.heap.size + 1, 0, none⟩) := by rw [← hA]; rfl
  have asz : A.tmps.size = 10 := by rw [← hA]; rfl
  have hKA : ∀ wx, Below x0.heap.size x0 wx → Blk wx w.heap.size 39 [.int .i64 D.top, .slice S.bits.a S.bits.n S.bits.c] := fun wx hb => KA.out.later hb
  have hKO : ∀ wx, Below x0.heap.size x0 wx → Blk wx (w.heap.size + 1) 39 [.int .i64 0, .slice none 0 0] := fun wx hb => KO.out.later hb
  have hRS : ∀ wx, Below x0.heap.size x0 wx → ISRd wx S.bits D.bits := fun wx hb => HR.out.bits.later (B0.out.trans (hb.mono B0.out.size))
  refine region_each (by kernel_rfl) DL2 7 (fun i => DL2.getD i 0) (fun _ => 0)
   (fun i gB v wx => match i with
    | 0 => v = .pointer (some ⟨w.heap.size, 0, none⟩)
    | 1 => v = .int .i64 D.top
    | 2 => v = .slice (some ⟨gB, 0, none⟩) 0 0 ∧ IRow wx gB 0 [] ∧ x0.heap.size ≤ gB
    | 3 => v = .pointer (some ⟨w.heap.size, 1, none⟩)
    | 4 => v = .slice S.bits.a S.bits.n S.bits.c
    | 5 => ∃ c, v = .slice (some ⟨gB, 0, none⟩) S.bits.n c ∧ IRow wx gB c (D.bits) ∧ x0.heap.size ≤ gB
    | 6 => ∃ G c, v = .agg #[.int .i64 D.top, .slice (some ⟨G, 0, none⟩) S.bits.n c] ∧ IRow wx G c D.bits ∧ x0.heap.size ≤ G
    | _ => False) (fun wx => Below x0.heap.size x0 wx) (by kernel_rfl) (Below.refl _ _).drew ?_ ?_ ?_
  ·
   intro i gB v wx wy hi hF hb _
   match i, hi with
   | 0, _ => exact hF
   | 1, _ => exact hF
   | 2, _ => obtain ⟨h0, h1, h2⟩ := hF; exact ⟨h0, h1.later hb, h2⟩
   | 3, _ => exact hF
   | 4, _ => exact hF
   | 5, _ => obtain ⟨c, h0, h1, h2⟩ := hF; exact ⟨c, h0, h1.later hb, h2⟩
   | 6, _ => obtain ⟨G, c, h0, h1, h2⟩ := hF; exact ⟨G, c, h0, h1.later hb, h2⟩
  ·
   intro i hi t ρ wx hB hp hd
   match i, hi with
   | 0, _ =>
    have e1 : (fr DL2 A t).eval (.tmp 1) = .pointer (some ⟨w.heap.size, 0, none⟩) := (fr_eval_old _ _ _ 1 rfl).trans a1'
    refine op_run (v := .pointer (some ⟨w.heap.size, 0, none⟩)) (w' := wx) rfl rfl ?_ ?_
    ·
     clear hp hd; have ec : ∀ v, (fr DL2 A t).eval (.const v) = v := fun _ => rfl; generalize (fr DL2 A t).eval = ev at ec e1 ⊢; go_simp
    ·
     exact ⟨_, 0, rfl, hB, Below.refl _ _, rfl, .inl rfl⟩
   | 1, _ =>
    have e3 : (fr DL2 A t).eval (.tmp 3) = .pointer (some ⟨w.heap.size, 0, none⟩) := (fr_eval _ _ _ 3 rfl (by rw [asz]; decide)).trans (hp 0 (pre_mem (by kernel_rfl)))
    have hc := (hKA wx hB).cell 0 rfl
    refine op_run (v := .int .i64 D.top) (w' := wx) rfl rfl ?_ ?_
    ·
     clear hp hd; have ec : ∀ v, (fr DL2 A t).eval (.const v) = v := fun _ => rfl; generalize (fr DL2 A t).eval = ev at ec e3 ⊢; go_simp
    ·
     exact ⟨_, 0, rfl, hB, Below.refl _ _, rfl, .inl rfl⟩
   | 2, _ =>
    refine op_run (v := .slice (some ⟨wx.heap.size, 0, none⟩) 0 0) (w' := wx.alloc (.cells #[] 3)) rfl rfl ?_ ?_
    ·
     clear hp hd; have ec : ∀ v, (fr DL2 A t).eval (.const v) = v := fun _ => rfl; generalize (fr DL2 A t).eval = ev at ec  ⊢; go_simp
    ·
     exact ⟨_, wx.heap.size, rfl, hB.alloc hB.size _, (Below.refl _ _).alloc (Nat.le_refl _) _, ⟨rfl, irow_new wx [] (by simp), hB.size⟩, .inl rfl⟩
   | 3, _ =>
    have e1 : (fr DL2 A t).eval (.tmp 1) = .pointer (some ⟨w.heap.size, 0, none⟩) := (fr_eval_old _ _ _ 1 rfl).trans a1'
    refine op_run (v := .pointer (some ⟨w.heap.size, 1, none⟩)) (w' := wx) rfl rfl ?_ ?_
    ·
     clear hp hd; have ec : ∀ v, (fr DL2 A t).eval (.const v) = v := fun _ => rfl; generalize (fr DL2 A t).eval = ev at ec e1 ⊢; go_simp
    ·
     exact ⟨_, 0, rfl, hB, Below.refl _ _, rfl, .inl rfl⟩
   | 4, _ =>
    have e6 : (fr DL2 A t).eval (.tmp 6) = .pointer (some ⟨w.heap.size, 1, none⟩) := (fr_eval _ _ _ 6 rfl (by rw [asz]; decide)).trans (hp 3 (pre_mem (by kernel_rfl)))
    have hc := (hKA wx hB).cell 1 rfl
    refine op_run (v := .slice S.bits.a S.bits.n S.bits.c) (w' := wx) rfl rfl ?_ ?_
    ·
     clear hp hd; have ec : ∀ v, (fr DL2 A t).eval (.const v) = v := fun _ => rfl; generalize (fr DL2 A t).eval = ev at ec e6 ⊢; go_simp
    ·
     exact ⟨_, 0, rfl, hB, Below.refl _ _, rfl, .inl rfl⟩
   | 5, _ =>
    obtain ⟨hv2, q2_0, q2_1⟩ := hp 2 (pre_mem (by kernel_rfl))
    have e5 : (fr DL2 A t).eval (.tmp 5) = .slice (some ⟨(ρ 2), 0, none⟩) 0 0 := (fr_eval _ _ _ 5 rfl (by rw [asz]; decide)).trans hv2
    have e7 : (fr DL2 A t).eval (.tmp 7) = .slice S.bits.a S.bits.n S.bits.c := (fr_eval _ _ _ 7 rfl (by rw [asz]; decide)).trans (hp 4 (pre_mem (by kernel_rfl)))
    refine op_icopy rfl rfl (.tmp 5) (.tmp 7) rfl ((ρ 2)) e5 (q2_0) (S.bits.a) S.bits.n S.bits.c (D.bits) e7 ((hRS wx hB).len) ((hRS wx hB).rd) ((hRS wx hB).nil) (by omega) ?_
    intro g2 c2 wy r2 l2 d2 b2
    exact ⟨_, g2, rfl, hB.trans (b2.mono hB.size), b2, ⟨c2, rfl, r2, by rcases d2 with d2 | d2; (· exact Nat.le_trans hB.size d2); (· rw [d2]; exact q2_1)⟩, .inl rfl⟩
   | 6, _ =>
    have e4 : (fr DL2 A t).eval (.tmp 4) = .int .i64 D.top := (fr_eval _ _ _ 4 rfl (by rw [asz]; decide)).trans (hp 1 (pre_mem (by kernel_rfl)))
    obtain ⟨c5, hv5, q5_0, q5_1⟩ := hp 5 (pre_mem (by kernel_rfl))
    have e8 : (fr DL2 A t).eval (.tmp 8) = .slice (some ⟨(ρ 5), 0, none⟩) S.bits.n c5 := (fr_eval _ _ _ 8 rfl (by rw [asz]; decide)).trans hv5
    refine op_run (v := .agg #[.int .i64 D.top, .slice (some ⟨(ρ 5), 0, none⟩) S.bits.n c5]) (w' := wx) rfl rfl ?_ ?_
    ·
     clear hp hd q5_0 q5_1; have ec : ∀ v, (fr DL2 A t).eval (.const v) = v := fun _ => rfl; generalize (fr DL2 A t).eval = ev at ec e4 e8 ⊢; go_simp
    ·
     exact ⟨_, 0, rfl, hB, Below.refl _ _, ⟨_, _, rfl, q5_0, q5_1⟩, .inl rfl⟩
  ·
   intro t ρ wx hB hF hne
   obtain ⟨G6, c6, hv6, q6_0, q6_1⟩ := hF 6 (by decide)
   have e9 : (fr DL2 A t).eval (.tmp 9) = .agg #[.int .i64 D.top, .slice (some ⟨G6, 0, none⟩) S.bits.n c6] := (fr_eval _ _ _ 9 rfl (by rw [asz]; decide)).trans hv6
   have e2 : (fr DL2 A t).eval (.tmp 2) = .pointer (some ⟨w.heap.size + 1, 0, none⟩) := (fr_eval_old _ _ _ 2 rfl).trans a2'
   clear hne
   have q0 := (hKO wx hB).cell 0 rfl
   have q1 := (hKO wx hB).cell 1 rfl
   have f0 := (hKO wx hB).frozen 0
   have f1 := (hKO wx hB).frozen 1
   have kO : Hid (Blk wx (w.heap.size + 1) 39 [.int .i64 0, .slice none 0 0]) := hKO wx hB
   have rC := hid (q6_0)
   have lC : Hid (x0.heap.size ≤ G6) := q6_1
   refine op_wp rfl rfl ?_
   clear hF q6_0 q6_1
   generalize hE : (fr DL2 A t).eval = ev at e9 e2
   unfold Oper.wp
   rw [hE]
   go_simp
   refine hMet _ _ (Met.intro (hRJ _ _ ⟨t 3, t 4, t 5, t 6, t 7, t 8, t 9, ⟨G6, c6, hv6, copied kO.out rC.out (Nat.le_trans HSZ.out lC.out) B0.out hB⟩, ?_⟩))
   rw [← hA]; rfl
 case rest =>
  obtain ⟨q, c, rfl, hcp⟩ := hcut
  have HC : Hid (Copied w wc q c S.bits.n D) := hcp
  clear hcp
  go_wp2
  obtain ⟨k1, r1, l1, b1⟩ := HC.out
  exact bodyPost_ret (v := wnV D ⟨⟨some ⟨q, 0, none⟩, S.bits.n, c⟩⟩) (res1 rfl (is_cell rfl k1 aggWn)) rfl ⟨⟨⟨some ⟨q, 0, none⟩, S.bits.n, c⟩⟩, rfl, ⟨ISOwn.row r1 HLen.out (by omega) r1.lt, ⟨⟩⟩, b1⟩
end Go.Proofs.YtmcflfpckpjphaaGreatDoor.WnC

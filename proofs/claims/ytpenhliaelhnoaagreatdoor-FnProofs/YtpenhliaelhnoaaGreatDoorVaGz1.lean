/-
  Slices of bytes as rows of numbers, and what the laws' own four helpers on them do: copy, compare, mark, and look for marks. Each contract asks that the slice is read as the list that it names, and a length of at most 4,194,304.
  Plain facts on int's bit operations: masks, joins and turns of numbers below 2 to the 32, no condition beyond the bounds that each lemma names.
  Appending to a row of bytes that the call itself made, whatever is appended; and what impl's and spec's PutN answer at every slice of at most 2,097,152 bytes and every two ints.
  What impl's and spec's GetN answer at every slice of at most 4,194,304 bytes, every place and every number of bytes: the same three results.
-/
import Derived.Test.YtpenhliaelhnoaaGreatDoorProg
import Derived.WalkKit
import Derived.KernelRfl
import Derived.WalkLawsBesides
import Derived.Deep.QuietTactic
import Derived.BigQuiet
import Derived.Laws.AppendOwnNone
import Derived.Laws.BitsAllLaws
set_option linter.unusedVariables false
set_option maxRecDepth 100000
namespace Go.Proofs.YtpenhliaelhnoaaGreatDoor.Mem
open Go.RowKit

theorem info8 : (Tryz.prog.info? 5).map (fun i => (i.zero, i.size, i.bytes)) = some (some (.int .u8 0), 1, 1) := by kernel_rfl

def Bytes (l : List Int) : Prop := ∀ z ∈ l, 0 ≤ z ∧ z ≤ 255
theorem Bytes.at {l : List Int} (h : Bytes l) (i : Nat) : 0 ≤ l.getD i 0 ∧ l.getD i 0 ≤ 255 := by
 by_cases hi : i < l.length
 ·
  simpa [List.getD, hi] using h _ (List.getElem_mem hi)
 ·
  simp [List.getD, List.getElem?_eq_none (Nat.le_of_not_lt hi)]

def Rd (w : World) (a : Option Addr) (l : List Int) : Prop :=
 ∀ i, i < l.length → ∃ b off, a = some ⟨b, off, none⟩ ∧ b < w.heap.size ∧ w.cell? ⟨b, off + i, none⟩ = some (.int .u8 (l.getD i 0))

def Row (w : World) (g cap : Nat) (l : List Int) : Prop :=
 l.length ≤ cap ∧ cap ≤ maxLen ∧ ∃ cur, w.heap[g]? = some (.cells cur 5 (0, 0)) ∧ cur.size = cap ∧ cur.toList.take l.length = l.map (Value.int .u8)

theorem Row.owns {w : World} {g cap : Nat} {l : List Int} (h : Row w g cap l) {base : Nat} (hb : base ≤ g) : w.ownsRow base 5 1 (.slice (some ⟨g, 0, none⟩) l.length cap) l.length (l.map (Value.int .u8)) := by
 obtain ⟨h1, h2, cur, h3, h4, h5⟩ := h
 exact ⟨by simp, .inr ⟨g, cap, cur, rfl, hb, h3, h1, h2, by omega, by simpa using h5⟩⟩
theorem Row.of {w : World} {base g n cap : Nat} {l : List Int} (h : w.ownsRow base 5 1 (.slice (some ⟨g, 0, none⟩) n cap) n (l.map (Value.int .u8))) : Row w g cap l ∧ base ≤ g ∧ n = l.length ∧ g < w.heap.size := by
 obtain ⟨h0, h⟩ := h
 have hn : n = l.length := by simpa using h0.symm
 subst hn
 rcases h with ⟨h, _⟩ | ⟨g', cap', cur, hv, hb, hg, h1, h2, h3, h4⟩
 ·
  simp at h
 ·
  simp only [Value.slice.injEq, Option.some.injEq, Addr.mk.injEq, and_true, true_and] at hv
  obtain ⟨rfl, rfl⟩ := hv
  exact ⟨⟨h1, h2, cur, hg, by omega, by simpa using h4⟩, hb, rfl, (Array.getElem?_eq_some_iff.1 hg).1⟩
theorem Row.keep {w w' : World} {g cap : Nat} {l : List Int} (h : Row w g cap l) (e : w'.heap[g]? = w.heap[g]?) : Row w' g cap l := by
 obtain ⟨h1, h2, cur, h3, h4⟩ := h
 exact ⟨h1, h2, cur, e.trans h3, h4⟩
theorem Row.lt {w : World} {g cap : Nat} {l : List Int} (h : Row w g cap l) : g < w.heap.size := by
 obtain ⟨_, _, cur, h3, _⟩ := h
 exact (Array.getElem?_eq_some_iff.1 h3).1
theorem Row.below {w w' : World} {g cap : Nat} {l : List Int} (h : Row w g cap l) {B : Nat} (b : Below B w w') (hg : g < B) : Row w' g cap l := h.keep (b.block g hg)
theorem Row.later {w w' : World} {g cap : Nat} {l : List Int} (h : Row w g cap l) (b : Below w.heap.size w w') : Row w' g cap l := h.below b h.lt
theorem Row.cell {w : World} {g cap : Nat} {l : List Int} (h : Row w g cap l) (i : Nat) (hi : i < l.length) : w.cell? ⟨g, i, none⟩ = some (.int .u8 (l.getD i 0)) := by
 have := (h.owns (Nat.zero_le g)).cellAt i (by omega)
 rw [this]
 simp [List.getD, hi]
theorem Row.rd {w : World} {g cap : Nat} {l : List Int} (h : Row w g cap l) : Rd w (some ⟨g, 0, none⟩) l := fun i hi =>
 ⟨g, 0, rfl, h.lt, by rw [Nat.zero_add]; exact h.cell i hi⟩
theorem Rd.later {w w' : World} {a : Option Addr} {l : List Int} (h : Rd w a l) {B : Nat} (b : Below B w w') (hB : w.heap.size ≤ B) : Rd w' a l := by
 intro i hi
 obtain ⟨x, off, rfl, h1, h2⟩ := h i hi
 exact ⟨x, off, rfl, Nat.lt_of_lt_of_le h1 b.size, by rw [b.cell (Nat.lt_of_lt_of_le h1 hB)]; exact h2⟩

def IsRow (k : IntKind) (w : World) (a : Option Addr) (len cap : Nat) (zs : List Int) : Prop :=
 (a = none ∧ len = 0 ∧ cap = 0 ∧ zs = []) ∨
 ∃ x, a = some x ∧ len ≤ cap ∧ cap ≤ maxLen ∧ zs.length = cap ∧ (∀ i, i < zs.length → w.cell? (x.add i) = some (.int k (zs.getD i 0))) ∧ ∀ n ∈ zs, (Lit.int k n).wf = true
theorem IsRow.read {w : World} {a : Option Addr} {len cap : Nat} {zs : List Int} (h : IsRow .u8 w a len cap zs) :
  ∃ l, len = l.length ∧ Rd w a l ∧ (a = none → cap = 0) ∧ Bytes l := by
 rcases h with ⟨rfl, rfl, rfl, rfl⟩ | ⟨x, rfl, h1, h2, h3, h4, h5⟩
 ·
  exact ⟨[], rfl, (fun i hi => by cases hi), (fun _ => rfl), (fun z hz => by cases hz)⟩
 ·
  refine ⟨zs.take len, by simp; omega, ?_, (fun h => by cases h), ?_⟩
  ·
   intro i hi
   have hi' : i < len := by simp at hi; omega
   have hc := h4 i (by omega)
   have hc0 := h4 0 (by omega)
   obtain ⟨b, off, spot⟩ := x
   have hspot : spot = none := by simpa [Addr.add] using World.cell?_spot hc0
   subst hspot
   rw [Addr.add_lit] at hc
   refine ⟨b, off, rfl, World.block_lt_of_cell? w _ hc, ?_⟩
   have e : (zs.take len).getD i 0 = zs.getD i 0 := by simp [List.getD, hi']
   rw [e]
   exact hc
  ·
   intro z hz
   have := h5 z (List.mem_of_mem_take hz)
   simpa [Lit.wf, IntKind.min, IntKind.max, IntKind.signed, IntKind.bits] using this

theorem grown_trans {a b c : World} {row : Option Nat} (h : a.grownBy b row) (k : b.grownBy c row) : a.grownBy c row :=
 ⟨k.os.trans h.os, k.tape.trans h.tape, k.output.trans h.output, Nat.le_trans h.size k.size, fun i hi hne => (k.block i (Nat.lt_of_lt_of_le hi h.size) hne).trans (h.block i hi hne)⟩

theorem hid {p : Prop} (h : p) : Hid p := h
theorem hid2 {a b : Prop} (h1 : Hid a) (h2 : Hid b) : a ∧ b := ⟨h1, h2⟩
theorem hid3 {a b c : Prop} (h1 : Hid a) (h2 : Hid b) (h3 : Hid c) : a ∧ b ∧ c := ⟨h1, h2, h3⟩
theorem hid4 {a b c d : Prop} (h1 : Hid a) (h2 : Hid b) (h3 : Hid c) (h4 : Hid d) : a ∧ b ∧ c ∧ d := ⟨h1, h2, h3, h4⟩
theorem hid5 {a b c d e : Prop} (h1 : Hid a) (h2 : Hid b) (h3 : Hid c) (h4 : Hid d) (h5 : Hid e) : a ∧ b ∧ c ∧ d ∧ e := ⟨h1, h2, h3, h4, h5⟩
theorem hid6 {a b c d e f : Prop} (h1 : Hid a) (h2 : Hid b) (h3 : Hid c) (h4 : Hid d) (h5 : Hid e) (h6 : Hid f) : a ∧ b ∧ c ∧ d ∧ e ∧ f := ⟨h1, h2, h3, h4, h5, h6⟩
theorem hid7 {a b c d e f g : Prop} (h1 : Hid a) (h2 : Hid b) (h3 : Hid c) (h4 : Hid d) (h5 : Hid e) (h6 : Hid f) (h7 : Hid g) : a ∧ b ∧ c ∧ d ∧ e ∧ f ∧ g := ⟨h1, h2, h3, h4, h5, h6, h7⟩
theorem hid8 {a b c d e f g i : Prop} (h1 : Hid a) (h2 : Hid b) (h3 : Hid c) (h4 : Hid d) (h5 : Hid e) (h6 : Hid f) (h7 : Hid g) (h8 : Hid i) : a ∧ b ∧ c ∧ d ∧ e ∧ f ∧ g ∧ i := ⟨h1, h2, h3, h4, h5, h6, h7, h8⟩
end Go.Proofs.YtpenhliaelhnoaaGreatDoor.Mem

namespace Go.Proofs.YtpenhliaelhnoaaGreatDoor.Bits
open Go.RowKit (wrap64)

theorem wrap_i64_nat (m : Nat) (h : m < 9223372036854775808) : IntKind.i64.wrap (m : Int) = (m : Int) := by
 rw [IntKind.wrap_i64]; omega

theorem ofInt64_nat (a : Nat) (h : a < 18446744073709551616) : (BitVec.ofInt 64 (a : Int)).toNat = a := by
 rw [BitVec.ofInt_natCast, BitVec.toNat_ofNat]; exact Nat.mod_eq_of_lt (by omega)

theorem and_i64 (a b : Nat) (ha : a < 9223372036854775808) (hb : b < 9223372036854775808) : bits .and .i64 (a : Int) (b : Int) = ((a &&& b : Nat) : Int) := by
 have h : a &&& b < 9223372036854775808 := Nat.lt_of_le_of_lt Nat.and_le_left ha
 show IntKind.i64.wrap ((BitVec.ofInt 64 (a : Int) &&& BitVec.ofInt 64 (b : Int)).toNat : Int) = _
 rw [BitVec.toNat_and, ofInt64_nat a (by omega), ofInt64_nat b (by omega), wrap_i64_nat _ h]

theorem or_i64 (a b : Nat) (ha : a < 9223372036854775808) (hb : b < 9223372036854775808) : bits .or .i64 (a : Int) (b : Int) = ((a ||| b : Nat) : Int) := by
 have h : a ||| b < 2 ^ 63 := Nat.or_lt_two_pow (by omega) (by omega)
 show IntKind.i64.wrap ((BitVec.ofInt 64 (a : Int) ||| BitVec.ofInt 64 (b : Int)).toNat : Int) = _
 rw [BitVec.toNat_or, ofInt64_nat a (by omega), ofInt64_nat b (by omega), wrap_i64_nat _ (by omega)]

theorem xor_i64 (a b : Nat) (ha : a < 9223372036854775808) (hb : b < 9223372036854775808) : bits .xor .i64 (a : Int) (b : Int) = ((a ^^^ b : Nat) : Int) := by
 have h : a ^^^ b < 2 ^ 63 := Nat.xor_lt_two_pow (by omega) (by omega)
 show IntKind.i64.wrap ((BitVec.ofInt 64 (a : Int) ^^^ BitVec.ofInt 64 (b : Int)).toNat : Int) = _
 rw [BitVec.toNat_xor, ofInt64_nat a (by omega), ofInt64_nat b (by omega), wrap_i64_nat _ (by omega)]

theorem or_u32 (a b : Nat) (ha : a < 4294967296) (hb : b < 4294967296) : bits .or .u32 (a : Int) (b : Int) = ((a ||| b : Nat) : Int) := by
 have h : a ||| b < 2 ^ 32 := Nat.or_lt_two_pow (by omega) (by omega)
 have e : ∀ c : Nat, c < 4294967296 → (BitVec.ofInt 32 (c : Int)).toNat = c := fun c hc => by rw [BitVec.ofInt_natCast, BitVec.toNat_ofNat]; exact Nat.mod_eq_of_lt (by omega)
 show IntKind.u32.wrap ((BitVec.ofInt 32 (a : Int) ||| BitVec.ofInt 32 (b : Int)).toNat : Int) = _
 rw [BitVec.toNat_or, e a ha, e b hb, show ∀ n, IntKind.u32.wrap n = n % 4294967296 from fun n => by simp [IntKind.wrap, IntKind.bits, IntKind.signed]]
 omega

theorem mask_i64 (k : Nat) (hk : k ≤ 62) (x : Int) : bits .and .i64 x ((2 ^ k - 1 : Nat) : Int) = x % ((2 ^ k : Nat) : Int) := by
 have hp : 2 ^ k ≤ 2 ^ 62 := Nat.pow_le_pow_right (by omega) hk
 have hp0 : 0 < 2 ^ k := Nat.two_pow_pos k
 have e : (2 : Nat) ^ 62 = 4611686018427387904 := by decide
 have hl : (x % 18446744073709551616).toNat % 2 ^ k < 9223372036854775808 := by
  have := Nat.mod_lt (x % 18446744073709551616).toNat hp0; omega
 show IntKind.i64.wrap ((BitVec.ofInt 64 x &&& BitVec.ofInt 64 ((2 ^ k - 1 : Nat) : Int)).toNat : Int) = _
 rw [BitVec.toNat_and, ofInt64_nat _ (by omega), Nat.and_two_pow_sub_one_eq_mod, BitVec.toNat_ofInt]
 have e2 : (((2 ^ 64 : Nat) : Int)) = 18446744073709551616 := by decide
 rw [e2, wrap_i64_nat _ hl]
 have h1 : (((x % 18446744073709551616).toNat % 2 ^ k : Nat) : Int) = (x % 18446744073709551616) % ((2 ^ k : Nat) : Int) := by
  rw [Int.natCast_emod, Int.toNat_of_nonneg (by omega)]
 rw [h1]
 refine Int.emod_emod_of_dvd x ?_
 have : (18446744073709551616 : Int) = ((2 ^ k * 2 ^ (64 - k) : Nat) : Int) := by rw [← Nat.pow_add, show k + (64 - k) = 64 by omega]; decide
 rw [this, Int.natCast_mul]
 exact Int.dvd_mul_right _ _

theorem mask32 (x : Int) : bits .and .i64 x 4294967295 = x % 4294967296 := mask_i64 32 (by omega) x
theorem mask8 (x : Int) : bits .and .i64 x 255 = x % 256 := mask_i64 8 (by omega) x
theorem mask30 (x : Int) : bits .and .i64 x 1073741823 = x % 1073741824 := mask_i64 30 (by omega) x

def rotN (x n : Nat) : Nat := x / 2 ^ n ||| x * 2 ^ (32 - n) % 4294967296
def rot (x n : Int) : Int := if 1 ≤ n ∧ n ≤ 31 then ((rotN (x % 4294967296).toNat n.toNat : Nat) : Int) else x % 4294967296

theorem rotN_lt (x n : Nat) (hx : x < 4294967296) : rotN x n < 4294967296 := by
 have h1 : x / 2 ^ n < 2 ^ 32 := Nat.lt_of_le_of_lt (Nat.div_le_self _ _) (by omega)
 have h2 : x * 2 ^ (32 - n) % 4294967296 < 2 ^ 32 := by omega
 have := Nat.or_lt_two_pow h1 h2
 unfold rotN; omega
theorem rot_bd (x n : Int) : 0 ≤ rot x n ∧ rot x n ≤ 4294967295 := by
 unfold rot
 split
 ·
  have := rotN_lt (x % 4294967296).toNat n.toNat (by omega); omega
 ·
  omega

theorem rot_wide (x n : Int) (h1 : 1 ≤ n) (h2 : n ≤ 31) :
  bits .and .i64 (bits .or .i64 (x % 4294967296 / 2 ^ n.toNat) (wrap64 (x % 4294967296 * 2 ^ (32 - n).toNat))) 4294967295 = rot x n := by
 obtain ⟨X, hX⟩ := Int.eq_ofNat_of_zero_le (show 0 ≤ x % 4294967296 by omega)
 obtain ⟨N, rfl⟩ := Int.eq_ofNat_of_zero_le (show 0 ≤ n by omega)
 have hXl : X < 4294967296 := by omega
 have e1 : (32 - (N : Int)).toNat = 32 - N := by omega
 have hpw : 2 ^ (32 - N) ≤ 2 ^ 31 := Nat.pow_le_pow_right (by omega) (by omega)
 have e31 : (2 : Nat) ^ 31 = 2147483648 := by decide
 have hm : X * 2 ^ (32 - N) < 9223372036854775808 := by
  have := Nat.mul_le_mul (show X ≤ 4294967295 by omega) hpw; omega
 have hd : X / 2 ^ N < 9223372036854775808 := Nat.lt_of_le_of_lt (Nat.div_le_self _ _) (by omega)
 have e2 : (X : Int) / 2 ^ N = ((X / 2 ^ N : Nat) : Int) := by simp
 have e3 : (X : Int) * 2 ^ (32 - N) = ((X * 2 ^ (32 - N) : Nat) : Int) := by simp
 have e4 : wrap64 ((X * 2 ^ (32 - N) : Nat) : Int) = ((X * 2 ^ (32 - N) : Nat) : Int) := by rw [← IntWalk.i64_left]; exact wrap_i64_nat _ hm
 rw [mask32]
 unfold rot
 rw [if_pos ⟨h1, h2⟩, hX, e1]
 simp only [Int.toNat_natCast]
 rw [e2, e3, e4, or_i64 _ _ hd hm]
 unfold rotN
 rw [show (4294967296 : Int) = ((2 ^ 32 : Nat) : Int) by decide, ← Int.natCast_emod, Nat.or_mod_two_pow, Nat.mod_eq_of_lt (a := X / 2 ^ N)]
 exact Nat.lt_of_le_of_lt (Nat.div_le_self _ _) (by omega)

theorem rot_word (x n : Int) (h1 : 1 ≤ n) (h2 : n ≤ 31) :
  wrap64 (bits .or .u32 (x % 4294967296 / 2 ^ n.toNat) (x % 4294967296 * 2 ^ (32 - n).toNat % 4294967296)) = rot x n := by
 obtain ⟨X, hX⟩ := Int.eq_ofNat_of_zero_le (show 0 ≤ x % 4294967296 by omega)
 obtain ⟨N, rfl⟩ := Int.eq_ofNat_of_zero_le (show 0 ≤ n by omega)
 have hXl : X < 4294967296 := by omega
 have e1 : (32 - (N : Int)).toNat = 32 - N := by omega
 have hd : X / 2 ^ N < 4294967296 := Nat.lt_of_le_of_lt (Nat.div_le_self _ _) (by omega)
 have e2 : (X : Int) / 2 ^ N = ((X / 2 ^ N : Nat) : Int) := by simp
 have e3 : (X : Int) * 2 ^ (32 - N) % 4294967296 = ((X * 2 ^ (32 - N) % 4294967296 : Nat) : Int) := by simp
 have hb := rotN_lt X N hXl
 unfold rot
 rw [if_pos ⟨h1, h2⟩, hX, e1]
 simp only [Int.toNat_natCast]
 rw [e2, e3, or_u32 _ _ hd (by omega)]
 unfold rotN at hb ⊢
 rw [← IntWalk.i64_left]; exact wrap_i64_nat _ (by omega)

end Go.Proofs.YtpenhliaelhnoaaGreatDoor.Bits

namespace Go.Proofs.YtpenhliaelhnoaaGreatDoor.App
open Go.RowKit Mem

theorem Rd.cells {w : World} {ad : Addr} {y : List Int} (h : Rd w (some ad) y) : ∀ j u, (y.map (Value.int .u8))[j]? = some u → w.cell? (ad.add j) = some u := by
 intro j u hu
 have hj : j < y.length := by
  have := (List.getElem?_eq_some_iff.1 hu).1
  simpa using this
 obtain ⟨b, off, e, _, hc⟩ := h j hj
 obtain rfl := Option.some.inj e
 rw [Addr.add_lit, hc]
 simpa [List.getD, hj] using hu

theorem wpList_app (w : World) {ops : Array Oper} {rest : List Oper} {o : Oper} {a : Act} {Q : Exit → Act → World → Prop} (hgd : o.guard = none) (s x : Operand)
  (ho : o.op = .call { callee := .builtin .append, args := #[s, x], argTypes := #[22, 22] })
  (base g n cap : Nat) (l y : List Int) (hs : a.eval s = .slice (some ⟨g, 0, none⟩) n cap) (hn : n = l.length) (hrow : Row w g cap l) (hbg : base ≤ g)
  (ao : Option Addr) (m c : Nat) (hx : a.eval x = .slice ao m c) (hm : m = y.length) (hrd : Rd w ao y) (hnone : ao = none → c = 0) (hsum : l.length + y.length ≤ 100000000)
  (h : ∀ g' cap' w', Row w' g' cap' (l ++ y) → base ≤ g' → g' < w'.heap.size → w.grownBy w' (some g) → wpList Tryz.prog ops Q rest (a.put o.dst (.slice (some ⟨g', 0, none⟩) (n + m) cap')) w') :
  wpList Tryz.prog ops Q (o :: rest) a w := by
 obtain ⟨i0, hi, hz0, hz1, hz2⟩ := info_parts info8
 subst hn hm
 have hlt := hrow.lt
 cases ao with
 | none =>
  have hy : y = [] := by
   cases y with
   | nil => rfl
   | cons z r => obtain ⟨_, _, e, _⟩ := hrd 0 (by simp); cases e
  subst hy
  have hc0 := hnone rfl
  subst hc0
  refine wpList_append_own_none hgd s x 22 ho base 5 i0 1 Tryz.underlying22 hi _ _ _ hs (hrow.owns hbg) hx ?_
  simpa using h g cap w (by simpa using hrow) hbg hlt (World.grownBy.refl _ _)
 | some ad =>
  refine wpList_append_own w hgd s x 22 ho base 5 i0 (.int .u8 0) 1 1 Tryz.underlying22 hi hz0 hz1 hz2 rfl (by decide) _ _ _ hs (hrow.owns hbg) ad y.length c (y.map (Value.int .u8)) hx (by simp) (Rd.cells hrd) (ints_oneCell _ _) (by unfold maxLen; omega) (by omega) (by omega) ?_
  intro v' w' hown hgr hiff
  rcases hown.2 with ⟨hv, _⟩ | ⟨g', cap', cur, rfl, hb, hg', _⟩
  ·
   exact absurd (hiff.1 hv).1 (by simp)
  ·
   rw [← List.map_append] at hown
   obtain ⟨r1, r2, _, r4⟩ := Row.of hown
   exact h g' cap' w' r1 r2 r4 hgr

theorem wpList_fit (w : World) {ops : Array Oper} {rest : List Oper} {o : Oper} {a : Act} {Q : Exit → Act → World → Prop} (hgd : o.guard = none) (s x : Operand)
  (ho : o.op = .call { callee := .builtin .append, args := #[s, x], argTypes := #[22, 22] })
  (g n cap : Nat) (l y : List Int) (hs : a.eval s = .slice (some ⟨g, 0, none⟩) n cap) (hn : n = l.length) (hrow : Row w g cap l)
  (ao : Option Addr) (m c : Nat) (hx : a.eval x = .slice ao m c) (hm : m = y.length) (hrd : Rd w ao y) (hnone : ao = none → c = 0) (hsum : l.length + y.length ≤ cap)
  (h : ∀ w', Row w' g cap (l ++ y) → w.grownBy w' (some g) → wpList Tryz.prog ops Q rest (a.put o.dst (.slice (some ⟨g, 0, none⟩) (n + m) cap)) w') :
  wpList Tryz.prog ops Q (o :: rest) a w := by
 obtain ⟨i0, hi, hz0, hz1, hz2⟩ := info_parts info8
 subst hn hm
 refine wpList_append_fits_any w hgd s x 22 ho g 5 i0 1 Tryz.underlying22 hi hz1 g l.length cap _ hs (hrow.owns (Nat.le_refl _)) ao y.length c (y.map (Value.int .u8)) hx (by simp) ?_ ?_ (ints_oneCell _ _) hsum ?_
 ·
  intro e
  subst e
  refine ⟨?_, hnone rfl⟩
  cases y with
  | nil => rfl
  | cons z r => obtain ⟨_, _, e, _⟩ := hrd 0 (by simp); cases e
 ·
  intro ad e
  subst e
  exact Rd.cells hrd
 ·
  intro w' hown hgr
  rw [← List.map_append] at hown
  exact h w' (Row.of hown).1 hgr

theorem rd_one (w : World) (z : Int) : Rd (w.alloc (.cells #[.int .u8 z] 5)) (some ⟨w.heap.size, 0, none⟩) [z] := by
 intro i hi
 have : i = 0 := by simpa using hi
 subst this
 exact ⟨_, _, rfl, by simp, by simp [World.cell?_alloc_at]⟩
theorem row_new (w : World) (z : List Int) (hz : z.length ≤ maxLen) : Row (w.alloc (.cells (z.map (Value.int .u8)).toArray 5)) w.heap.size z.length z :=
 ⟨Nat.le_refl _, hz, _, heap_alloc_new w _, by simp, by simp [← List.map_take]⟩
theorem row_alloc {w : World} {g cap : Nat} {l : List Int} (h : Row w g cap l) (o : Obj) : Row (w.alloc o) g cap l := h.keep (Below.heap_alloc w o g h.lt)
set_option maxHeartbeats 400000 in
theorem putBytes (a b : Option Addr) (nx ca ny cb : Nat) (x y : List Int) (w : World) (ex : nx = x.length) (ey : ny = y.length) (hx : Rd w a x) (hy : Rd w b y) (na : a = none → ca = 0) (nb : b = none → cb = 0) (lx : x.length ≤ 4194304) (ly : y.length ≤ 4194304) :
  Calls Tryz.prog 51 #[.slice a nx ca, .slice b ny cb] w fun e w' =>
   e = .returned (.slice (some ⟨w.heap.size, 0, none⟩) (nx + ny) (nx + ny)) ∧ Row w' w.heap.size (nx + ny) (x ++ y) ∧ Below w.heap.size w w' := by
 subst ex ey
 obtain ⟨i0, hi, hz0, hz1, hz2⟩ := info_parts info8
 have HX := hid (hx)
 have HY := hid (hy)
 clear hx hy
 go_enter Tryz.func51, Tryz.ntmps51
 go_wp2_with (first | (at_make; refine wpList_make_own _ rfl _ _ 22 rfl w.heap.size 5 i0 (.int .u8 0) 1 Tryz.underlying22 hi hz0 hz1 _ _ _ (x.length + y.length) rfl rfl (by omega) (by rw [hz2]; omega) (by unfold maxLen; omega) (Nat.le_refl _) ?_; intro w1 hown hgr; have hb1 : Hid (Below w.heap.size w w1) := (Below.refl _ _).grown hgr (Nat.le_refl _) (fun k h => by cases h); have hr1 : Hid (Row w1 w.heap.size (x.length + y.length) []) := (Row.of (l := []) hown).1; clear hown hgr) | (at_builtin; refine wpList_fit _ rfl (.tmp 12) (.tmp 13) rfl w.heap.size 0 (x.length + y.length) [] x rfl rfl hr1.out a x.length ca rfl rfl (HX.out.later hb1.out (Nat.le_refl _)) na (by simp) ?_; intro w2 hr2 hg2; have hb2 : Hid (Below w.heap.size w w2) := hb1.out.grown hg2 hb1.out.size (fun k h => by cases h; exact Nat.le_refl _); have hr2 := hid (hr2); clear hg2) | (at_builtin; refine wpList_fit _ rfl (.tmp 15) (.tmp 16) rfl w.heap.size x.length (x.length + y.length) ([] ++ x) y rfl rfl hr2.out b y.length cb rfl rfl (HY.out.later hb2.out (Nat.le_refl _)) nb (by simp) ?_; intro w3 hr3 hg3; have hb3 : Hid (Below w.heap.size w w3) := hb2.out.grown hg3 hb2.out.size (fun k h => by cases h; exact Nat.le_refl _); have hr3 := hid (hr3); clear hg3))
 go_ret
 exact ⟨rfl, by simpa using hr3.out, hb3.out⟩

def isSize (k : Int) : Bool := decide (1 ≤ k ∧ k ≤ 6)
theorem isSize_iff (k : Int) : isSize k = true ↔ 1 ≤ k ∧ k ≤ 6 := by simp [isSize]
theorem isSize_not (k : Int) (h : ¬ (1 ≤ k ∧ k ≤ 6)) : isSize k = false := by simpa [isSize] using h

theorem isNumberSize (k : Int) (w : World) :
  Calls Tryz.prog 83 #[.int .i64 k] w fun e w' => e = .returned (.bool (isSize k)) ∧ w = w' := by
 by_cases h1 : 1 ≤ k
 ·
  by_cases h2 : k ≤ 6
  ·
   have H : Hid (isSize k = true) := (isSize_iff k).2 ⟨h1, h2⟩
   go_enter Tryz.func83, Tryz.ntmps83
   go_wp2
   go_ret
   exact ⟨by rw [H.out]; simp, rfl⟩
  ·
   have H : Hid (isSize k = false) := isSize_not k (by omega)
   go_enter Tryz.func83, Tryz.ntmps83
   go_wp2
   go_ret
   exact ⟨by rw [H.out]; simp, rfl⟩
 ·
  have H : Hid (isSize k = false) := isSize_not k (by omega)
  go_enter Tryz.func83, Tryz.ntmps83
  go_wp2
  go_ret
  exact ⟨by rw [H.out]; simp, rfl⟩

def num (n : Int) : Nat → List Int
 | 0 => []
 | j + 1 => n / 2 ^ (8 * j) % 256 :: num n j
theorem num_length (n : Int) (k : Nat) : (num n k).length = k := by induction k with
 | zero => rfl
 | succ j ih => simp [num, ih]
theorem num_bytes (n : Int) (k : Nat) : Bytes (num n k) := by
 induction k with
 | zero => intro z hz; cases hz
 | succ j ih =>
  intro z hz
  simp only [num, List.mem_cons] at hz
  rcases hz with rfl | hz
  ·
   omega
  ·
   exact ih z hz
theorem num_getD (n : Int) (k j : Nat) (h : j < k) : (num n k).getD j 0 = n / 2 ^ (8 * (k - 1 - j)) % 256 := by
 induction k generalizing j with
 | zero => omega
 | succ i ih =>
  cases j with
  | zero => simp [num]
  | succ j =>
   have := ih j (by omega)
   rw [show i + 1 - 1 - (j + 1) = i - 1 - j by omega]
   simpa [num] using this
theorem num_take (n : Int) (k j : Nat) (h : j < k) : (num n k).take (j + 1) = (num n k).take j ++ [n / 2 ^ (8 * (k - 1 - j)) % 256] := by
 rw [List.take_succ_eq_append_getElem (by rw [num_length]; exact h)]
 have := num_getD n k j h
 simp only [List.getD, List.getElem?_eq_getElem (show j < (num n k).length by rw [num_length]; exact h), Option.getD_some] at this
 rw [this]
def putN (n k : Int) : List Int := if 1 ≤ k ∧ k ≤ 6 then num n k.toNat else []
theorem set_num (n : Int) (k j : Nat) (h : j < k) :
  (List.replicate (k - j) (0 : Int) ++ num n j).set (k - 1 - j) (n / 2 ^ (8 * j) % 256) = List.replicate (k - (j + 1)) 0 ++ num n (j + 1) := by
 rw [show k - j = (k - (j + 1)) + 1 by omega, List.replicate_succ', List.append_assoc, List.set_append, if_neg (by simp; omega), List.length_replicate, show k - 1 - j - (k - (j + 1)) = 0 by omega]
 rfl
theorem div_step (n : Int) (j : Nat) : n / 2 ^ (8 * j) / 256 = n / 2 ^ (8 * (j + 1)) := by
 rw [Int.ediv_ediv_of_nonneg (Int.le_of_lt (Int.pow_pos (by decide))), show (256 : Int) = 2 ^ 8 by decide, ← Int.pow_add]
 congr 2

set_option maxHeartbeats 400000 in
theorem highestFirst (n : Int) (k : Nat) (w : World) (h1 : 1 ≤ k) (h6 : k ≤ 8) :
  Calls Tryz.prog 84 #[.int .i64 n, .int .i64 k] w fun e w' =>
   e = .returned (.slice (some ⟨w.heap.size, 0, none⟩) k k) ∧ Row w' w.heap.size k (num n k) ∧ Below w.heap.size w w' := by
 obtain ⟨i0, hi, hz0, hz1, hz2⟩ := info_parts info8
 go_enter Tryz.func84, Tryz.ntmps84
 go_wp2_with (at_make; refine wpList_make_full _ rfl _ _ 22 rfl w.heap.size 5 i0 (.int .u8 0) 1 Tryz.underlying22 hi hz0 hz1 _ _ _ _ k rfl rfl rfl rfl (by rw [hz2]; omega) (by unfold maxLen; omega) (Nat.le_refl _) ?_; intro w1 hown hgr)
 have hb1 : Below w.heap.size w w1 := (Below.refl _ _).grown hgr (Nat.le_refl _) (fun k h => by cases h)
 have hown1 : w1.ownsRow w.heap.size 5 1 (.slice (some ⟨w.heap.size, 0, none⟩) k k) k ((List.replicate (k - 0) (0 : Int) ++ num n 0).map (Value.int .u8)) := by
  simpa [Value.cells, toList_madeCells_one, num] using hown
 clear hown hgr
 go_loopw [0, 6] (fun c i wr => ∃ j : Nat, j ≤ k ∧ i = .int .i64 ((k : Int) - 1 - j) ∧ c = .int .i64 (n / 2 ^ (8 * j)) ∧ wr.ownsRow w.heap.size 5 1 (.slice (some ⟨w.heap.size, 0, none⟩) k k) k ((List.replicate (k - j) (0 : Int) ++ num n j).map (Value.int .u8)) ∧ Below w.heap.size w wr)
  (fun _ i _ => (intOf i + 1).toNat)
 case atStart => exact ⟨0, Nat.zero_le _, by go_num, by simp, hown1, hb1⟩
 case round =>
  obtain ⟨j, hj, rfl, rfl, ho, hb⟩ := hrel
  clear hown1 hb1
  by_cases hlt : j < k
  ·
   have hst := ho.stored (k - 1 - j) (.int .u8 (n / 2 ^ (8 * j) % 256))
   have hfr := ho.frozenAt (k - 1 - j)
   have hca : ∃ v, wr.cell? ⟨w.heap.size, k - 1 - j, none⟩ = some v := by
    rw [ho.cellAt (k - 1 - j) (by omega)]
    exact ⟨_, List.getElem?_eq_getElem (by simp [num_length]; omega)⟩
   obtain ⟨v0, hca⟩ := hca
   have R1 : Hid ((wr.setCell ⟨w.heap.size, k - 1 - j, none⟩ (.int .u8 (n / 2 ^ (8 * j) % 256))).ownsRow w.heap.size 5 1 (.slice (some ⟨w.heap.size, 0, none⟩) k k) k ((List.replicate (k - (j + 1)) (0 : Int) ++ num n (j + 1)).map (Value.int .u8))) := by
    have := hst.1
    rw [← List.map_set, set_num n k j hlt] at this
    exact this
   have R2 : Hid (Below w.heap.size w (wr.setCell ⟨w.heap.size, k - 1 - j, none⟩ (.int .u8 (n / 2 ^ (8 * j) % 256)))) := hb.setCell (Nat.le_refl _) _
   have R3 : Hid (n / 2 ^ (8 * j) / 256 = n / 2 ^ (8 * (j + 1))) := div_step n j
   obtain ⟨q, hq⟩ : ∃ q : Nat, (q : Int) = (k : Int) - 1 - j := ⟨k - 1 - j, by omega⟩
   have hq' : k - 1 - j = q := by omega
   rw [hq'] at hfr hca R1 R2
   rw [← hq]
   have HQ : Hid ((q : Int) = (k : Int) - 1 - j) := hq
   have hqk : q < k := by omega
   clear hst ho hb hq hq'
   generalize n / 2 ^ (8 * j) = c at *
   go_wp2
   go_roundw
   case rel => exact ⟨j + 1, by omega, by have := HQ.out; go_num, by rw [← R3.out], R1.out, R2.out⟩
   case measure => simp [intOf]
  ·
   obtain rfl : j = k := by omega
   have hneg : (j : Int) - 1 - (j : Int) < 0 := by omega
   go_wp2
   go_ret
   rw [Nat.sub_self, List.replicate_zero, List.nil_append] at ho
   exact ⟨rfl, (Row.of ho).1, hb⟩

set_option maxHeartbeats 400000 in
theorem implPutN (a : Option Addr) (nl ca : Nat) (l : List Int) (n k : Int) (w : World) (hn : nl = l.length) (hr : Rd w a l) (na : a = none → ca = 0) (ll : l.length ≤ 2097152) :
  Calls Tryz.prog 71 #[.slice a nl ca, .int .i64 n, .int .i64 k] w fun e w' =>
   ∃ g m cap, e = .returned (.slice (some ⟨g, 0, none⟩) m cap) ∧ m = (l ++ putN n k).length ∧ w.heap.size ≤ g ∧ Row w' g cap (l ++ putN n k) ∧ Below w.heap.size w w' := by
 subst hn
 have HR := hid (hr)
 clear hr
 by_cases hk : 1 ≤ k ∧ k ≤ 6
 ·
  obtain ⟨K, rfl⟩ := Int.eq_ofNat_of_zero_le (show 0 ≤ k by omega)
  have hs : isSize (K : Int) = true := (isSize_iff _).2 hk
  have HP : Hid (putN n (K : Int) = num n K) := by show putN n (K : Int) = num n K; unfold putN; rw [if_pos hk, Int.toNat_natCast]
  have hk1 : 1 ≤ K := by omega
  have hk2 : K ≤ 6 := by omega
  clear hk
  go_enter Tryz.func71, Tryz.ntmps71
  go_wp2_with fail
  refine (isNumberSize _ _).mono ?_
  rintro e w1 ⟨rfl, rfl⟩
  go_wp2_with fail
  refine (highestFirst n K _ hk1 (by omega)).mono ?_
  rintro e w1 ⟨rfl, h1, h2⟩
  go_wp2_with fail
  have HN : Hid ((num n K).length = K) := num_length n K
  refine (putBytes a _ _ ca K K l (num n K) w1 rfl HN.out.symm (HR.out.later h2 (Nat.le_refl _)) h1.rd na (by intro h; cases h) (by omega) (by rw [HN.out]; omega)).mono ?_
  rintro e w2 ⟨rfl, h3, h4⟩
  have hz := h2.size
  go_wp2
  go_ret
  exact ⟨w1.heap.size, _, _, rfl, by rw [HP.out, List.length_append, HN.out], hz, by rw [HP.out]; exact h3, h2.trans (h4.mono hz)⟩
 ·
  have hs : isSize k = false := isSize_not k hk
  have HP : Hid (putN n k = []) := by show putN n k = []; unfold putN; rw [if_neg hk]
  clear hk
  go_enter Tryz.func71, Tryz.ntmps71
  go_wp2_with fail
  refine (isNumberSize _ _).mono ?_
  rintro e w1 ⟨rfl, rfl⟩
  go_wp2_with fail
  refine (putBytes a none _ ca 0 0 l [] w rfl rfl HR.out (by intro i hi; cases hi) na (fun _ => rfl) (by omega) (by simp)).mono ?_
  rintro e w2 ⟨rfl, h3, h4⟩
  go_wp2
  go_ret
  exact ⟨w.heap.size, _, _, rfl, by rw [HP.out, List.append_nil], Nat.le_refl _, by rw [HP.out]; exact h3, h4⟩

set_option maxHeartbeats 800000 in
theorem specPutN (a : Option Addr) (nl ca : Nat) (l : List Int) (n k : Int) (w : World) (hn : nl = l.length) (hr : Rd w a l) (na : a = none → ca = 0) (ll : l.length ≤ 2097152) :
  Calls Tryz.prog 77 #[.slice a nl ca, .int .i64 n, .int .i64 k] w fun e w' =>
   ∃ g m cap, e = .returned (.slice (some ⟨g, 0, none⟩) m cap) ∧ m = (l ++ putN n k).length ∧ w.heap.size ≤ g ∧ Row w' g cap (l ++ putN n k) ∧ Below w.heap.size w w' := by
 subst hn
 have HR := hid (hr)
 clear hr
 have ha1 : Below w.heap.size w (w.alloc (.cells #[] 5)) := (Below.refl _ _).alloc (Nat.le_refl _) _
 have HA := hid (ha1)
 clear ha1
 by_cases hk : 1 ≤ k ∧ k ≤ 6
 ·
  obtain ⟨K, rfl⟩ := Int.eq_ofNat_of_zero_le (show 0 ≤ k by omega)
  have HP : Hid (putN n (K : Int) = num n K) := by show putN n (K : Int) = num n K; unfold putN; rw [if_pos hk, Int.toNat_natCast]
  have hk1 : 1 ≤ K := by omega
  have hk2 : K ≤ 6 := by omega
  clear hk
  go_enter Tryz.func77, Tryz.ntmps77
  go_wp2_with (at_builtin; refine wpList_app _ rfl _ _ rfl w.heap.size w.heap.size 0 0 [] l rfl rfl (row_new w [] (by simp)) (Nat.le_refl _) a l.length ca rfl rfl (HR.out.later HA.out (Nat.le_refl _)) na (by simp; omega) ?_; intro g1 c1 w1 r1 b1 l1 gr1; have R1 := hid (r1); have B1 : Hid (Below w.heap.size w w1) := HA.out.grown gr1 HA.out.size (fun k h => by cases h; exact Nat.le_refl _); clear r1 gr1 l1)
  go_loopw [7, 8] (fun v i wr => ∃ (j g c : Nat), j ≤ K ∧ i = .int .i64 ((K : Int) - 1 - j) ∧ v = .slice (some ⟨g, 0, none⟩) (l.length + j) c ∧ w.heap.size ≤ g ∧ Row wr g c (l ++ (num n K).take j) ∧ Below w.heap.size w wr)
   (fun _ i _ => (intOf i + 1).toNat)
  case atStart => exact ⟨0, g1, c1, Nat.zero_le _, by go_num, by simp, b1, by simpa using R1.out, B1.out⟩
  case round =>
   obtain ⟨j, g, c, hj, rfl, rfl, hg, hrow, hb⟩ := hrel
   clear HA R1 B1 HR
   by_cases hlt : j < K
   ·
    obtain ⟨q, hq⟩ : ∃ q : Nat, (q : Int) = (K : Int) - 1 - j := ⟨K - 1 - j, by omega⟩
    have hq' : K - 1 - j = q := by omega
    have HT : Hid ((num n K).take (j + 1) = (num n K).take j ++ [n / 2 ^ (8 * q) % 256]) := by have := num_take n K j hlt; rw [hq'] at this; exact this
    have HN : Hid (((num n K).take j).length = j) := by show _ = _; rw [List.length_take, num_length]; omega
    rw [← hq]
    have HQ : Hid ((q : Int) = (K : Int) - 1 - j) := hq
    have hq5 : q ≤ 5 := by omega
    have hm := Bits.mask8 (n / 2 ^ (8 * q))
    have HRow := hid (hrow)
    have HB := hid (hb)
    have HL : Hid (l.length + j = (l ++ (num n K).take j).length) := by show _ = _; rw [List.length_append, HN.out]
    clear hq hq' hrow hb
    go_wp2_with (at_builtin; refine wpList_app _ rfl (.tmp 25) (.tmp 32) rfl w.heap.size g (l.length + j) c (l ++ (num n K).take j) [n / 2 ^ (8 * q) % 256] rfl HL.out (row_alloc HRow.out _) hg (some ⟨wr.heap.size, 0, none⟩) 1 1 rfl rfl (rd_one _ _) (by intro h; cases h) (by rw [← HL.out]; simp; omega) ?_; intro g2 c2 w2 r2 b2 l2 gr2; have R2 := hid (r2); have B2 : Hid (Below w.heap.size w w2) := (HB.out.alloc HB.out.size _).grown gr2 (Nat.le_trans HB.out.size (by simp)) (fun k h => by cases h; exact hg); clear r2 gr2 l2)
    go_roundw
    case rel => exact ⟨j + 1, g2, c2, by omega, by have := HQ.out; go_num, by simp [Nat.add_assoc], b2, by rw [HT.out, ← List.append_assoc]; exact R2.out, B2.out⟩
    case measure => simp [intOf]
   ·
    obtain rfl : j = K := by omega
    have hneg : (j : Int) - 1 - (j : Int) < 0 := by omega
    have HN : Hid ((num n j).take j = num n j) := List.take_of_length_le (by rw [num_length]; exact Nat.le_refl _)
    go_wp2
    go_ret
    exact ⟨g, _, c, rfl, by rw [HP.out, List.length_append, num_length], hg, by rw [HP.out]; rw [HN.out] at hrow; exact hrow, hb⟩
 ·
  have HP : Hid (putN n k = []) := by show putN n k = []; unfold putN; rw [if_neg hk]
  rcases (show k < 1 ∨ 6 < k by omega) with hk' | hk'
  all_goals
   go_enter Tryz.func77, Tryz.ntmps77
   go_wp2_with (at_builtin; refine wpList_app _ rfl _ _ rfl w.heap.size w.heap.size 0 0 [] l rfl rfl (row_new w [] (by simp)) (Nat.le_refl _) a l.length ca rfl rfl (HR.out.later HA.out (Nat.le_refl _)) na (by simp; omega) ?_; intro g1 c1 w1 r1 b1 l1 gr1; have R1 := hid (r1); have B1 : Hid (Below w.heap.size w w1) := HA.out.grown gr1 HA.out.size (fun k h => by cases h; exact Nat.le_refl _); clear r1 gr1 l1)
   go_ret
   exact ⟨_, _, _, rfl, by rw [HP.out, List.append_nil], b1, by rw [HP.out]; simpa using R1.out, B1.out⟩
end Go.Proofs.YtpenhliaelhnoaaGreatDoor.App

namespace Go.Proofs.YtpenhliaelhnoaaGreatDoor.Get
open Go.RowKit Mem App

def val (l : List Int) : Int := l.foldl (fun n z => n * 256 + z) 0
theorem val_snoc (l : List Int) (z : Int) : val (l ++ [z]) = val l * 256 + z := by simp [val]
theorem fold_bd (l : List Int) (h : Bytes l) : ∀ acc : Int, 0 ≤ acc → 0 ≤ l.foldl (fun n z => n * 256 + z) acc ∧ l.foldl (fun n z => n * 256 + z) acc < (acc + 1) * 256 ^ l.length := by
 induction l with
 | nil => intro acc h0; simp; omega
 | cons z r ih =>
  intro acc h0
  have hz := h z (by simp)
  have hr := ih (fun x hx => h x (by simp [hx])) (acc * 256 + z) (by omega)
  refine ⟨hr.1, Int.lt_of_lt_of_le hr.2 ?_⟩
  rw [List.length_cons, Int.pow_succ, Int.mul_comm (256 ^ r.length) 256, ← Int.mul_assoc]
  exact Int.mul_le_mul_of_nonneg_right (by omega) (Int.le_of_lt (Int.pow_pos (by decide)))
theorem val_bd (l : List Int) (h : Bytes l) : 0 ≤ val l ∧ val l < 256 ^ l.length := by
 have := fold_bd l h 0 (by omega)
 unfold val
 simpa using this

def piece (l : List Int) (i k : Nat) : List Int := (l.drop i).take k
theorem piece_succ (l : List Int) (i k : Nat) (h : i + k < l.length) : piece l i (k + 1) = piece l i k ++ [l.getD (i + k) 0] := by
 unfold piece
 rw [List.take_succ_eq_append_getElem (by rw [List.length_drop]; omega)]
 simp [List.getD, h]
theorem piece_bytes {l : List Int} (h : Bytes l) (i k : Nat) : Bytes (piece l i k) := fun z hz => h z (List.mem_of_mem_drop (List.mem_of_mem_take hz))
theorem piece_length (l : List Int) (i k : Nat) (h : i + k ≤ l.length) : (piece l i k).length = k := by
 unfold piece; rw [List.length_take, List.length_drop]; omega
theorem val_piece5 (l : List Int) (i k : Nat) (hb : Bytes l) (h : i + k ≤ l.length) (hk : k ≤ 5) : 0 ≤ val (piece l i k) ∧ val (piece l i k) < 1099511627776 := by
 have := val_bd _ (piece_bytes hb i k)
 rw [piece_length l i k h] at this
 refine ⟨this.1, Int.lt_of_lt_of_le this.2 ?_⟩
 have h2 : (256 : Int) ^ k ≤ 256 ^ 5 := by
  rcases (show k = 0 ∨ k = 1 ∨ k = 2 ∨ k = 3 ∨ k = 4 ∨ k = 5 by omega) with rfl | rfl | rfl | rfl | rfl | rfl <;> decide
 have e : (256 : Int) ^ 5 = 1099511627776 := by decide
 omega
theorem or_step (n z : Int) (h0 : 0 ≤ n) (h1 : n < 1099511627776) (h2 : 0 ≤ z) (h3 : z ≤ 255) : bits .or .i64 (n * 256) z = n * 256 + z := by
 obtain ⟨N, rfl⟩ := Int.eq_ofNat_of_zero_le h0
 obtain ⟨Z, rfl⟩ := Int.eq_ofNat_of_zero_le h2
 have := Bits.or_i64 (N * 256) Z (by omega) (by omega)
 rw [nat_join 8 (N * 256) Z (by omega) (by omega)] at this
 rw [show (N : Int) * 256 = ((N * 256 : Nat) : Int) by omega, this]
 omega

def there (len : Nat) (i k : Int) : Bool := decide (0 ≤ i ∧ 0 ≤ k ∧ k ≤ (len : Int) - i)
theorem there_yes {len : Nat} {i k : Int} (h : 0 ≤ i ∧ 0 ≤ k ∧ k ≤ (len : Int) - i) : there len i k = true := by simpa [there] using h
theorem there_no {len : Nat} {i k : Int} (h : ¬ (0 ≤ i ∧ 0 ≤ k ∧ k ≤ (len : Int) - i)) : there len i k = false := by
 unfold there; exact decide_eq_false h

theorem allThere (a : Option Addr) (len cap : Nat) (i k : Int) (w : World) (hl : len ≤ 4194304) (hi : i ≤ 9223372036854775807) :
  Calls Tryz.prog 85 #[.slice a len cap, .int .i64 i, .int .i64 k] w fun e w' => e = .returned (.bool (there len i k)) ∧ w = w' := by
 by_cases h1 : 0 ≤ i
 ·
  by_cases h2 : 0 ≤ k
  ·
   by_cases h3 : k ≤ (len : Int) - i
   ·
    have H : Hid (there len i k = true) := there_yes ⟨h1, h2, h3⟩
    go_enter Tryz.func85, Tryz.ntmps85
    go_wp2
    go_ret
    exact ⟨by rw [H.out]; simp, rfl⟩
   ·
    have H : Hid (there len i k = false) := there_no (by omega)
    go_enter Tryz.func85, Tryz.ntmps85
    go_wp2
    go_ret
    exact ⟨by rw [H.out]; simp, rfl⟩
  ·
   have H : Hid (there len i k = false) := there_no (by omega)
   go_enter Tryz.func85, Tryz.ntmps85
   go_wp2
   go_ret
   exact ⟨by rw [H.out]; simp, rfl⟩
 ·
  have H : Hid (there len i k = false) := there_no (by omega)
  go_enter Tryz.func85, Tryz.ntmps85
  go_wp2
  go_ret
  exact ⟨by rw [H.out]; simp, rfl⟩

def gotN (l : List Int) (i k : Int) : Value :=
 if isSize k = true ∧ there l.length i k = true then .tuple #[.int .i64 (val (piece l i.toNat k.toNat)), .int .i64 (i + k), .bool true] else .tuple #[.int .i64 0, .int .i64 0, .bool false]

set_option maxHeartbeats 800000 in
theorem implGetN (a : Option Addr) (len cap : Nat) (l : List Int) (i k : Int) (w : World) (hl : len = l.length) (hr : Rd w a l) (hb : Bytes l) (hlc : len ≤ cap) (hlen : len ≤ 4194304) (hi : i ≤ 9223372036854775807) :
  Calls Tryz.prog 115 #[.slice a len cap, .int .i64 i, .int .i64 k] w fun e w' => e = .returned (gotN l i k) ∧ w = w' := by
 have HR := hid (hr)
 have HB := hid (hb)
 have HL : Hid (len = l.length) := hl
 clear hr hb hl
 by_cases hs : isSize k = true
 ·
  by_cases ht : there len i k = true
  ·
   have HG : Hid (gotN l i k = .tuple #[.int .i64 (val (piece l i.toNat k.toNat)), .int .i64 (i + k), .bool true]) := by
    show gotN l i k = _
    unfold gotN; rw [if_pos ⟨hs, by rw [← HL.out]; exact ht⟩]
   have hk := (isSize_iff k).1 hs
   have ht' : 0 ≤ i ∧ 0 ≤ k ∧ k ≤ (len : Int) - i := by simpa [there] using ht
   obtain ⟨I, rfl⟩ := Int.eq_ofNat_of_zero_le ht'.1
   obtain ⟨K, rfl⟩ := Int.eq_ofNat_of_zero_le ht'.2.1
   rw [Int.toNat_natCast, Int.toNat_natCast] at HG
   have k1 : 1 ≤ K := by omega
   have k2 : K ≤ 6 := by omega
   have k3 : I + K ≤ len := by omega
   obtain ⟨b, off, rfl, _, _⟩ := HR.out I (by have := HL.out; omega)
   clear hk ht'
   go_enter Tryz.func115, Tryz.ntmps115
   go_wp2_with fail
   refine (isNumberSize _ _).mono ?_
   rintro e w1 ⟨rfl, rfl⟩
   go_wp2_with fail
   refine (allThere _ len cap _ _ _ hlen hi).mono ?_
   rintro e w1 ⟨rfl, rfl⟩
   go_wp2_with fail
   go_loop [9, 29] (fun n j => ∃ q : Nat, q ≤ K ∧ j = .int .i64 q ∧ n = .int .i64 (val (piece l I q))) (fun _ j => K - (intOf j).toNat)
   case atStart => exact ⟨0, Nat.zero_le _, rfl, rfl⟩
   case round =>
    obtain ⟨q, hq, rfl, rfl⟩ := hrel
    by_cases hlt : q < K
    ·
     obtain ⟨b', off', e, _, hc⟩ := HR.out (I + q) (by have := HL.out; omega)
     simp only [Option.some.injEq, Addr.mk.injEq, and_true] at e
     obtain ⟨rfl, rfl⟩ := e
     have hv := val_piece5 l I q HB.out (by have := HL.out; omega) (by omega)
     have hz := HB.out.at (I + q)
     have ho := or_step (val (piece l I q)) (l.getD (I + q) 0) hv.1 hv.2 hz.1 hz.2
     have HS : Hid (val (piece l I (q + 1)) = val (piece l I q) * 256 + l.getD (I + q) 0) := by
      show _ = _
      rw [piece_succ l I q (by have := HL.out; omega), val_snoc]
     generalize l.getD (I + q) 0 = z at *
     generalize val (piece l I q) = n at *
     obtain ⟨hv1, hv2⟩ := hv
     obtain ⟨hz1, hz2⟩ := hz
     rw [← Nat.add_assoc] at hc
     go_wp2
     go_round
     case rel => exact ⟨q + 1, by omega, by go_num, by rw [HS.out]⟩
     case measure => simp [intOf]; omega
    ·
     obtain rfl : q = K := by omega
     go_wp2
     go_ret3
     exact ⟨by rw [HG.out]; rfl, rfl⟩
  ·
   have ht' : there len i k = false := by simpa using ht
   have HG : Hid (gotN l i k = .tuple #[.int .i64 0, .int .i64 0, .bool false]) := by
    show gotN l i k = _
    unfold gotN; rw [if_neg (by rw [← HL.out, ht']; simp)]
   clear ht
   go_enter Tryz.func115, Tryz.ntmps115
   go_wp2_with fail
   refine (isNumberSize _ _).mono ?_
   rintro e w1 ⟨rfl, rfl⟩
   go_wp2_with fail
   refine (allThere _ len cap _ _ _ hlen hi).mono ?_
   rintro e w1 ⟨rfl, rfl⟩
   go_wp2
   go_ret3
   exact ⟨by rw [HG.out]; rfl, rfl⟩
 ·
  have hs' : isSize k = false := by simpa using hs
  have HG : Hid (gotN l i k = .tuple #[.int .i64 0, .int .i64 0, .bool false]) := by
   show gotN l i k = _
   unfold gotN; rw [if_neg (by rw [hs']; simp)]
  clear hs
  go_enter Tryz.func115, Tryz.ntmps115
  go_wp2_with fail
  refine (isNumberSize _ _).mono ?_
  rintro e w1 ⟨rfl, rfl⟩
  go_wp2
  go_ret3
  exact ⟨by rw [HG.out]; rfl, rfl⟩

set_option maxHeartbeats 800000 in
theorem specGetN (a : Option Addr) (len cap : Nat) (l : List Int) (i k : Int) (w : World) (hl : len = l.length) (hr : Rd w a l) (hb : Bytes l) (hlen : len ≤ 4194304) :
  Calls Tryz.prog 114 #[.slice a len cap, .int .i64 i, .int .i64 k] w fun e w' => e = .returned (gotN l i k) ∧ w = w' := by
 have HR := hid (hr)
 have HB := hid (hb)
 have HL : Hid (len = l.length) := hl
 clear hr hb hl
 by_cases hk : 1 ≤ k ∧ k ≤ 6
 ·
  obtain ⟨k1, k2⟩ := hk
  by_cases hi : 0 ≤ i
  ·
   by_cases ht : i ≤ (len : Int) - k
   ·
    have HG : Hid (gotN l i k = .tuple #[.int .i64 (val (piece l i.toNat k.toNat)), .int .i64 (i + k), .bool true]) := by
     show gotN l i k = _
     unfold gotN; rw [if_pos ⟨(isSize_iff k).2 ⟨k1, k2⟩, there_yes (by rw [← HL.out]; omega)⟩]
    obtain ⟨I, rfl⟩ := Int.eq_ofNat_of_zero_le hi
    obtain ⟨K, rfl⟩ := Int.eq_ofNat_of_zero_le (show 0 ≤ k by omega)
    rw [Int.toNat_natCast, Int.toNat_natCast] at HG
    obtain ⟨b, off, rfl, _, _⟩ := HR.out I (by have := HL.out; omega)
    go_enter Tryz.func114, Tryz.ntmps114
    go_wp2_with fail
    go_loop [9, 10] (fun n j => ∃ q : Nat, q ≤ K ∧ j = .int .i64 q ∧ n = .int .i64 (val (piece l I q))) (fun _ j => K - (intOf j).toNat)
    case atStart => exact ⟨0, Nat.zero_le _, rfl, rfl⟩
    case round =>
     obtain ⟨q, hq, rfl, rfl⟩ := hrel
     by_cases hlt : q < K
     ·
      obtain ⟨b', off', e, _, hc⟩ := HR.out (I + q) (by have := HL.out; omega)
      simp only [Option.some.injEq, Addr.mk.injEq, and_true] at e
      obtain ⟨rfl, rfl⟩ := e
      have hv := val_piece5 l I q HB.out (by have := HL.out; omega) (by omega)
      have hz := HB.out.at (I + q)
      have HS : Hid (val (piece l I (q + 1)) = val (piece l I q) * 256 + l.getD (I + q) 0) := by
       show _ = _
       rw [piece_succ l I q (by have := HL.out; omega), val_snoc]
      generalize l.getD (I + q) 0 = z at *
      generalize val (piece l I q) = n at *
      obtain ⟨hv1, hv2⟩ := hv
      obtain ⟨hz1, hz2⟩ := hz
      have hil : ((I + q : Nat) : Int) < (len : Int) := by omega
      go_wp2
      go_round
      case rel => exact ⟨q + 1, by omega, by go_num, by rw [HS.out]⟩
      case measure => simp [intOf]; omega
     ·
      obtain rfl : q = K := by omega
      go_wp2
      go_ret3
      exact ⟨by rw [HG.out]; rfl, rfl⟩
   ·
    have HG : Hid (gotN l i k = .tuple #[.int .i64 0, .int .i64 0, .bool false]) := by
     show gotN l i k = _
     unfold gotN; rw [if_neg (by rw [there_no (by rw [← HL.out]; omega)]; simp)]
    go_enter Tryz.func114, Tryz.ntmps114
    go_wp2
    go_ret3
    exact ⟨by rw [HG.out]; rfl, rfl⟩
  ·
   have HG : Hid (gotN l i k = .tuple #[.int .i64 0, .int .i64 0, .bool false]) := by
    show gotN l i k = _
    unfold gotN; rw [if_neg (by rw [there_no (by omega)]; simp)]
   go_enter Tryz.func114, Tryz.ntmps114
   go_wp2
   go_ret3
   exact ⟨by rw [HG.out]; rfl, rfl⟩
 ·
  have HG : Hid (gotN l i k = .tuple #[.int .i64 0, .int .i64 0, .bool false]) := by
   show gotN l i k = _
   unfold gotN; rw [if_neg (by rw [isSize_not k hk]; simp)]
  rcases (show k < 1 ∨ 6 < k by omega) with hk' | hk'
  all_goals
   go_enter Tryz.func114, Tryz.ntmps114
   go_wp2
   go_ret3
   exact ⟨by rw [HG.out]; rfl, rfl⟩
end Go.Proofs.YtpenhliaelhnoaaGreatDoor.Get

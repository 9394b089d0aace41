/-
  The sum of 256 bits as plain functions of lists of numbers, and plain facts on them: every word stays a word, what is added in parts is what is added as a whole. No condition beyond those that each lemma names.
  Slices of ints as rows of numbers, and what the laws' own four helpers on them do: copy, compare, mark, and look for imarks. Each contract asks that the slice is read as the list that it names, and a length of at most 4,194,304.
  Blocks of the call's own whose cells are known one by one (arrays, structs), and appending to a row of ints that the call itself made.
  What impl's and spec's Pad answer at every int: the same bytes, in new memory.
  What impl's and spec's Rot and Add32 answer at every two ints: the same number; nothing in memory turns.
-/
import Derived.Test.YtpenhliaelhnoaaGreatDoorVaGz1
import Derived.Laws.Rows
import Derived.Laws.Tables
import Derived.Deep.WholeRow
import Derived.Great.BuildSlice
import Derived.Test.YtpenhliaelhnoaaGreatDoorProg
import Derived.WalkLawsBesides
import Derived.Deep.QuietTactic
import Derived.BigQuiet
set_option linter.unusedVariables false
set_option maxRecDepth 100000
namespace Go.Proofs.YtpenhliaelhnoaaGreatDoor.ShaP
open Go.RowKit Mem App Get Bits

def Wd (x : Int) : Prop := 0 ≤ x ∧ x ≤ 4294967295
theorem wd_mod (x : Int) : Wd (x % 4294967296) := by unfold Wd; omega
theorem wd_rot (x n : Int) : Wd (rot x n) := rot_bd x n

theorem wd_xor {a b : Int} (ha : Wd a) (hb : Wd b) : Wd (bits .xor .i64 a b) := by
 obtain ⟨A, rfl⟩ := Int.eq_ofNat_of_zero_le ha.1
 obtain ⟨B, rfl⟩ := Int.eq_ofNat_of_zero_le hb.1
 have h1 := ha.2
 have h2 := hb.2
 rw [xor_i64 A B (by omega) (by omega)]
 have := Nat.xor_lt_two_pow (x := A) (y := B) (n := 32) (by omega) (by omega)
 unfold Wd; omega
theorem wd_and {a b : Int} (ha : Wd a) (hb : Wd b) : Wd (bits .and .i64 a b) := by
 obtain ⟨A, rfl⟩ := Int.eq_ofNat_of_zero_le ha.1
 obtain ⟨B, rfl⟩ := Int.eq_ofNat_of_zero_le hb.1
 have h1 := ha.2
 have h2 := hb.2
 rw [and_i64 A B (by omega) (by omega)]
 have : A &&& B ≤ A := Nat.and_le_left
 unfold Wd; omega

def xor3 (a b c : Int) : Int := bits .xor .i64 (bits .xor .i64 a b) c
theorem wd_xor3 {a b c : Int} (ha : Wd a) (hb : Wd b) (hc : Wd c) : Wd (xor3 a b c) := wd_xor (wd_xor ha hb) hc

def s0 (x : Int) : Int := xor3 (rot x 7) (rot x 18) (x / 8)
def s1 (x : Int) : Int := xor3 (rot x 17) (rot x 19) (x / 1024)
theorem wd_s0 {x : Int} (h : Wd x) : Wd (s0 x) := wd_xor3 (wd_rot _ _) (wd_rot _ _) (by unfold Wd at *; omega)
theorem wd_s1 {x : Int} (h : Wd x) : Wd (s1 x) := wd_xor3 (wd_rot _ _) (wd_rot _ _) (by unfold Wd at *; omega)

def Wds (l : List Int) : Prop := ∀ z ∈ l, Wd z
theorem Wds.at {l : List Int} (h : Wds l) (i : Nat) : Wd (l.getD i 0) := by
 by_cases hi : i < l.length
 ·
  simpa [List.getD, hi] using h _ (List.getElem_mem hi)
 ·
  simp [List.getD, List.getElem?_eq_none (Nat.le_of_not_lt hi), Wd]
theorem Wds.snoc {l : List Int} {z : Int} (h : Wds l) (hz : Wd z) : Wds (l ++ [z]) := by
 intro y hy
 rcases List.mem_append.1 hy with hy | hy
 ·
  exact h y hy
 ·
  simp at hy; subst hy; exact hz

def first (b : List Int) (j : Nat) : List Int := (List.range j).map fun i => val (piece b (4 * i) 4)
theorem first_length (b : List Int) (j : Nat) : (first b j).length = j := by simp [first]
theorem first_succ (b : List Int) (j : Nat) : first b (j + 1) = first b j ++ [val (piece b (4 * j) 4)] := by simp [first, List.range_succ]
theorem val4 (b : List Int) (j : Nat) (hb : Bytes b) : Wd (val (piece b j 4)) := by
 have := val_bd _ (piece_bytes hb j 4)
 have h2 : (piece b j 4).length ≤ 4 := by unfold piece; rw [List.length_take]; omega
 have h3 : (256 : Int) ^ (piece b j 4).length ≤ 256 ^ 4 := by
  rcases (show (piece b j 4).length = 0 ∨ (piece b j 4).length = 1 ∨ (piece b j 4).length = 2 ∨ (piece b j 4).length = 3 ∨ (piece b j 4).length = 4 by omega) with h | h | h | h | h <;> rw [h] <;> decide
 have e : (256 : Int) ^ 4 = 4294967296 := by decide
 unfold Wd; omega
theorem first_wds (b : List Int) (j : Nat) (hb : Bytes b) : Wds (first b j) := by
 intro z hz
 simp only [first, List.mem_map] at hz
 obtain ⟨i, _, rfl⟩ := hz
 exact val4 b _ hb

def nextW (W : List Int) (n : Nat) : Int := (W.getD (n - 7) 0 + W.getD (n - 16) 0 + s0 (W.getD (n - 15) 0) + s1 (W.getD (n - 2) 0)) % 4294967296
def more (W : List Int) : Nat → List Int
 | 0 => W
 | n + 1 => more W n ++ [nextW (more W n) (16 + n)]
theorem more_length (W : List Int) (n : Nat) : (more W n).length = W.length + n := by
 induction n with
 | zero => rfl
 | succ n ih => simp [more, ih]; omega
theorem more_wds (W : List Int) (n : Nat) (h : Wds W) : Wds (more W n) := by
 induction n with
 | zero => exact h
 | succ n ih => exact ih.snoc (wd_mod _)
def sched (b : List Int) : List Int := more (first b 16) 48
theorem sched_length (b : List Int) : (sched b).length = 64 := by simp [sched, more_length, first_length]
theorem sched_wds (b : List Int) (hb : Bytes b) : Wds (sched b) := more_wds _ _ (first_wds b 16 hb)
def kk : List Int := [1116352408, 1899447441, 3049323471, 3921009573, 961987163, 1508970993, 2453635748, 2870763221, 3624381080, 310598401, 607225278, 1426881987, 1925078388, 2162078206, 2614888103, 3248222580, 3835390401, 4022224774, 264347078, 604807628, 770255983, 1249150122, 1555081692, 1996064986, 2554220882, 2821834349, 2952996808, 3210313671, 3336571891, 3584528711, 113926993, 338241895, 666307205, 773529912, 1294757372, 1396182291, 1695183700, 1986661051, 2177026350, 2456956037, 2730485921, 2820302411, 3259730800, 3345764771, 3516065817, 3600352804, 4094571909, 275423344, 430227734, 506948616, 659060556, 883997877, 958139571, 1322822218, 1537002063, 1747873779, 1955562222, 2024104815, 2227730452, 2361852424, 2428436474, 2756734187, 3204031479, 3329325298]
theorem kk_length : kk.length = 64 := rfl
theorem kk_wds : Wds kk := by intro z hz; simp only [kk, List.mem_cons, List.not_mem_nil, or_false] at hz; unfold Wd; omega
def start8 : List Int := [1779033703, 3144134277, 1013904242, 2773480762, 1359893119, 2600822924, 528734635, 1541459225]
theorem start8_wds : Wds start8 := by intro z hz; simp only [start8, List.mem_cons, List.not_mem_nil, or_false] at hz; unfold Wd; omega

structure St where
 a : Int
 b : Int
 c : Int
 d : Int
 e : Int
 f : Int
 g : Int
 h : Int
def St.ok (s : St) : Prop := Wd s.a ∧ Wd s.b ∧ Wd s.c ∧ Wd s.d ∧ Wd s.e ∧ Wd s.f ∧ Wd s.g ∧ Wd s.h
def big1 (e : Int) : Int := xor3 (rot e 6) (rot e 11) (rot e 25)
def big0 (a : Int) : Int := xor3 (rot a 2) (rot a 13) (rot a 22)
def cho (e f g : Int) : Int := bits .xor .i64 (bits .and .i64 e f) (bits .and .i64 (bits .xor .i64 e 4294967295) g)
def maj (a b c : Int) : Int := xor3 (bits .and .i64 a b) (bits .and .i64 a c) (bits .and .i64 b c)
def tOf (k w : Int) (s : St) : Int := s.h + big1 s.e + cho s.e s.f s.g + k + w
def uOf (s : St) : Int := big0 s.a + maj s.a s.b s.c
def rnd (k w : Int) (s : St) : St := ⟨(tOf k w s + uOf s) % 4294967296, s.a, s.b, s.c, (s.d + tOf k w s) % 4294967296, s.e, s.f, s.g⟩
theorem rnd_ok (k w : Int) (s : St) (h : s.ok) : (rnd k w s).ok := by
 obtain ⟨a, b, c, d, e, f, g, _⟩ := h
 exact ⟨wd_mod _, a, b, c, wd_mod _, e, f, g⟩
theorem wd_big1 (e : Int) : Wd (big1 e) := wd_xor3 (wd_rot _ _) (wd_rot _ _) (wd_rot _ _)
theorem wd_big0 (e : Int) : Wd (big0 e) := wd_xor3 (wd_rot _ _) (wd_rot _ _) (wd_rot _ _)
theorem wd_cho {e f g : Int} (he : Wd e) (hf : Wd f) (hg : Wd g) : Wd (cho e f g) := wd_xor (wd_and he hf) (wd_and (wd_xor he (by unfold Wd; omega)) hg)
theorem wd_maj {e f g : Int} (he : Wd e) (hf : Wd f) (hg : Wd g) : Wd (maj e f g) := wd_xor3 (wd_and he hf) (wd_and he hg) (wd_and hf hg)

theorem andNot_word (g e : Int) (hg : Wd g) (he : Wd e) : bits .andNot .i64 g e = bits .and .i64 (bits .xor .i64 e 4294967295) g := by
 obtain ⟨G, rfl⟩ := Int.eq_ofNat_of_zero_le hg.1
 obtain ⟨E, rfl⟩ := Int.eq_ofNat_of_zero_le he.1
 have h1 := hg.2
 have h2 := he.2
 have hx : bits .xor .i64 (E : Int) 4294967295 = ((E ^^^ 4294967295 : Nat) : Int) := xor_i64 E 4294967295 (by omega) (by omega)
 have hxl := Nat.xor_lt_two_pow (x := E) (y := 4294967295) (n := 32) (by omega) (by omega)
 rw [hx, and_i64 _ _ (by omega) (by omega)]
 show IntKind.i64.wrap ((BitVec.ofInt 64 (G : Int) &&& ~~~ BitVec.ofInt 64 (E : Int)).toNat : Int) = _
 have key : (BitVec.ofInt 64 (G : Int) &&& ~~~ BitVec.ofInt 64 (E : Int)).toNat = (E ^^^ 4294967295) &&& G := by
  apply Nat.eq_of_testBit_eq
  intro i
  rw [BitVec.testBit_toNat, BitVec.getLsbD_and, BitVec.getLsbD_not, Nat.testBit_and, Nat.testBit_xor]
  have t1 : (BitVec.ofInt 64 (G : Int)).getLsbD i = G.testBit i := by rw [← BitVec.testBit_toNat, ofInt64_nat G (by omega)]
  have t2 : (BitVec.ofInt 64 (E : Int)).getLsbD i = E.testBit i := by rw [← BitVec.testBit_toNat, ofInt64_nat E (by omega)]
  rw [t1, t2]
  by_cases hi : i < 32
  ·
   have t3 : Nat.testBit 4294967295 i = true := by
    rw [show 4294967295 = 2 ^ 32 - 1 by decide, Nat.testBit_two_pow_sub_one]; simpa using hi
   have hi2 : i < 64 := by omega
   rw [t3]
   cases G.testBit i <;> cases E.testBit i <;> simp [hi2]
  ·
   have t4 : G.testBit i = false := Nat.testBit_lt_two_pow (Nat.lt_of_lt_of_le (show G < 2 ^ 32 by omega) (Nat.pow_le_pow_right (by omega) (by omega)))
   rw [t4]; simp
 rw [key]
 exact wrap_i64_nat _ (Nat.lt_of_le_of_lt Nat.and_le_right (by omega))

def rounds (W : List Int) (s : St) : Nat → St
 | 0 => s
 | n + 1 => rnd (kk.getD n 0) (W.getD n 0) (rounds W s n)
theorem rounds_ok (W : List Int) (s : St) (n : Nat) (h : s.ok) : (rounds W s n).ok := by
 induction n with
 | zero => exact h
 | succ n ih => exact rnd_ok _ _ _ ih
def stOf (h : List Int) : St := ⟨h.getD 0 0, h.getD 1 0, h.getD 2 0, h.getD 3 0, h.getD 4 0, h.getD 5 0, h.getD 6 0, h.getD 7 0⟩
theorem stOf_ok {h : List Int} (hw : Wds h) : (stOf h).ok := ⟨hw.at 0, hw.at 1, hw.at 2, hw.at 3, hw.at 4, hw.at 5, hw.at 6, hw.at 7⟩
def St.list (s : St) : List Int := [s.a, s.b, s.c, s.d, s.e, s.f, s.g, s.h]
def plus (h l : List Int) (i : Nat) : Int := (h.getD i 0 + l.getD i 0) % 4294967296
def comp (h b : List Int) : List Int := (List.range 8).map (plus h (rounds (sched b) (stOf h) 64).list)
theorem comp_length (h b : List Int) : (comp h b).length = 8 := by simp [comp]
theorem comp_wds (h b : List Int) : Wds (comp h b) := by
 intro z hz
 simp only [comp, List.mem_map] at hz
 obtain ⟨i, _, rfl⟩ := hz
 exact wd_mod _
def run (h x : List Int) : Nat → List Int
 | 0 => h
 | n + 1 => comp (run h x n) (piece x (64 * n) 64)
theorem run_length (h x : List Int) (n : Nat) (hh : h.length = 8) : (run h x n).length = 8 := by
 cases n with
 | zero => exact hh
 | succ n => exact comp_length _ _
theorem run_wds (h x : List Int) (n : Nat) (hh : Wds h) : Wds (run h x n) := by
 cases n with
 | zero => exact hh
 | succ n => exact comp_wds _ _
theorem piece_left (x y : List Int) (i k : Nat) (h : i + k ≤ x.length) : piece (x ++ y) i k = piece x i k := by
 unfold piece
 rw [List.drop_append_of_le_length (by omega), List.take_append_of_le_length (by rw [List.length_drop]; omega)]
theorem run_left (h x y : List Int) (n : Nat) (hn : 64 * n ≤ x.length) : run h (x ++ y) n = run h x n := by
 induction n with
 | zero => rfl
 | succ n ih => rw [run, run, ih (by omega), piece_left x y _ _ (by omega)]
theorem run_more (h x : List Int) (q m : Nat) : run h x (q + m) = run (run h x q) (x.drop (64 * q)) m := by
 induction m with
 | zero => rfl
 | succ m ih =>
  rw [← Nat.add_assoc, run, run, ih]
  congr 1
  unfold piece
  rw [List.drop_drop]
  congr 2
  omega
theorem run_parts (h x y : List Int) (q m : Nat) (hq : 64 * q ≤ x.length) : run (run h x q) (x.drop (64 * q) ++ y) m = run h (x ++ y) (q + m) := by
 rw [run_more, run_left h x y q hq, List.drop_append_of_le_length hq]

def padOf (n : Nat) : List Int := 128 :: (List.replicate ((64 - (n + 9) % 64) % 64) 0 ++ num (8 * (n : Int)) 8)
theorem padOf_length (n : Nat) : (padOf n).length = 9 + (64 - (n + 9) % 64) % 64 := by simp [padOf, num_length]; omega
theorem pad_nums (n : Nat) (h : n ≤ 1048576) : num (8 * (n : Int)) 8 = num 0 4 ++ num (8 * (n : Int)) 4 := by
 have e1 : (8 * (n : Int)) / 2 ^ 56 = 0 := by omega
 have e2 : (8 * (n : Int)) / 2 ^ 48 = 0 := by omega
 have e3 : (8 * (n : Int)) / 2 ^ 40 = 0 := by omega
 have e4 : (8 * (n : Int)) / 2 ^ 32 = 0 := by omega
 simp only [num, Nat.reduceMul, List.cons_append, List.nil_append, e1, e2, e3, e4]
 simp
def outB : List Int → List Int
 | [] => []
 | x :: r => num x 4 ++ outB r
theorem outB_length (l : List Int) : (outB l).length = 4 * l.length := by
 induction l with
 | nil => rfl
 | cons x r ih => simp [outB, num_length, ih]; omega
theorem outB_snoc (l : List Int) (z : Int) : outB (l ++ [z]) = outB l ++ num z 4 := by
 induction l with
 | nil => simp [outB]
 | cons x r ih => simp [outB, ih]
def endOf (h held : List Int) (n : Nat) : List Int := outB (run h (held ++ padOf n) ((held ++ padOf n).length / 64))
def shaOf (x : List Int) : List Int := endOf start8 x x.length
end Go.Proofs.YtpenhliaelhnoaaGreatDoor.ShaP

namespace Go.Proofs.YtpenhliaelhnoaaGreatDoor.MemI
open Go.RowKit Mem

theorem info64 : (Tryz.prog.info? 3).map (fun i => (i.zero, i.size, i.bytes)) = some (some (.int .i64 0), 1, 8) := by kernel_rfl

def IRd (w : World) (a : Option Addr) (l : List Int) : Prop :=
 ∀ i, i < l.length → ∃ b off, a = some ⟨b, off, none⟩ ∧ b < w.heap.size ∧ w.cell? ⟨b, off + i, none⟩ = some (.int .i64 (l.getD i 0))

def IRow (w : World) (g cap : Nat) (l : List Int) : Prop :=
 l.length ≤ cap ∧ cap ≤ maxLen ∧ ∃ cur, w.heap[g]? = some (.cells cur 3 (0, 0)) ∧ cur.size = cap ∧ cur.toList.take l.length = l.map (Value.int .i64)

theorem IRow.owns {w : World} {g cap : Nat} {l : List Int} (h : IRow w g cap l) {base : Nat} (hb : base ≤ g) : w.ownsRow base 3 1 (.slice (some ⟨g, 0, none⟩) l.length cap) l.length (l.map (Value.int .i64)) := by
 obtain ⟨h1, h2, cur, h3, h4, h5⟩ := h
 exact ⟨by simp, .inr ⟨g, cap, cur, rfl, hb, h3, h1, h2, by omega, by simpa using h5⟩⟩
theorem IRow.of {w : World} {base g n cap : Nat} {l : List Int} (h : w.ownsRow base 3 1 (.slice (some ⟨g, 0, none⟩) n cap) n (l.map (Value.int .i64))) : IRow w g cap l ∧ base ≤ g ∧ n = l.length ∧ g < w.heap.size := by
 obtain ⟨h0, h⟩ := h
 have hn : n = l.length := by simpa using h0.symm
 subst hn
 rcases h with ⟨h, _⟩ | ⟨g', cap', cur, hv, hb, hg, h1, h2, h3, h4⟩
 ·
  simp at h
 ·
  simp only [Value.slice.injEq, Option.some.injEq, Addr.mk.injEq, and_true, true_and] at hv
  obtain ⟨rfl, rfl⟩ := hv
  exact ⟨⟨h1, h2, cur, hg, by omega, by simpa using h4⟩, hb, rfl, (Array.getElem?_eq_some_iff.1 hg).1⟩
theorem IRow.keep {w w' : World} {g cap : Nat} {l : List Int} (h : IRow w g cap l) (e : w'.heap[g]? = w.heap[g]?) : IRow w' g cap l := by
 obtain ⟨h1, h2, cur, h3, h4⟩ := h
 exact ⟨h1, h2, cur, e.trans h3, h4⟩
theorem IRow.lt {w : World} {g cap : Nat} {l : List Int} (h : IRow w g cap l) : g < w.heap.size := by
 obtain ⟨_, _, cur, h3, _⟩ := h
 exact (Array.getElem?_eq_some_iff.1 h3).1
theorem IRow.below {w w' : World} {g cap : Nat} {l : List Int} (h : IRow w g cap l) {B : Nat} (b : Below B w w') (hg : g < B) : IRow w' g cap l := h.keep (b.block g hg)
theorem IRow.later {w w' : World} {g cap : Nat} {l : List Int} (h : IRow w g cap l) (b : Below w.heap.size w w') : IRow w' g cap l := h.below b h.lt
theorem IRow.cell {w : World} {g cap : Nat} {l : List Int} (h : IRow w g cap l) (i : Nat) (hi : i < l.length) : w.cell? ⟨g, i, none⟩ = some (.int .i64 (l.getD i 0)) := by
 have := (h.owns (Nat.zero_le g)).cellAt i (by omega)
 rw [this]
 simp [List.getD, hi]
theorem IRow.rd {w : World} {g cap : Nat} {l : List Int} (h : IRow w g cap l) : IRd w (some ⟨g, 0, none⟩) l := fun i hi =>
 ⟨g, 0, rfl, h.lt, by rw [Nat.zero_add]; exact h.cell i hi⟩
theorem IRd.later {w w' : World} {a : Option Addr} {l : List Int} (h : IRd w a l) {B : Nat} (b : Below B w w') (hB : w.heap.size ≤ B) : IRd w' a l := by
 intro i hi
 obtain ⟨x, off, rfl, h1, h2⟩ := h i hi
 exact ⟨x, off, rfl, Nat.lt_of_lt_of_le h1 b.size, by rw [b.cell (Nat.lt_of_lt_of_le h1 hB)]; exact h2⟩

end Go.Proofs.YtpenhliaelhnoaaGreatDoor.MemI

namespace Go.Proofs.YtpenhliaelhnoaaGreatDoor.Blk
open Go.RowKit Mem MemI

def Blk (w : World) (g : Nat) (t : TypeId) (cs : List Value) : Prop := w.heap[g]? = some (.cells cs.toArray t (0, 0))
theorem Blk.keep {w w' : World} {g : Nat} {t : TypeId} {cs : List Value} (h : Blk w g t cs) (e : w'.heap[g]? = w.heap[g]?) : Blk w' g t cs := e.trans h
theorem Blk.lt {w : World} {g : Nat} {t : TypeId} {cs : List Value} (h : Blk w g t cs) : g < w.heap.size := (Array.getElem?_eq_some_iff.1 h).1
theorem Blk.below {w w' : World} {g : Nat} {t : TypeId} {cs : List Value} (h : Blk w g t cs) {B : Nat} (b : Below B w w') (hg : g < B) : Blk w' g t cs := h.keep (b.block g hg)
theorem Blk.later {w w' : World} {g : Nat} {t : TypeId} {cs : List Value} (h : Blk w g t cs) (b : Below w.heap.size w w') : Blk w' g t cs := h.below b h.lt
theorem Blk.drewN {w : World} {g : Nat} {t : TypeId} {cs : List Value} (h : Blk w g t cs) (m : Nat) : Blk (w.drewN m) g t cs := h
theorem Blk.cell {w : World} {g : Nat} {t : TypeId} {cs : List Value} (h : Blk w g t cs) (i : Nat) {v : Value} (hv : cs[i]? = some v) : w.cell? ⟨g, i, none⟩ = some v := by
 rw [cell_of_row w g i cs.toArray t (0, 0) h]; simpa using hv
theorem Blk.frozen {w : World} {g : Nat} {t : TypeId} {cs : List Value} (h : Blk w g t cs) (i : Nat) : w.frozen? ⟨g, i, none⟩ = false := frozen_of_row w g i cs.toArray t h
theorem Blk.owns {w : World} {g : Nat} {t : TypeId} {cs : List Value} (h : Blk w g t cs) (hl : cs.length ≤ maxLen) : w.ownsRow g t 1 (.slice (some ⟨g, 0, none⟩) cs.length cs.length) cs.length cs :=
 ⟨by simp, .inr ⟨g, cs.length, cs.toArray, rfl, Nat.le_refl _, h, Nat.le_refl _, hl, by simp, by simp⟩⟩
theorem Blk.set {w : World} {g : Nat} {t : TypeId} {cs : List Value} (h : Blk w g t cs) (i : Nat) (v : Value) (hl : cs.length ≤ maxLen) : Blk (w.setCell ⟨g, i, none⟩ v) g t (cs.set i v) := by
 obtain ⟨h1, h2⟩ := (h.owns hl).stored i v
 obtain ⟨h0, h⟩ := h1
 rcases h with ⟨h, _⟩ | ⟨g', cap', cur, hv, hb, hg, h1, h2, h3, h4⟩
 ·
  simp at h
 ·
  simp only [Value.slice.injEq, Option.some.injEq, Addr.mk.injEq, and_true, true_and] at hv
  obtain ⟨rfl, rfl⟩ := hv
  have : cur = (cs.set i v).toArray := by
   apply Array.toList_inj.1
   rw [List.take_of_length_le (by rw [Array.length_toList]; omega)] at h4
   simpa using h4
  rw [this] at hg
  exact hg
theorem Blk.new (w : World) (t : TypeId) (cs : List Value) : Blk (w.alloc (.cells cs.toArray t)) w.heap.size t cs := heap_alloc_new w _
theorem Blk.alloc {w : World} {g : Nat} {t : TypeId} {cs : List Value} (h : Blk w g t cs) (o : Obj) : Blk (w.alloc o) g t cs := h.keep (Below.heap_alloc w o g h.lt)
theorem Blk.other {w : World} {g : Nat} {t : TypeId} {cs : List Value} (h : Blk w g t cs) {a : Addr} (ne : g ≠ a.block) (v : Value) : Blk (w.setCell a v) g t cs := h.keep (Below.heap_setCell w a v g ne)
theorem Blk.int {w : World} {g : Nat} {t : TypeId} {l : List Int} {r : List Value} (h : Blk w g t (l.map (Value.int .i64) ++ r)) (i : Nat) (hi : i < l.length) : w.cell? ⟨g, i, none⟩ = some (.int .i64 (l.getD i 0)) :=
 h.cell i (by simp [List.getElem?_append, hi, List.getD])
theorem set_ints (l : List Int) (r : List Value) (i : Nat) (z : Int) (hi : i < l.length) : (l.map (Value.int .i64) ++ r).set i (.int .i64 z) = (l.set i z).map (Value.int .i64) ++ r := by
 rw [List.set_append, if_pos (by simpa using hi), List.map_set]
theorem below_drewN {B : Nat} {a w : World} (h : Below B a w) (m : Nat) : Below B a (w.drewN m) := ⟨h.os, h.tape, h.output, h.size, h.block⟩
theorem Rd.drewN {w : World} {a : Option Addr} {l : List Int} (h : Rd w a l) (m : Nat) : Rd (w.drewN m) a l := h.later (below_drewN (Below.refl w.heap.size w) m) (Nat.le_refl _)
theorem IRd.cells {w : World} {ad : Addr} {y : List Int} (h : IRd w (some ad) y) : ∀ j u, (y.map (Value.int .i64))[j]? = some u → w.cell? (ad.add j) = some u := by
 intro j u hu
 have hj : j < y.length := by
  have := (List.getElem?_eq_some_iff.1 hu).1
  simpa using this
 obtain ⟨b, off, e, _, hc⟩ := h j hj
 obtain rfl := Option.some.inj e
 rw [Addr.add_lit, hc]
 simpa [List.getD, hj] using hu

theorem iwpList_app (w : World) {ops : Array Oper} {rest : List Oper} {o : Oper} {a : Act} {Q : Exit → Act → World → Prop} (hgd : o.guard = none) (s x : Operand)
  (ho : o.op = .call { callee := .builtin .append, args := #[s, x], argTypes := #[51, 51] })
  (base g n cap : Nat) (l y : List Int) (hs : a.eval s = .slice (some ⟨g, 0, none⟩) n cap) (hn : n = l.length) (hrow : IRow w g cap l) (hbg : base ≤ g)
  (ao : Option Addr) (m c : Nat) (hx : a.eval x = .slice ao m c) (hm : m = y.length) (hrd : IRd w ao y) (hnone : ao = none → c = 0) (hsum : l.length + y.length ≤ 100000000)
  (h : ∀ g' cap' w', IRow w' g' cap' (l ++ y) → base ≤ g' → g' < w'.heap.size → w.grownBy w' (some g) → wpList Tryz.prog ops Q rest (a.put o.dst (.slice (some ⟨g', 0, none⟩) (n + m) cap')) w') :
  wpList Tryz.prog ops Q (o :: rest) a w := by
 obtain ⟨i0, hi, hz0, hz1, hz2⟩ := info_parts info64
 subst hn hm
 have hlt := hrow.lt
 cases ao with
 | none =>
  have hy : y = [] := by
   cases y with
   | nil => rfl
   | cons z r => obtain ⟨_, _, e, _⟩ := hrd 0 (by simp); cases e
  subst hy
  have hc0 := hnone rfl
  subst hc0
  refine wpList_append_own_none hgd s x 51 ho base 3 i0 1 Tryz.underlying51 hi _ _ _ hs (hrow.owns hbg) hx ?_
  simpa using h g cap w (by simpa using hrow) hbg hlt (World.grownBy.refl _ _)
 | some ad =>
  refine wpList_append_own w hgd s x 51 ho base 3 i0 (.int .i64 0) 1 8 Tryz.underlying51 hi hz0 hz1 hz2 rfl (by decide) _ _ _ hs (hrow.owns hbg) ad y.length c (y.map (Value.int .i64)) hx (by simp) (IRd.cells hrd) (ints_oneCell _ _) (by unfold maxLen; omega) (by omega) (by omega) ?_
  intro v' w' hown hgr hiff
  rcases hown.2 with ⟨hv, _⟩ | ⟨g', cap', cur, rfl, hb, hg', _⟩
  ·
   exact absurd (hiff.1 hv).1 (by simp)
  ·
   rw [← List.map_append] at hown
   obtain ⟨r1, r2, _, r4⟩ := IRow.of hown
   exact h g' cap' w' r1 r2 r4 hgr

theorem ird_one (w : World) (z : Int) : IRd (w.alloc (.cells #[.int .i64 z] 3)) (some ⟨w.heap.size, 0, none⟩) [z] := by
 intro i hi
 have : i = 0 := by simpa using hi
 subst this
 exact ⟨_, _, rfl, by simp, by simp [World.cell?_alloc_at]⟩
theorem irow_new (w : World) (z : List Int) (hz : z.length ≤ maxLen) : IRow (w.alloc (.cells (z.map (Value.int .i64)).toArray 3)) w.heap.size z.length z :=
 ⟨Nat.le_refl _, hz, _, heap_alloc_new w _, by simp, by simp [← List.map_take]⟩
theorem irow_alloc {w : World} {g cap : Nat} {l : List Int} (h : IRow w g cap l) (o : Obj) : IRow (w.alloc o) g cap l := h.keep (Below.heap_alloc w o g h.lt)
theorem cells5 {w : World} {g : Nat} {t : TypeId} {v0 v1 v2 v3 v4 : Value} (h : Blk w g t [v0, v1, v2, v3, v4]) : w.cell? ⟨g, 0, none⟩ = some v0 ∧ w.cell? ⟨g, 1, none⟩ = some v1 ∧ w.cell? ⟨g, 2, none⟩ = some v2 ∧ w.cell? ⟨g, 3, none⟩ = some v3 ∧ w.cell? ⟨g, 4, none⟩ = some v4 := ⟨h.cell 0 rfl, h.cell 1 rfl, h.cell 2 rfl, h.cell 3 rfl, h.cell 4 rfl⟩
theorem froz5 {w : World} {g : Nat} {t : TypeId} {v0 v1 v2 v3 v4 : Value} (h : Blk w g t [v0, v1, v2, v3, v4]) : w.frozen? ⟨g, 0, none⟩ = false ∧ w.frozen? ⟨g, 1, none⟩ = false ∧ w.frozen? ⟨g, 2, none⟩ = false ∧ w.frozen? ⟨g, 3, none⟩ = false ∧ w.frozen? ⟨g, 4, none⟩ = false := ⟨h.frozen 0, h.frozen 1, h.frozen 2, h.frozen 3, h.frozen 4⟩
theorem cells11 {w : World} {g : Nat} {t : TypeId} {v0 v1 v2 v3 v4 v5 v6 v7 v8 v9 v10 : Value} (h : Blk w g t [v0, v1, v2, v3, v4, v5, v6, v7, v8, v9, v10]) : w.cell? ⟨g, 0, none⟩ = some v0 ∧ w.cell? ⟨g, 1, none⟩ = some v1 ∧ w.cell? ⟨g, 2, none⟩ = some v2 ∧ w.cell? ⟨g, 3, none⟩ = some v3 ∧ w.cell? ⟨g, 4, none⟩ = some v4 ∧ w.cell? ⟨g, 5, none⟩ = some v5 ∧ w.cell? ⟨g, 6, none⟩ = some v6 ∧ w.cell? ⟨g, 7, none⟩ = some v7 ∧ w.cell? ⟨g, 8, none⟩ = some v8 ∧ w.cell? ⟨g, 9, none⟩ = some v9 ∧ w.cell? ⟨g, 10, none⟩ = some v10 := ⟨h.cell 0 rfl, h.cell 1 rfl, h.cell 2 rfl, h.cell 3 rfl, h.cell 4 rfl, h.cell 5 rfl, h.cell 6 rfl, h.cell 7 rfl, h.cell 8 rfl, h.cell 9 rfl, h.cell 10 rfl⟩
theorem froz11 {w : World} {g : Nat} {t : TypeId} {v0 v1 v2 v3 v4 v5 v6 v7 v8 v9 v10 : Value} (h : Blk w g t [v0, v1, v2, v3, v4, v5, v6, v7, v8, v9, v10]) : w.frozen? ⟨g, 0, none⟩ = false ∧ w.frozen? ⟨g, 1, none⟩ = false ∧ w.frozen? ⟨g, 2, none⟩ = false ∧ w.frozen? ⟨g, 3, none⟩ = false ∧ w.frozen? ⟨g, 4, none⟩ = false ∧ w.frozen? ⟨g, 5, none⟩ = false ∧ w.frozen? ⟨g, 6, none⟩ = false ∧ w.frozen? ⟨g, 7, none⟩ = false ∧ w.frozen? ⟨g, 8, none⟩ = false ∧ w.frozen? ⟨g, 9, none⟩ = false ∧ w.frozen? ⟨g, 10, none⟩ = false := ⟨h.frozen 0, h.frozen 1, h.frozen 2, h.frozen 3, h.frozen 4, h.frozen 5, h.frozen 6, h.frozen 7, h.frozen 8, h.frozen 9, h.frozen 10⟩
end Go.Proofs.YtpenhliaelhnoaaGreatDoor.Blk

namespace Go.Proofs.YtpenhliaelhnoaaGreatDoor.Pads
open Go.RowKit Mem App Get ShaP

def isLen (n : Int) : Bool := decide (0 ≤ n ∧ n ≤ 1048576)
theorem isLen_yes {n : Int} (h : 0 ≤ n ∧ n ≤ 1048576) : isLen n = true := by simpa [isLen] using h
theorem isLen_no {n : Int} (h : ¬ (0 ≤ n ∧ n ≤ 1048576)) : isLen n = false := by unfold isLen; exact decide_eq_false h

theorem isShaLength (n : Int) (w : World) :
  Calls Tryz.prog 95 #[.int .i64 n] w fun e w' => e = .returned (.bool (isLen n)) ∧ w = w' := by
 by_cases h1 : 0 ≤ n
 ·
  by_cases h2 : n ≤ 1048576
  ·
   have H : Hid (isLen n = true) := isLen_yes ⟨h1, h2⟩
   go_enter Tryz.func95, Tryz.ntmps95
   go_wp2
   go_ret
   exact ⟨by rw [H.out]; simp, rfl⟩
  ·
   have H : Hid (isLen n = false) := isLen_no (by omega)
   go_enter Tryz.func95, Tryz.ntmps95
   go_wp2
   go_ret
   exact ⟨by rw [H.out]; simp, rfl⟩
 ·
  have H : Hid (isLen n = false) := isLen_no (by omega)
  go_enter Tryz.func95, Tryz.ntmps95
  go_wp2
  go_ret
  exact ⟨by rw [H.out]; simp, rfl⟩

def padI (n : Int) : List Int := if 0 ≤ n ∧ n ≤ 1048576 then padOf n.toNat else []
theorem padI_length (n : Int) : (padI n).length ≤ 72 := by
 unfold padI; split
 ·
  rw [padOf_length]; omega
 ·
  simp

set_option maxHeartbeats 800000 in
theorem implPad (n : Int) (w : World) :
  Calls Tryz.prog 106 #[.int .i64 n] w fun e w' =>
   ∃ g m cap, e = .returned (.slice (some ⟨g, 0, none⟩) m cap) ∧ m = (padI n).length ∧ w.heap.size ≤ g ∧ Row w' g cap (padI n) ∧ Below w.heap.size w w' := by
 by_cases hn : 0 ≤ n ∧ n ≤ 1048576
 ·
  have hl := isLen_yes hn
  obtain ⟨h0, h1⟩ := hn
  obtain ⟨N, rfl⟩ := Int.eq_ofNat_of_zero_le h0
  have HP : Hid (padI (N : Int) = padOf N) := by show padI _ = _; unfold padI; rw [if_pos ⟨h0, h1⟩, Int.toNat_natCast]
  obtain ⟨z, hz⟩ : ∃ z : Nat, (64 - (N + 9) % 64) % 64 = z := ⟨_, rfl⟩
  have HZ : Hid ((64 - (N + 9) % 64) % 64 = z) := hz
  have E1 : Hid (((64 : Int) - ((N : Int) + 1 + 8) % 64) % 64 = (z : Int)) := by show _ = _; omega
  have hz64 : z < 64 := by omega
  obtain ⟨i0, hi, hz0, hz1, hz2⟩ := info_parts info8
  clear hz
  have H1 : Hid (Below w.heap.size w (w.alloc (.cells #[.int .u8 128] 5))) := (Below.refl _ _).alloc (Nat.le_refl _) _
  go_enter Tryz.func106, Tryz.ntmps106
  go_wp2_with fail
  refine (isShaLength _ _).mono ?_
  rintro e w1 ⟨rfl, rfl⟩
  go_wp2_with (at_make; refine wpList_make_full _ rfl _ _ 22 rfl w.heap.size 5 i0 (.int .u8 0) 1 Tryz.underlying22 hi hz0 hz1 _ _ _ _ z rfl rfl (by first | rfl | exact E1.out) (by first | rfl | exact E1.out) (by rw [hz2]; omega) (by unfold maxLen; omega) (by simp) ?_; intro w1 hown hgr; have HB : Hid (Below w.heap.size w w1) := H1.out.grown hgr (by simp) (fun k h => by cases h); have HR : Hid (Row w1 w.heap.size 1 [128]) := (row_new w [128] (by simp [maxLen])).keep (hgr.block _ (by simp) (by simp)); have HO : Hid (Row w1 (w.heap.size + 1) z (List.replicate z 0)) := (Row.of (l := List.replicate z 0) (base := w.heap.size) (by simpa [Value.cells, toList_madeCells_one] using hown)).1; clear hown hgr)
  have HL : Hid ((List.replicate z (0 : Int)).length = z) := List.length_replicate
  refine (putBytes _ _ 1 1 z z [128] (List.replicate z 0) w1 rfl HL.out.symm HR.out.rd HO.out.rd (by intro h; cases h) (by intro h; cases h) (by simp) (by rw [HL.out]; omega)).mono ?_
  rintro e w2 ⟨rfl, r2, b2⟩
  have HB2 := hid (HB.out.trans (b2.mono HB.out.size))
  have HR2 := hid (r2)
  have HS := hid (HB.out.size)
  clear r2 b2
  go_wp2_with fail
  refine (highestFirst _ 8 w2 (by omega) (by omega)).mono ?_
  rintro e w3 ⟨rfl, r3, b3⟩
  have HR3 := hid (r3)
  have HB3 := hid (b3)
  clear r3 b3
  have HN : Hid ((num ((N : Int) * 8) 8).length = 8) := num_length _ 8
  have HM : Hid (([128] ++ List.replicate z (0 : Int)).length = 1 + z) := by show _ = _; simp; omega
  go_wp2_with fail
  refine (putBytes _ _ (1 + z) (1 + z) 8 8 ([128] ++ List.replicate z 0) (num ((N : Int) * 8) 8) w3 HM.out.symm HN.out.symm (HR2.out.later HB3.out).rd HR3.out.rd (by intro h; cases h) (by intro h; cases h) (by rw [HM.out]; omega) (by rw [HN.out]; omega)).mono ?_
  rintro e w4 ⟨rfl, r4, b4⟩
  have HB4 := hid (HB2.out.trans ((HB3.out.mono HB2.out.size).trans (b4.mono (Nat.le_trans HB2.out.size HB3.out.size))))
  have HF : Hid (padI (N : Int) = [128] ++ List.replicate z 0 ++ num ((N : Int) * 8) 8) := by
   show _ = _
   rw [HP.out]; unfold padOf; rw [HZ.out, Int.mul_comm]; simp
  have HS3 : Hid (w.heap.size ≤ w3.heap.size) := Nat.le_trans HB2.out.size HB3.out.size
  have HR4 := hid (r4)
  clear r4 b4
  go_wp2
  go_ret
  exact ⟨w3.heap.size, _, _, rfl, by rw [HF.out, List.length_append, HM.out, HN.out], HS3.out, by rw [HF.out]; exact HR4.out, HB4.out⟩
 ·
  have hl := isLen_no hn
  have HP : Hid (padI n = []) := by show padI _ = _; unfold padI; rw [if_neg hn]
  clear hn
  go_enter Tryz.func106, Tryz.ntmps106
  go_wp2_with fail
  refine (isShaLength _ _).mono ?_
  rintro e w1 ⟨rfl, rfl⟩
  go_wp2
  go_ret
  exact ⟨w.heap.size, 0, 0, by simp, by rw [HP.out]; rfl, Nat.le_refl _, by rw [HP.out]; exact row_new w [] (by simp), (Below.refl _ _).alloc (Nat.le_refl _) _⟩

def lenOf : Value → Nat
 | .slice _ n _ => n
 | _ => 0

set_option maxHeartbeats 800000 in
theorem specPad (n : Int) (w : World) :
  Calls Tryz.prog 100 #[.int .i64 n] w fun e w' =>
   ∃ g m cap, e = .returned (.slice (some ⟨g, 0, none⟩) m cap) ∧ m = (padI n).length ∧ w.heap.size ≤ g ∧ Row w' g cap (padI n) ∧ Below w.heap.size w w' := by
 by_cases hn : 0 ≤ n ∧ n ≤ 1048576
 ·
  obtain ⟨h0, h1⟩ := hn
  obtain ⟨N, rfl⟩ := Int.eq_ofNat_of_zero_le h0
  have HP : Hid (padI (N : Int) = padOf N) := by show padI _ = _; unfold padI; rw [if_pos ⟨h0, h1⟩, Int.toNat_natCast]
  obtain ⟨z, hz⟩ : ∃ z : Nat, (64 - (N + 9) % 64) % 64 = z := ⟨_, rfl⟩
  have HZ : Hid ((64 - (N + 9) % 64) % 64 = z) := hz
  have hz64 : z < 64 := by omega
  clear hz
  have H1 : Hid (Below w.heap.size w (w.alloc (.cells #[.int .u8 128] 5))) := (Below.refl _ _).alloc (Nat.le_refl _) _
  have HR1 : Hid (Row (w.alloc (.cells #[.int .u8 128] 5)) w.heap.size 1 [128]) := row_new w [128] (by simp [maxLen])
  go_enter Tryz.func100, Tryz.ntmps100
  go_wp2
  go_loopw [3] (fun v wr => ∃ (j g c : Nat), j ≤ z ∧ v = .slice (some ⟨g, 0, none⟩) (1 + j) c ∧ w.heap.size ≤ g ∧ Row wr g c ([128] ++ List.replicate j 0) ∧ Below w.heap.size w wr)
   (fun v _ => z + 1 - lenOf v)
  case atStart => exact ⟨0, w.heap.size, 1, Nat.zero_le _, rfl, Nat.le_refl _, HR1.out, H1.out⟩
  case round =>
   obtain ⟨j, g, c, hj, rfl, hg, hrow, hb⟩ := hrel
   clear H1 HR1
   have HRow := hid (hrow)
   have HB := hid (hb)
   have HL : Hid (([128] ++ List.replicate j (0 : Int)).length = 1 + j) := by show _ = _; simp; omega
   clear hrow hb
   by_cases hlt : j < z
   ·
    have ht : 1 ≤ ((N : Int) + ((1 + j : Nat) : Int) + 8) % 64 := by have := HZ.out; omega
    go_wp2_with (at_builtin; refine wpList_app _ rfl (.tmp 19) (.tmp 20) rfl w.heap.size g (1 + j) c ([128] ++ List.replicate j 0) [0] rfl HL.out.symm (row_alloc HRow.out _) hg (some ⟨wr.heap.size, 0, none⟩) 1 1 rfl rfl (rd_one _ _) (by intro h; cases h) (by rw [HL.out]; simp; omega) ?_; intro g2 c2 w2 r2 b2 l2 gr2; have R2 := hid (r2); have B2 : Hid (Below w.heap.size w w2) := (HB.out.alloc HB.out.size _).grown gr2 (Nat.le_trans HB.out.size (by simp)) (fun k h => by cases h; exact hg); clear r2 gr2 l2)
    go_roundw
    case rel => exact ⟨j + 1, g2, c2, by omega, by simp [Nat.add_assoc], b2, by rw [List.replicate_succ', ← List.append_assoc]; exact R2.out, B2.out⟩
    case measure => simp [lenOf]; omega
   ·
    obtain rfl : j = z := by omega
    have ht : ((N : Int) + ((1 + j : Nat) : Int) + 8) % 64 = 0 := by have := HZ.out; omega
    go_wp2_with fail
    refine (specPutN _ (1 + j) c _ 0 4 wr HL.out.symm HRow.out.rd (by intro h; cases h) (by rw [HL.out]; omega)).mono ?_
    rintro e w2 ⟨g2, m2, c2, rfl, e2, k2, r2, b2⟩
    have HR2 := hid (r2)
    have HB2 := hid (HB.out.trans (b2.mono HB.out.size))
    have HE2 : Hid (m2 = ([128] ++ List.replicate j 0 ++ putN 0 4).length) := e2
    have HL2 : Hid (([128] ++ List.replicate j 0 ++ putN 0 4).length = 5 + j) := by show _ = _; rw [List.length_append, HL.out]; simp [putN, num_length]; omega
    clear r2 b2 e2 k2
    go_wp2_with fail
    refine (specPutN _ m2 c2 _ _ 4 w2 HE2.out HR2.out.rd (by intro h; cases h) (by rw [HL2.out]; omega)).mono ?_
    rintro e w3 ⟨g3, m3, c3, rfl, e3, k3, r3, b3⟩
    have HF : Hid (padI (N : Int) = [128] ++ List.replicate j 0 ++ putN 0 4 ++ putN (8 * (N : Int)) 4) := by
     show _ = _
     rw [HP.out]; unfold padOf; rw [HZ.out, pad_nums N (by omega)]; simp [putN]
    have HR3 := hid (r3)
    have HE3 : Hid (m3 = ([128] ++ List.replicate j 0 ++ putN 0 4 ++ putN (8 * (N : Int)) 4).length) := e3
    have HK3 : Hid (w.heap.size ≤ g3) := Nat.le_trans HB2.out.size k3
    have HB3 := hid (HB2.out.trans (b3.mono HB2.out.size))
    clear r3 b3 e3 k3
    go_wp2
    go_ret
    exact ⟨g3, m3, c3, rfl, by rw [HF.out]; exact HE3.out, HK3.out, by rw [HF.out]; exact HR3.out, HB3.out⟩
 ·
  have HP : Hid (padI n = []) := by show padI _ = _; unfold padI; rw [if_neg hn]
  rcases (show n < 0 ∨ (0 ≤ n ∧ 1048576 < n) by omega) with hk | ⟨hk0, hk⟩
  all_goals
   go_enter Tryz.func100, Tryz.ntmps100
   go_wp2
   go_ret
   exact ⟨w.heap.size, 0, 0, by simp, by rw [HP.out]; rfl, Nat.le_refl _, by rw [HP.out]; exact row_new w [] (by simp), (Below.refl _ _).alloc (Nat.le_refl _) _⟩
end Go.Proofs.YtpenhliaelhnoaaGreatDoor.Pads

namespace Go.Proofs.YtpenhliaelhnoaaGreatDoor.Word
open Go.RowKit Bits

theorem rot_none (x : Int) : wrap64 (bits BinOp.or IntKind.u32 (x % 4294967296) 0) = rot x 0 := by
 obtain ⟨X, hX⟩ := Int.eq_ofNat_of_zero_le (show 0 ≤ x % 4294967296 by omega)
 have h : bits BinOp.or IntKind.u32 (X : Int) ((0 : Nat) : Int) = ((X ||| 0 : Nat) : Int) := or_u32 X 0 (by omega) (by omega)
 unfold rot
 rw [if_neg (by omega), hX, show (0 : Int) = ((0 : Nat) : Int) from rfl, h, Nat.or_zero, IntWalk.wrap64_in _ (by omega)]

theorem implRot (x n : Int) (w : World) :
  Calls Tryz.prog 112 #[.int .i64 x, .int .i64 n] w fun e w' => e = .returned (.int .i64 (rot x n)) ∧ ∃ m, w' = w.drewN m := by
 by_cases h1 : n < 0
 ·
  have hr : rot x n = x % 4294967296 := by unfold rot; rw [if_neg (by omega)]
  have H : Hid (rot x n = x % 4294967296) := hr
  clear hr
  go_enter Tryz.func112, Tryz.ntmps112
  go_wp2
  go_ret
  exact ⟨by rw [H.out]; rfl, 0, rfl⟩
 ·
  by_cases h2 : 32 ≤ n
  ·
   have hr : rot x n = x % 4294967296 := by unfold rot; rw [if_neg (by omega)]
   have H : Hid (rot x n = x % 4294967296) := hr
   clear hr
   go_enter Tryz.func112, Tryz.ntmps112
   go_wp2
   go_ret
   exact ⟨by rw [H.out]; rfl, 0, rfl⟩
  ·
   by_cases h3 : n = 0
   ·
    subst h3
    go_enter Tryz.func112, Tryz.ntmps112
    go_wp2
    go_quiet (fail)
    go_wp2
    go_ret
    exact ⟨congrArg (fun z => Ending.returned (.int .i64 z)) (rot_none x), _, rfl⟩
   ·
    have a1 : 1 ≤ n := by omega
    have a2 : n ≤ 31 := by omega
    clear h1 h2 h3
    go_enter Tryz.func112, Tryz.ntmps112
    go_wp2
    go_quiet (fail)
    go_wp2
    go_ret
    exact ⟨congrArg (fun z => Ending.returned (.int .i64 z)) (rot_word x n a1 a2), _, rfl⟩

theorem specRot (x n : Int) (w : World) :
  Calls Tryz.prog 110 #[.int .i64 x, .int .i64 n] w fun e w' => e = .returned (.int .i64 (rot x n)) ∧ ∃ m, w' = w.drewN m := by
 have hm := mask32 x
 by_cases h : 1 ≤ n ∧ n ≤ 31
 ·
  obtain ⟨a1, a2⟩ := h
  go_enter Tryz.func110, Tryz.ntmps110
  go_wp2
  go_quiet (fail)
  go_wp2
  go_ret
  exact ⟨congrArg (fun z => Ending.returned (.int .i64 z)) (rot_wide x n a1 a2), _, rfl⟩
 ·
  have hr : rot x n = x % 4294967296 := by unfold rot; rw [if_neg h]
  have H : Hid (rot x n = x % 4294967296) := hr
  clear hr
  rcases (show n < 1 ∨ 31 < n by omega) with h' | h'
  all_goals
   go_enter Tryz.func110, Tryz.ntmps110
   go_wp2
   go_ret
   exact ⟨by rw [H.out]; rfl, 0, rfl⟩

theorem implAdd (a b : Int) (w : World) :
  Calls Tryz.prog 113 #[.int .i64 a, .int .i64 b] w fun e w' => e = .returned (.int .i64 ((a + b) % 4294967296)) ∧ w' = w := by
 go_enter Tryz.func113, Tryz.ntmps113
 go_wp2
 go_ret
 exact ⟨rfl, rfl⟩

end Go.Proofs.YtpenhliaelhnoaaGreatDoor.Word

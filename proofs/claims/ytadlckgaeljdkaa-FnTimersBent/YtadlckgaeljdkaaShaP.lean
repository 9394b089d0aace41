/-
  The sum of 256 bits as plain functions of lists of numbers, and plain facts on them: every word stays a word, what is added in parts is what is added as a whole. No condition beyond those that each lemma names.
-/
import Derived.Test.YtadlckgaeljdkaaGet
namespace Go.Proofs.Ytadlckgaeljdkaa.ShaP
open Go.RowKit Go.Proofs.Ytadlckgaeljdkaa.Mem Go.Proofs.Ytadlckgaeljdkaa.App Go.Proofs.Ytadlckgaeljdkaa.Get Go.Proofs.Ytadlckgaeljdkaa.Bits

def Wd (x : Int) : Prop := 0 ≤ x ∧ x ≤ 4294967295
set_option maxRecDepth 100000 in
theorem wd_mod (x : Int) : Wd (x % 4294967296) := by unfold Wd; omega
set_option maxRecDepth 100000 in
theorem wd_rot (x n : Int) : Wd (rot x n) := rot_bd x n

set_option maxRecDepth 100000 in
theorem wd_xor {a b : Int} (ha : Wd a) (hb : Wd b) : Wd (bits .xor .i64 a b) := by
  obtain ⟨A, rfl⟩ := Int.eq_ofNat_of_zero_le ha.1
  obtain ⟨B, rfl⟩ := Int.eq_ofNat_of_zero_le hb.1
  have h1 := ha.2
  have h2 := hb.2
  rw [xor_i64 A B (by omega) (by omega)]
  have := Nat.xor_lt_two_pow (x := A) (y := B) (n := 32) (by omega) (by omega)
  unfold Wd; omega
set_option maxRecDepth 100000 in
theorem wd_and {a b : Int} (ha : Wd a) (hb : Wd b) : Wd (bits .and .i64 a b) := by
  obtain ⟨A, rfl⟩ := Int.eq_ofNat_of_zero_le ha.1
  obtain ⟨B, rfl⟩ := Int.eq_ofNat_of_zero_le hb.1
  have h1 := ha.2
  have h2 := hb.2
  rw [and_i64 A B (by omega) (by omega)]
  have : A &&& B ≤ A := Nat.and_le_left
  unfold Wd; omega

def xor3 (a b c : Int) : Int := bits .xor .i64 (bits .xor .i64 a b) c
set_option maxRecDepth 100000 in
theorem wd_xor3 {a b c : Int} (ha : Wd a) (hb : Wd b) (hc : Wd c) : Wd (xor3 a b c) := wd_xor (wd_xor ha hb) hc

def s0 (x : Int) : Int := xor3 (rot x 7) (rot x 18) (x / 8)
def s1 (x : Int) : Int := xor3 (rot x 17) (rot x 19) (x / 1024)
set_option maxRecDepth 100000 in
theorem wd_s0 {x : Int} (h : Wd x) : Wd (s0 x) := wd_xor3 (wd_rot _ _) (wd_rot _ _) (by unfold Wd at *; omega)
set_option maxRecDepth 100000 in
theorem wd_s1 {x : Int} (h : Wd x) : Wd (s1 x) := wd_xor3 (wd_rot _ _) (wd_rot _ _) (by unfold Wd at *; omega)

def Wds (l : List Int) : Prop := ∀ z ∈ l, Wd z
set_option maxRecDepth 100000 in
theorem Wds.at {l : List Int} (h : Wds l) (i : Nat) : Wd (l.getD i 0) := by
  by_cases hi : i < l.length
  · simpa [List.getD, hi] using h _ (List.getElem_mem hi)
  · simp [List.getD, List.getElem?_eq_none (Nat.le_of_not_lt hi), Wd]
set_option maxRecDepth 100000 in
theorem Wds.snoc {l : List Int} {z : Int} (h : Wds l) (hz : Wd z) : Wds (l ++ [z]) := by
  intro y hy
  rcases List.mem_append.1 hy with hy | hy
  · exact h y hy
  · simp at hy; subst hy; exact hz

/-- The first j words of a block: its bytes, four by four. -/
def first (b : List Int) (j : Nat) : List Int := (List.range j).map fun i => val (piece b (4 * i) 4)
set_option maxRecDepth 100000 in
theorem first_length (b : List Int) (j : Nat) : (first b j).length = j := by simp [first]
set_option maxRecDepth 100000 in
theorem first_succ (b : List Int) (j : Nat) : first b (j + 1) = first b j ++ [val (piece b (4 * j) 4)] := by simp [first, List.range_succ]
set_option maxRecDepth 100000 in
theorem val4 (b : List Int) (j : Nat) (hb : Bytes b) : Wd (val (piece b j 4)) := by
  have := val_bd _ (piece_bytes hb j 4)
  have h2 : (piece b j 4).length ≤ 4 := by unfold piece; rw [List.length_take]; omega
  have h3 : (256 : Int) ^ (piece b j 4).length ≤ 256 ^ 4 := by
    rcases (show (piece b j 4).length = 0 ∨ (piece b j 4).length = 1 ∨ (piece b j 4).length = 2 ∨ (piece b j 4).length = 3 ∨ (piece b j 4).length = 4 by omega) with h | h | h | h | h <;> rw [h] <;> decide
  have e : (256 : Int) ^ 4 = 4294967296 := by decide
  unfold Wd; omega
set_option maxRecDepth 100000 in
theorem first_wds (b : List Int) (j : Nat) (hb : Bytes b) : Wds (first b j) := by
  intro z hz
  simp only [first, List.mem_map] at hz
  obtain ⟨i, _, rfl⟩ := hz
  exact val4 b _ hb

/-- The word that comes behind the words W. -/
def nextW (W : List Int) (n : Nat) : Int := (W.getD (n - 7) 0 + W.getD (n - 16) 0 + s0 (W.getD (n - 15) 0) + s1 (W.getD (n - 2) 0)) % 4294967296
def more (W : List Int) : Nat → List Int
  | 0 => W
  | n + 1 => more W n ++ [nextW (more W n) (16 + n)]
set_option maxRecDepth 100000 in
theorem more_length (W : List Int) (n : Nat) : (more W n).length = W.length + n := by
  induction n with
  | zero => rfl
  | succ n ih => simp [more, ih]; omega
set_option maxRecDepth 100000 in
theorem more_wds (W : List Int) (n : Nat) (h : Wds W) : Wds (more W n) := by
  induction n with
  | zero => exact h
  | succ n ih => exact ih.snoc (wd_mod _)
def sched (b : List Int) : List Int := more (first b 16) 48
set_option maxRecDepth 100000 in
theorem sched_length (b : List Int) : (sched b).length = 64 := by simp [sched, more_length, first_length]
set_option maxRecDepth 100000 in
theorem sched_wds (b : List Int) (hb : Bytes b) : Wds (sched b) := more_wds _ _ (first_wds b 16 hb)
set_option maxRecDepth 100000 in
theorem more_getD (W : List Int) (n m i : Nat) (h : n ≤ m) (hi : i < W.length + n) : (more W m).getD i 0 = (more W n).getD i 0 := by
  induction m with
  | zero => obtain rfl : n = 0 := by omega
            rfl
  | succ m ih =>
    by_cases e : n = m + 1
    · rw [e]
    · have h2 := ih (by omega)
      rw [← h2]
      have : i < (more W m).length := by rw [more_length]; omega
      simp [more, List.getD, List.getElem?_append, this]
set_option maxRecDepth 100000 in
theorem sched_first (b : List Int) (i : Nat) (h : i < 16) : (sched b).getD i 0 = val (piece b (4 * i) 4) := by
  unfold sched
  rw [more_getD _ 0 48 i (by omega) (by rw [first_length]; omega)]
  simp [more, first, List.getD, h]

/-- The 64 round words. -/
def kk : List Int := [1116352408, 1899447441, 3049323471, 3921009573, 961987163, 1508970993, 2453635748, 2870763221, 3624381080, 310598401, 607225278, 1426881987, 1925078388, 2162078206, 2614888103, 3248222580, 3835390401, 4022224774, 264347078, 604807628, 770255983, 1249150122, 1555081692, 1996064986, 2554220882, 2821834349, 2952996808, 3210313671, 3336571891, 3584528711, 113926993, 338241895, 666307205, 773529912, 1294757372, 1396182291, 1695183700, 1986661051, 2177026350, 2456956037, 2730485921, 2820302411, 3259730800, 3345764771, 3516065817, 3600352804, 4094571909, 275423344, 430227734, 506948616, 659060556, 883997877, 958139571, 1322822218, 1537002063, 1747873779, 1955562222, 2024104815, 2227730452, 2361852424, 2428436474, 2756734187, 3204031479, 3329325298]
set_option maxRecDepth 100000 in
theorem kk_length : kk.length = 64 := rfl
set_option maxRecDepth 100000 in
theorem kk_wds : Wds kk := by intro z hz; simp only [kk, List.mem_cons, List.not_mem_nil, or_false] at hz; unfold Wd; omega
/-- The eight words that a sum begins with. -/
def start8 : List Int := [1779033703, 3144134277, 1013904242, 2773480762, 1359893119, 2600822924, 528734635, 1541459225]
set_option maxRecDepth 100000 in
theorem start8_wds : Wds start8 := by intro z hz; simp only [start8, List.mem_cons, List.not_mem_nil, or_false] at hz; unfold Wd; omega

structure St where
  a : Int
  b : Int
  c : Int
  d : Int
  e : Int
  f : Int
  g : Int
  h : Int
def St.ok (s : St) : Prop := Wd s.a ∧ Wd s.b ∧ Wd s.c ∧ Wd s.d ∧ Wd s.e ∧ Wd s.f ∧ Wd s.g ∧ Wd s.h
def big1 (e : Int) : Int := xor3 (rot e 6) (rot e 11) (rot e 25)
def big0 (a : Int) : Int := xor3 (rot a 2) (rot a 13) (rot a 22)
def cho (e f g : Int) : Int := bits .xor .i64 (bits .and .i64 e f) (bits .and .i64 (bits .xor .i64 e 4294967295) g)
def maj (a b c : Int) : Int := xor3 (bits .and .i64 a b) (bits .and .i64 a c) (bits .and .i64 b c)
def tOf (k w : Int) (s : St) : Int := s.h + big1 s.e + cho s.e s.f s.g + k + w
def uOf (s : St) : Int := big0 s.a + maj s.a s.b s.c
def rnd (k w : Int) (s : St) : St := ⟨(tOf k w s + uOf s) % 4294967296, s.a, s.b, s.c, (s.d + tOf k w s) % 4294967296, s.e, s.f, s.g⟩
set_option maxRecDepth 100000 in
theorem rnd_ok (k w : Int) (s : St) (h : s.ok) : (rnd k w s).ok := by
  obtain ⟨a, b, c, d, e, f, g, _⟩ := h
  exact ⟨wd_mod _, a, b, c, wd_mod _, e, f, g⟩
set_option maxRecDepth 100000 in
theorem wd_big1 (e : Int) : Wd (big1 e) := wd_xor3 (wd_rot _ _) (wd_rot _ _) (wd_rot _ _)
set_option maxRecDepth 100000 in
theorem wd_big0 (e : Int) : Wd (big0 e) := wd_xor3 (wd_rot _ _) (wd_rot _ _) (wd_rot _ _)
set_option maxRecDepth 100000 in
theorem wd_cho {e f g : Int} (he : Wd e) (hf : Wd f) (hg : Wd g) : Wd (cho e f g) := wd_xor (wd_and he hf) (wd_and (wd_xor he (by unfold Wd; omega)) hg)
set_option maxRecDepth 100000 in
theorem wd_maj {e f g : Int} (he : Wd e) (hf : Wd f) (hg : Wd g) : Wd (maj e f g) := wd_xor3 (wd_and he hf) (wd_and he hg) (wd_and hf hg)

set_option maxRecDepth 100000 in
theorem andNot_word (g e : Int) (hg : Wd g) (he : Wd e) : bits .andNot .i64 g e = bits .and .i64 (bits .xor .i64 e 4294967295) g := by
  obtain ⟨G, rfl⟩ := Int.eq_ofNat_of_zero_le hg.1
  obtain ⟨E, rfl⟩ := Int.eq_ofNat_of_zero_le he.1
  have h1 := hg.2
  have h2 := he.2
  have hx : bits .xor .i64 (E : Int) 4294967295 = ((E ^^^ 4294967295 : Nat) : Int) := xor_i64 E 4294967295 (by omega) (by omega)
  have hxl := Nat.xor_lt_two_pow (x := E) (y := 4294967295) (n := 32) (by omega) (by omega)
  rw [hx, and_i64 _ _ (by omega) (by omega)]
  show IntKind.i64.wrap ((BitVec.ofInt 64 (G : Int) &&& ~~~ BitVec.ofInt 64 (E : Int)).toNat : Int) = _
  have key : (BitVec.ofInt 64 (G : Int) &&& ~~~ BitVec.ofInt 64 (E : Int)).toNat = (E ^^^ 4294967295) &&& G := by
    apply Nat.eq_of_testBit_eq
    intro i
    rw [BitVec.testBit_toNat, BitVec.getLsbD_and, BitVec.getLsbD_not, Nat.testBit_and, Nat.testBit_xor]
    have t1 : (BitVec.ofInt 64 (G : Int)).getLsbD i = G.testBit i := by rw [← BitVec.testBit_toNat, ofInt64_nat G (by omega)]
    have t2 : (BitVec.ofInt 64 (E : Int)).getLsbD i = E.testBit i := by rw [← BitVec.testBit_toNat, ofInt64_nat E (by omega)]
    rw [t1, t2]
    by_cases hi : i < 32
    · have t3 : Nat.testBit 4294967295 i = true := by
        rw [show 4294967295 = 2 ^ 32 - 1 by decide, Nat.testBit_two_pow_sub_one]; simpa using hi
      have hi2 : i < 64 := by omega
      rw [t3]
      cases G.testBit i <;> cases E.testBit i <;> simp [hi2]
    · have t4 : G.testBit i = false := Nat.testBit_lt_two_pow (Nat.lt_of_lt_of_le (show G < 2 ^ 32 by omega) (Nat.pow_le_pow_right (by omega) (by omega)))
      rw [t4]; simp
  rw [key]
  exact wrap_i64_nat _ (Nat.lt_of_le_of_lt Nat.and_le_right (by omega))

/-- n rounds from a state on. -/
def rounds (W : List Int) (s : St) : Nat → St
  | 0 => s
  | n + 1 => rnd (kk.getD n 0) (W.getD n 0) (rounds W s n)
set_option maxRecDepth 100000 in
theorem rounds_ok (W : List Int) (s : St) (n : Nat) (h : s.ok) : (rounds W s n).ok := by
  induction n with
  | zero => exact h
  | succ n ih => exact rnd_ok _ _ _ ih
def stOf (h : List Int) : St := ⟨h.getD 0 0, h.getD 1 0, h.getD 2 0, h.getD 3 0, h.getD 4 0, h.getD 5 0, h.getD 6 0, h.getD 7 0⟩
set_option maxRecDepth 100000 in
theorem stOf_ok {h : List Int} (hw : Wds h) : (stOf h).ok := ⟨hw.at 0, hw.at 1, hw.at 2, hw.at 3, hw.at 4, hw.at 5, hw.at 6, hw.at 7⟩
def St.list (s : St) : List Int := [s.a, s.b, s.c, s.d, s.e, s.f, s.g, s.h]
def plus (h l : List Int) (i : Nat) : Int := (h.getD i 0 + l.getD i 0) % 4294967296
/-- The eight words behind a block. -/
def comp (h b : List Int) : List Int := (List.range 8).map (plus h (rounds (sched b) (stOf h) 64).list)
set_option maxRecDepth 100000 in
theorem comp_length (h b : List Int) : (comp h b).length = 8 := by simp [comp]
set_option maxRecDepth 100000 in
theorem comp_wds (h b : List Int) : Wds (comp h b) := by
  intro z hz
  simp only [comp, List.mem_map] at hz
  obtain ⟨i, _, rfl⟩ := hz
  exact wd_mod _
set_option maxRecDepth 100000 in
theorem comp_getD (h b : List Int) (i : Nat) (hi : i < 8) : (comp h b).getD i 0 = plus h (rounds (sched b) (stOf h) 64).list i := by
  simp [comp, List.getD, hi]

/-- The eight words behind the first n blocks of x. -/
def run (h x : List Int) : Nat → List Int
  | 0 => h
  | n + 1 => comp (run h x n) (piece x (64 * n) 64)
set_option maxRecDepth 100000 in
theorem run_length (h x : List Int) (n : Nat) (hh : h.length = 8) : (run h x n).length = 8 := by
  cases n with
  | zero => exact hh
  | succ n => exact comp_length _ _
set_option maxRecDepth 100000 in
theorem run_wds (h x : List Int) (n : Nat) (hh : Wds h) : Wds (run h x n) := by
  cases n with
  | zero => exact hh
  | succ n => exact comp_wds _ _
set_option maxRecDepth 100000 in
theorem piece_left (x y : List Int) (i k : Nat) (h : i + k ≤ x.length) : piece (x ++ y) i k = piece x i k := by
  unfold piece
  rw [List.drop_append_of_le_length (by omega), List.take_append_of_le_length (by rw [List.length_drop]; omega)]
set_option maxRecDepth 100000 in
theorem run_left (h x y : List Int) (n : Nat) (hn : 64 * n ≤ x.length) : run h (x ++ y) n = run h x n := by
  induction n with
  | zero => rfl
  | succ n ih => rw [run, run, ih (by omega), piece_left x y _ _ (by omega)]
set_option maxRecDepth 100000 in
theorem run_more (h x : List Int) (q m : Nat) : run h x (q + m) = run (run h x q) (x.drop (64 * q)) m := by
  induction m with
  | zero => rfl
  | succ m ih =>
    rw [← Nat.add_assoc, run, run, ih]
    congr 1
    unfold piece
    rw [List.drop_drop]
    congr 2
    omega
set_option maxRecDepth 100000 in
/-- What is added to a rest goes on where the blocks before have ended. -/
theorem run_parts (h x y : List Int) (q m : Nat) (hq : 64 * q ≤ x.length) : run (run h x q) (x.drop (64 * q) ++ y) m = run h (x ++ y) (q + m) := by
  rw [run_more, run_left h x y q hq, List.drop_append_of_le_length hq]

/-- The pad of a text of n bytes. -/
def padOf (n : Nat) : List Int := 128 :: (List.replicate ((64 - (n + 9) % 64) % 64) 0 ++ num (8 * (n : Int)) 8)
set_option maxRecDepth 100000 in
theorem padOf_length (n : Nat) : (padOf n).length = 9 + (64 - (n + 9) % 64) % 64 := by simp [padOf, num_length]; omega
set_option maxRecDepth 100000 in
theorem pad_nums (n : Nat) (h : n ≤ 1048576) : num (8 * (n : Int)) 8 = num 0 4 ++ num (8 * (n : Int)) 4 := by
  have e1 : (8 * (n : Int)) / 2 ^ 56 = 0 := by omega
  have e2 : (8 * (n : Int)) / 2 ^ 48 = 0 := by omega
  have e3 : (8 * (n : Int)) / 2 ^ 40 = 0 := by omega
  have e4 : (8 * (n : Int)) / 2 ^ 32 = 0 := by omega
  simp only [num, Nat.reduceMul, List.cons_append, List.nil_append, e1, e2, e3, e4]
  simp
/-- The bytes of words: four a word. -/
def outB : List Int → List Int
  | [] => []
  | x :: r => num x 4 ++ outB r
set_option maxRecDepth 100000 in
theorem outB_length (l : List Int) : (outB l).length = 4 * l.length := by
  induction l with
  | nil => rfl
  | cons x r ih => simp [outB, num_length, ih]; omega
set_option maxRecDepth 100000 in
theorem outB_snoc (l : List Int) (z : Int) : outB (l ++ [z]) = outB l ++ num z 4 := by
  induction l with
  | nil => simp [outB]
  | cons x r ih => simp [outB, ih]
/-- The sum of the bytes x behind the words h, of n bytes in all. -/
def endOf (h held : List Int) (n : Nat) : List Int := outB (run h (held ++ padOf n) ((held ++ padOf n).length / 64))
def shaOf (x : List Int) : List Int := endOf start8 x x.length
end Go.Proofs.Ytadlckgaeljdkaa.ShaP

/-
  What impl's and spec's GetN answer at every slice of at most 4,194,304 bytes, every place and every number of bytes: the same three results.
  The sum of 256 bits as plain functions of lists of numbers, and plain facts on them: every word stays a word, what is added in parts is what is added as a whole. No condition beyond those that each lemma names.
  What impl's and spec's Pad answer at every int: the same bytes, in new memory.
  What impl's and spec's Rot and Add32 answer at every two ints: the same number; nothing in memory turns.
  What impl's and spec's Schedule answer at every slice of bytes of at most 4,194,304: the same words, in new memory.
  What spec's l1In, l2Words and l2K and impl's list of eight words answer, at every slice of ints of at most 4,194,304.
  Frames as plain data: which are right, their bytes, and back.
  A frame's bytes as plain data.
  What the draws of the laws are good for: the cursor stays a cursor, what it gives lies in its bounds, and nothing but the cursor is written. No value of a draw is told.
-/
import Derived.Test.YtmcflfpckpjphaaHs1
import Derived.Laws.BitsAllLaws
import Derived.Test.YtmcflfpckpjphaaProg
import Derived.WalkLawsBesides
import Derived.Deep.QuietTactic
import Derived.BigQuiet
import Derived.Deep.RegionWith
import Derived.Test.YtmcflfpckpjphaaHs2
set_option linter.unusedVariables false
namespace Go.Proofs.Ytmcflfpckpjphaa.Get
open Go.RowKit Go.Proofs.Ytmcflfpckpjphaa.Mem Go.Proofs.Ytmcflfpckpjphaa.App

/-- The number that bytes are, the highest first. -/
def val (l : List Int) : Int := l.foldl (fun n z => n * 256 + z) 0
set_option maxRecDepth 100000 in
theorem val_snoc (l : List Int) (z : Int) : val (l ++ [z]) = val l * 256 + z := by simp [val]
set_option maxRecDepth 100000 in
theorem fold_bd (l : List Int) (h : Bytes l) : ∀ acc : Int, 0 ≤ acc → 0 ≤ l.foldl (fun n z => n * 256 + z) acc ∧ l.foldl (fun n z => n * 256 + z) acc < (acc + 1) * 256 ^ l.length := by
  induction l with
  | nil => intro acc h0; simp; omega
  | cons z r ih =>
    intro acc h0
    have hz := h z (by simp)
    have hr := ih (fun x hx => h x (by simp [hx])) (acc * 256 + z) (by omega)
    refine ⟨hr.1, Int.lt_of_lt_of_le hr.2 ?_⟩
    rw [List.length_cons, Int.pow_succ, Int.mul_comm (256 ^ r.length) 256, ← Int.mul_assoc]
    exact Int.mul_le_mul_of_nonneg_right (by omega) (Int.le_of_lt (Int.pow_pos (by decide)))
set_option maxRecDepth 100000 in
theorem val_bd (l : List Int) (h : Bytes l) : 0 ≤ val l ∧ val l < 256 ^ l.length := by
  have := fold_bd l h 0 (by omega)
  unfold val
  simpa using this

/-- The n bytes from a place on. -/
def piece (l : List Int) (i k : Nat) : List Int := (l.drop i).take k
set_option maxRecDepth 100000 in
theorem piece_succ (l : List Int) (i k : Nat) (h : i + k < l.length) : piece l i (k + 1) = piece l i k ++ [l.getD (i + k) 0] := by
  unfold piece
  rw [List.take_succ_eq_append_getElem (by rw [List.length_drop]; omega)]
  simp [List.getD, h]
set_option maxRecDepth 100000 in
theorem piece_bytes {l : List Int} (h : Bytes l) (i k : Nat) : Bytes (piece l i k) := fun z hz => h z (List.mem_of_mem_drop (List.mem_of_mem_take hz))
set_option maxRecDepth 100000 in
theorem piece_length (l : List Int) (i k : Nat) (h : i + k ≤ l.length) : (piece l i k).length = k := by
  unfold piece; rw [List.length_take, List.length_drop]; omega
set_option maxRecDepth 100000 in
theorem val_piece (l : List Int) (i k : Nat) (hb : Bytes l) (h : i + k ≤ l.length) (hk : k ≤ 6) : 0 ≤ val (piece l i k) ∧ val (piece l i k) < 281474976710656 := by
  have := val_bd _ (piece_bytes hb i k)
  rw [piece_length l i k h] at this
  refine ⟨this.1, Int.lt_of_lt_of_le this.2 ?_⟩
  have h2 : (256 : Int) ^ k ≤ 256 ^ 6 := by
    rcases (show k = 0 ∨ k = 1 ∨ k = 2 ∨ k = 3 ∨ k = 4 ∨ k = 5 ∨ k = 6 by omega) with rfl | rfl | rfl | rfl | rfl | rfl | rfl <;> decide
  have e : (256 : Int) ^ 6 = 281474976710656 := by decide
  omega
set_option maxRecDepth 100000 in
theorem val_piece5 (l : List Int) (i k : Nat) (hb : Bytes l) (h : i + k ≤ l.length) (hk : k ≤ 5) : 0 ≤ val (piece l i k) ∧ val (piece l i k) < 1099511627776 := by
  have := val_bd _ (piece_bytes hb i k)
  rw [piece_length l i k h] at this
  refine ⟨this.1, Int.lt_of_lt_of_le this.2 ?_⟩
  have h2 : (256 : Int) ^ k ≤ 256 ^ 5 := by
    rcases (show k = 0 ∨ k = 1 ∨ k = 2 ∨ k = 3 ∨ k = 4 ∨ k = 5 by omega) with rfl | rfl | rfl | rfl | rfl | rfl <;> decide
  have e : (256 : Int) ^ 5 = 1099511627776 := by decide
  omega
set_option maxRecDepth 100000 in
theorem or_step (n z : Int) (h0 : 0 ≤ n) (h1 : n < 1099511627776) (h2 : 0 ≤ z) (h3 : z ≤ 255) : bits .or .i64 (n * 256) z = n * 256 + z := by
  obtain ⟨N, rfl⟩ := Int.eq_ofNat_of_zero_le h0
  obtain ⟨Z, rfl⟩ := Int.eq_ofNat_of_zero_le h2
  have := Bits.or_i64 (N * 256) Z (by omega) (by omega)
  rw [nat_join 8 (N * 256) Z (by omega) (by omega)] at this
  rw [show (N : Int) * 256 = ((N * 256 : Nat) : Int) by omega, this]
  omega

/-- Whether k bytes are there from i on. -/
def there (len : Nat) (i k : Int) : Bool := decide (0 ≤ i ∧ 0 ≤ k ∧ k ≤ (len : Int) - i)
set_option maxRecDepth 100000 in
theorem there_yes {len : Nat} {i k : Int} (h : 0 ≤ i ∧ 0 ≤ k ∧ k ≤ (len : Int) - i) : there len i k = true := by simpa [there] using h
set_option maxRecDepth 100000 in
theorem there_no {len : Nat} {i k : Int} (h : ¬ (0 ≤ i ∧ 0 ≤ k ∧ k ≤ (len : Int) - i)) : there len i k = false := by
  unfold there; exact decide_eq_false h

def gotN (l : List Int) (i k : Int) : Value :=
  if isSize k = true ∧ there l.length i k = true then .tuple #[.int .i64 (val (piece l i.toNat k.toNat)), .int .i64 (i + k), .bool true] else .tuple #[.int .i64 0, .int .i64 0, .bool false]

set_option maxRecDepth 100000 in
set_option maxHeartbeats 800000 in
theorem specGetN (a : Option Addr) (len cap : Nat) (l : List Int) (i k : Int) (w : World) (hl : len = l.length) (hr : Rd w a l) (hb : Bytes l) (hlen : len ≤ 4194304) :
    Calls Try.prog 130 #[.slice a len cap, .int .i64 i, .int .i64 k] w fun e w' => e = .returned (gotN l i k) ∧ w = w' := by
  have HR : Hid (Rd w a l) := hr
  have HB : Hid (Bytes l) := hb
  have HL : Hid (len = l.length) := hl
  clear hr hb hl
  by_cases hk : 1 ≤ k ∧ k ≤ 6
  · obtain ⟨k1, k2⟩ := hk
    by_cases hi : 0 ≤ i
    · by_cases ht : i ≤ (len : Int) - k
      · have HG : Hid (gotN l i k = .tuple #[.int .i64 (val (piece l i.toNat k.toNat)), .int .i64 (i + k), .bool true]) := by
          show gotN l i k = _
          unfold gotN; rw [if_pos ⟨(isSize_iff k).2 ⟨k1, k2⟩, there_yes (by rw [← HL.out]; omega)⟩]
        obtain ⟨I, rfl⟩ := Int.eq_ofNat_of_zero_le hi
        obtain ⟨K, rfl⟩ := Int.eq_ofNat_of_zero_le (show 0 ≤ k by omega)
        rw [Int.toNat_natCast, Int.toNat_natCast] at HG
        obtain ⟨b, off, rfl, _, _⟩ := HR.out I (by have := HL.out; omega)
        go_enter Try.func130, Try.ntmps130
        go_wp2_with fail
        go_loop [9, 10] (fun n j => ∃ q : Nat, q ≤ K ∧ j = .int .i64 q ∧ n = .int .i64 (val (piece l I q))) (fun _ j => K - (intOf j).toNat)
        case atStart => exact ⟨0, Nat.zero_le _, rfl, rfl⟩
        case round =>
          obtain ⟨q, hq, rfl, rfl⟩ := hrel
          by_cases hlt : q < K
          · obtain ⟨b', off', e, _, hc⟩ := HR.out (I + q) (by have := HL.out; omega)
            simp only [Option.some.injEq, Addr.mk.injEq, and_true] at e
            obtain ⟨rfl, rfl⟩ := e
            have hv := val_piece5 l I q HB.out (by have := HL.out; omega) (by omega)
            have hz := HB.out.at (I + q)
            have HS : Hid (val (piece l I (q + 1)) = val (piece l I q) * 256 + l.getD (I + q) 0) := by
              show _ = _
              rw [piece_succ l I q (by have := HL.out; omega), val_snoc]
            generalize l.getD (I + q) 0 = z at *
            generalize val (piece l I q) = n at *
            obtain ⟨hv1, hv2⟩ := hv
            obtain ⟨hz1, hz2⟩ := hz
            have hil : ((I + q : Nat) : Int) < (len : Int) := by omega
            go_wp2
            go_round
            case rel => exact ⟨q + 1, by omega, by go_num, by rw [HS.out]⟩
            case measure => simp [intOf]; omega
          · obtain rfl : q = K := by omega
            go_wp2
            go_ret3
            exact ⟨by rw [HG.out]; rfl, rfl⟩
      · have HG : Hid (gotN l i k = .tuple #[.int .i64 0, .int .i64 0, .bool false]) := by
          show gotN l i k = _
          unfold gotN; rw [if_neg (by rw [there_no (by rw [← HL.out]; omega)]; simp)]
        go_enter Try.func130, Try.ntmps130
        go_wp2
        go_ret3
        exact ⟨by rw [HG.out]; rfl, rfl⟩
    · have HG : Hid (gotN l i k = .tuple #[.int .i64 0, .int .i64 0, .bool false]) := by
        show gotN l i k = _
        unfold gotN; rw [if_neg (by rw [there_no (by omega)]; simp)]
      go_enter Try.func130, Try.ntmps130
      go_wp2
      go_ret3
      exact ⟨by rw [HG.out]; rfl, rfl⟩
  · have HG : Hid (gotN l i k = .tuple #[.int .i64 0, .int .i64 0, .bool false]) := by
      show gotN l i k = _
      unfold gotN; rw [if_neg (by rw [isSize_not k hk]; simp)]
    rcases (show k < 1 ∨ 6 < k by omega) with hk' | hk'
    all_goals
      go_enter Try.func130, Try.ntmps130
      go_wp2
      go_ret3
      exact ⟨by rw [HG.out]; rfl, rfl⟩
end Go.Proofs.Ytmcflfpckpjphaa.Get

namespace Go.Proofs.Ytmcflfpckpjphaa.ShaP
open Go.RowKit Go.Proofs.Ytmcflfpckpjphaa.Mem Go.Proofs.Ytmcflfpckpjphaa.App Go.Proofs.Ytmcflfpckpjphaa.Get Go.Proofs.Ytmcflfpckpjphaa.Bits

def Wd (x : Int) : Prop := 0 ≤ x ∧ x ≤ 4294967295
set_option maxRecDepth 100000 in
theorem wd_mod (x : Int) : Wd (x % 4294967296) := by unfold Wd; omega
set_option maxRecDepth 100000 in
theorem wd_rot (x n : Int) : Wd (rot x n) := rot_bd x n

set_option maxRecDepth 100000 in
theorem wd_xor {a b : Int} (ha : Wd a) (hb : Wd b) : Wd (bits .xor .i64 a b) := by
  obtain ⟨A, rfl⟩ := Int.eq_ofNat_of_zero_le ha.1
  obtain ⟨B, rfl⟩ := Int.eq_ofNat_of_zero_le hb.1
  have h1 := ha.2
  have h2 := hb.2
  rw [xor_i64 A B (by omega) (by omega)]
  have := Nat.xor_lt_two_pow (x := A) (y := B) (n := 32) (by omega) (by omega)
  unfold Wd; omega
set_option maxRecDepth 100000 in
theorem wd_and {a b : Int} (ha : Wd a) (hb : Wd b) : Wd (bits .and .i64 a b) := by
  obtain ⟨A, rfl⟩ := Int.eq_ofNat_of_zero_le ha.1
  obtain ⟨B, rfl⟩ := Int.eq_ofNat_of_zero_le hb.1
  have h1 := ha.2
  have h2 := hb.2
  rw [and_i64 A B (by omega) (by omega)]
  have : A &&& B ≤ A := Nat.and_le_left
  unfold Wd; omega

def xor3 (a b c : Int) : Int := bits .xor .i64 (bits .xor .i64 a b) c
set_option maxRecDepth 100000 in
theorem wd_xor3 {a b c : Int} (ha : Wd a) (hb : Wd b) (hc : Wd c) : Wd (xor3 a b c) := wd_xor (wd_xor ha hb) hc

def s0 (x : Int) : Int := xor3 (rot x 7) (rot x 18) (x / 8)
def s1 (x : Int) : Int := xor3 (rot x 17) (rot x 19) (x / 1024)
set_option maxRecDepth 100000 in
theorem wd_s0 {x : Int} (h : Wd x) : Wd (s0 x) := wd_xor3 (wd_rot _ _) (wd_rot _ _) (by unfold Wd at *; omega)
set_option maxRecDepth 100000 in
theorem wd_s1 {x : Int} (h : Wd x) : Wd (s1 x) := wd_xor3 (wd_rot _ _) (wd_rot _ _) (by unfold Wd at *; omega)

def Wds (l : List Int) : Prop := ∀ z ∈ l, Wd z
set_option maxRecDepth 100000 in
theorem Wds.at {l : List Int} (h : Wds l) (i : Nat) : Wd (l.getD i 0) := by
  by_cases hi : i < l.length
  · simpa [List.getD, hi] using h _ (List.getElem_mem hi)
  · simp [List.getD, List.getElem?_eq_none (Nat.le_of_not_lt hi), Wd]
set_option maxRecDepth 100000 in
theorem Wds.snoc {l : List Int} {z : Int} (h : Wds l) (hz : Wd z) : Wds (l ++ [z]) := by
  intro y hy
  rcases List.mem_append.1 hy with hy | hy
  · exact h y hy
  · simp at hy; subst hy; exact hz

/-- The first j words of a block: its bytes, four by four. -/
def first (b : List Int) (j : Nat) : List Int := (List.range j).map fun i => val (piece b (4 * i) 4)
set_option maxRecDepth 100000 in
theorem first_length (b : List Int) (j : Nat) : (first b j).length = j := by simp [first]
set_option maxRecDepth 100000 in
theorem first_succ (b : List Int) (j : Nat) : first b (j + 1) = first b j ++ [val (piece b (4 * j) 4)] := by simp [first, List.range_succ]
set_option maxRecDepth 100000 in
theorem val4 (b : List Int) (j : Nat) (hb : Bytes b) : Wd (val (piece b j 4)) := by
  have := val_bd _ (piece_bytes hb j 4)
  have h2 : (piece b j 4).length ≤ 4 := by unfold piece; rw [List.length_take]; omega
  have h3 : (256 : Int) ^ (piece b j 4).length ≤ 256 ^ 4 := by
    rcases (show (piece b j 4).length = 0 ∨ (piece b j 4).length = 1 ∨ (piece b j 4).length = 2 ∨ (piece b j 4).length = 3 ∨ (piece b j 4).length = 4 by omega) with h | h | h | h | h <;> rw [h] <;> decide
  have e : (256 : Int) ^ 4 = 4294967296 := by decide
  unfold Wd; omega
set_option maxRecDepth 100000 in
theorem first_wds (b : List Int) (j : Nat) (hb : Bytes b) : Wds (first b j) := by
  intro z hz
  simp only [first, List.mem_map] at hz
  obtain ⟨i, _, rfl⟩ := hz
  exact val4 b _ hb

/-- The word that comes behind the words W. -/
def nextW (W : List Int) (n : Nat) : Int := (W.getD (n - 7) 0 + W.getD (n - 16) 0 + s0 (W.getD (n - 15) 0) + s1 (W.getD (n - 2) 0)) % 4294967296
def more (W : List Int) : Nat → List Int
  | 0 => W
  | n + 1 => more W n ++ [nextW (more W n) (16 + n)]
set_option maxRecDepth 100000 in
theorem more_length (W : List Int) (n : Nat) : (more W n).length = W.length + n := by
  induction n with
  | zero => rfl
  | succ n ih => simp [more, ih]; omega
set_option maxRecDepth 100000 in
theorem more_wds (W : List Int) (n : Nat) (h : Wds W) : Wds (more W n) := by
  induction n with
  | zero => exact h
  | succ n ih => exact ih.snoc (wd_mod _)
def sched (b : List Int) : List Int := more (first b 16) 48
set_option maxRecDepth 100000 in
theorem sched_length (b : List Int) : (sched b).length = 64 := by simp [sched, more_length, first_length]
set_option maxRecDepth 100000 in
theorem sched_wds (b : List Int) (hb : Bytes b) : Wds (sched b) := more_wds _ _ (first_wds b 16 hb)
set_option maxRecDepth 100000 in
theorem more_getD (W : List Int) (n m i : Nat) (h : n ≤ m) (hi : i < W.length + n) : (more W m).getD i 0 = (more W n).getD i 0 := by
  induction m with
  | zero => obtain rfl : n = 0 := by omega
            rfl
  | succ m ih =>
    by_cases e : n = m + 1
    · rw [e]
    · have h2 := ih (by omega)
      rw [← h2]
      have : i < (more W m).length := by rw [more_length]; omega
      simp [more, List.getD, List.getElem?_append, this]
set_option maxRecDepth 100000 in
theorem sched_first (b : List Int) (i : Nat) (h : i < 16) : (sched b).getD i 0 = val (piece b (4 * i) 4) := by
  unfold sched
  rw [more_getD _ 0 48 i (by omega) (by rw [first_length]; omega)]
  simp [more, first, List.getD, h]

/-- The 64 round words. -/
def kk : List Int := [1116352408, 1899447441, 3049323471, 3921009573, 961987163, 1508970993, 2453635748, 2870763221, 3624381080, 310598401, 607225278, 1426881987, 1925078388, 2162078206, 2614888103, 3248222580, 3835390401, 4022224774, 264347078, 604807628, 770255983, 1249150122, 1555081692, 1996064986, 2554220882, 2821834349, 2952996808, 3210313671, 3336571891, 3584528711, 113926993, 338241895, 666307205, 773529912, 1294757372, 1396182291, 1695183700, 1986661051, 2177026350, 2456956037, 2730485921, 2820302411, 3259730800, 3345764771, 3516065817, 3600352804, 4094571909, 275423344, 430227734, 506948616, 659060556, 883997877, 958139571, 1322822218, 1537002063, 1747873779, 1955562222, 2024104815, 2227730452, 2361852424, 2428436474, 2756734187, 3204031479, 3329325298]
set_option maxRecDepth 100000 in
theorem kk_length : kk.length = 64 := rfl
set_option maxRecDepth 100000 in
theorem kk_wds : Wds kk := by intro z hz; simp only [kk, List.mem_cons, List.not_mem_nil, or_false] at hz; unfold Wd; omega
/-- The eight words that a sum begins with. -/
def start8 : List Int := [1779033703, 3144134277, 1013904242, 2773480762, 1359893119, 2600822924, 528734635, 1541459225]
set_option maxRecDepth 100000 in
theorem start8_wds : Wds start8 := by intro z hz; simp only [start8, List.mem_cons, List.not_mem_nil, or_false] at hz; unfold Wd; omega

structure St where
  a : Int
  b : Int
  c : Int
  d : Int
  e : Int
  f : Int
  g : Int
  h : Int
def St.ok (s : St) : Prop := Wd s.a ∧ Wd s.b ∧ Wd s.c ∧ Wd s.d ∧ Wd s.e ∧ Wd s.f ∧ Wd s.g ∧ Wd s.h
def big1 (e : Int) : Int := xor3 (rot e 6) (rot e 11) (rot e 25)
def big0 (a : Int) : Int := xor3 (rot a 2) (rot a 13) (rot a 22)
def cho (e f g : Int) : Int := bits .xor .i64 (bits .and .i64 e f) (bits .and .i64 (bits .xor .i64 e 4294967295) g)
def maj (a b c : Int) : Int := xor3 (bits .and .i64 a b) (bits .and .i64 a c) (bits .and .i64 b c)
def tOf (k w : Int) (s : St) : Int := s.h + big1 s.e + cho s.e s.f s.g + k + w
def uOf (s : St) : Int := big0 s.a + maj s.a s.b s.c
def rnd (k w : Int) (s : St) : St := ⟨(tOf k w s + uOf s) % 4294967296, s.a, s.b, s.c, (s.d + tOf k w s) % 4294967296, s.e, s.f, s.g⟩
set_option maxRecDepth 100000 in
theorem rnd_ok (k w : Int) (s : St) (h : s.ok) : (rnd k w s).ok := by
  obtain ⟨a, b, c, d, e, f, g, _⟩ := h
  exact ⟨wd_mod _, a, b, c, wd_mod _, e, f, g⟩
set_option maxRecDepth 100000 in
theorem wd_big1 (e : Int) : Wd (big1 e) := wd_xor3 (wd_rot _ _) (wd_rot _ _) (wd_rot _ _)
set_option maxRecDepth 100000 in
theorem wd_big0 (e : Int) : Wd (big0 e) := wd_xor3 (wd_rot _ _) (wd_rot _ _) (wd_rot _ _)
set_option maxRecDepth 100000 in
theorem wd_cho {e f g : Int} (he : Wd e) (hf : Wd f) (hg : Wd g) : Wd (cho e f g) := wd_xor (wd_and he hf) (wd_and (wd_xor he (by unfold Wd; omega)) hg)
set_option maxRecDepth 100000 in
theorem wd_maj {e f g : Int} (he : Wd e) (hf : Wd f) (hg : Wd g) : Wd (maj e f g) := wd_xor3 (wd_and he hf) (wd_and he hg) (wd_and hf hg)

set_option maxRecDepth 100000 in
theorem andNot_word (g e : Int) (hg : Wd g) (he : Wd e) : bits .andNot .i64 g e = bits .and .i64 (bits .xor .i64 e 4294967295) g := by
  obtain ⟨G, rfl⟩ := Int.eq_ofNat_of_zero_le hg.1
  obtain ⟨E, rfl⟩ := Int.eq_ofNat_of_zero_le he.1
  have h1 := hg.2
  have h2 := he.2
  have hx : bits .xor .i64 (E : Int) 4294967295 = ((E ^^^ 4294967295 : Nat) : Int) := xor_i64 E 4294967295 (by omega) (by omega)
  have hxl := Nat.xor_lt_two_pow (x := E) (y := 4294967295) (n := 32) (by omega) (by omega)
  rw [hx, and_i64 _ _ (by omega) (by omega)]
  show IntKind.i64.wrap ((BitVec.ofInt 64 (G : Int) &&& ~~~ BitVec.ofInt 64 (E : Int)).toNat : Int) = _
  have key : (BitVec.ofInt 64 (G : Int) &&& ~~~ BitVec.ofInt 64 (E : Int)).toNat = (E ^^^ 4294967295) &&& G := by
    apply Nat.eq_of_testBit_eq
    intro i
    rw [BitVec.testBit_toNat, BitVec.getLsbD_and, BitVec.getLsbD_not, Nat.testBit_and, Nat.testBit_xor]
    have t1 : (BitVec.ofInt 64 (G : Int)).getLsbD i = G.testBit i := by rw [← BitVec.testBit_toNat, ofInt64_nat G (by omega)]
    have t2 : (BitVec.ofInt 64 (E : Int)).getLsbD i = E.testBit i := by rw [← BitVec.testBit_toNat, ofInt64_nat E (by omega)]
    rw [t1, t2]
    by_cases hi : i < 32
    · have t3 : Nat.testBit 4294967295 i = true := by
        rw [show 4294967295 = 2 ^ 32 - 1 by decide, Nat.testBit_two_pow_sub_one]; simpa using hi
      have hi2 : i < 64 := by omega
      rw [t3]
      cases G.testBit i <;> cases E.testBit i <;> simp [hi2]
    · have t4 : G.testBit i = false := Nat.testBit_lt_two_pow (Nat.lt_of_lt_of_le (show G < 2 ^ 32 by omega) (Nat.pow_le_pow_right (by omega) (by omega)))
      rw [t4]; simp
  rw [key]
  exact wrap_i64_nat _ (Nat.lt_of_le_of_lt Nat.and_le_right (by omega))

/-- n rounds from a state on. -/
def rounds (W : List Int) (s : St) : Nat → St
  | 0 => s
  | n + 1 => rnd (kk.getD n 0) (W.getD n 0) (rounds W s n)
set_option maxRecDepth 100000 in
theorem rounds_ok (W : List Int) (s : St) (n : Nat) (h : s.ok) : (rounds W s n).ok := by
  induction n with
  | zero => exact h
  | succ n ih => exact rnd_ok _ _ _ ih
def stOf (h : List Int) : St := ⟨h.getD 0 0, h.getD 1 0, h.getD 2 0, h.getD 3 0, h.getD 4 0, h.getD 5 0, h.getD 6 0, h.getD 7 0⟩
set_option maxRecDepth 100000 in
theorem stOf_ok {h : List Int} (hw : Wds h) : (stOf h).ok := ⟨hw.at 0, hw.at 1, hw.at 2, hw.at 3, hw.at 4, hw.at 5, hw.at 6, hw.at 7⟩
def St.list (s : St) : List Int := [s.a, s.b, s.c, s.d, s.e, s.f, s.g, s.h]
def plus (h l : List Int) (i : Nat) : Int := (h.getD i 0 + l.getD i 0) % 4294967296
/-- The eight words behind a block. -/
def comp (h b : List Int) : List Int := (List.range 8).map (plus h (rounds (sched b) (stOf h) 64).list)
set_option maxRecDepth 100000 in
theorem comp_length (h b : List Int) : (comp h b).length = 8 := by simp [comp]
set_option maxRecDepth 100000 in
theorem comp_wds (h b : List Int) : Wds (comp h b) := by
  intro z hz
  simp only [comp, List.mem_map] at hz
  obtain ⟨i, _, rfl⟩ := hz
  exact wd_mod _
set_option maxRecDepth 100000 in
theorem comp_getD (h b : List Int) (i : Nat) (hi : i < 8) : (comp h b).getD i 0 = plus h (rounds (sched b) (stOf h) 64).list i := by
  simp [comp, List.getD, hi]

/-- The eight words behind the first n blocks of x. -/
def run (h x : List Int) : Nat → List Int
  | 0 => h
  | n + 1 => comp (run h x n) (piece x (64 * n) 64)
set_option maxRecDepth 100000 in
theorem run_length (h x : List Int) (n : Nat) (hh : h.length = 8) : (run h x n).length = 8 := by
  cases n with
  | zero => exact hh
  | succ n => exact comp_length _ _
set_option maxRecDepth 100000 in
theorem run_wds (h x : List Int) (n : Nat) (hh : Wds h) : Wds (run h x n) := by
  cases n with
  | zero => exact hh
  | succ n => exact comp_wds _ _
set_option maxRecDepth 100000 in
theorem piece_left (x y : List Int) (i k : Nat) (h : i + k ≤ x.length) : piece (x ++ y) i k = piece x i k := by
  unfold piece
  rw [List.drop_append_of_le_length (by omega), List.take_append_of_le_length (by rw [List.length_drop]; omega)]
set_option maxRecDepth 100000 in
theorem run_left (h x y : List Int) (n : Nat) (hn : 64 * n ≤ x.length) : run h (x ++ y) n = run h x n := by
  induction n with
  | zero => rfl
  | succ n ih => rw [run, run, ih (by omega), piece_left x y _ _ (by omega)]
set_option maxRecDepth 100000 in
theorem run_more (h x : List Int) (q m : Nat) : run h x (q + m) = run (run h x q) (x.drop (64 * q)) m := by
  induction m with
  | zero => rfl
  | succ m ih =>
    rw [← Nat.add_assoc, run, run, ih]
    congr 1
    unfold piece
    rw [List.drop_drop]
    congr 2
    omega
set_option maxRecDepth 100000 in
/-- What is added to a rest goes on where the blocks before have ended. -/
theorem run_parts (h x y : List Int) (q m : Nat) (hq : 64 * q ≤ x.length) : run (run h x q) (x.drop (64 * q) ++ y) m = run h (x ++ y) (q + m) := by
  rw [run_more, run_left h x y q hq, List.drop_append_of_le_length hq]

/-- The pad of a text of n bytes. -/
def padOf (n : Nat) : List Int := 128 :: (List.replicate ((64 - (n + 9) % 64) % 64) 0 ++ num (8 * (n : Int)) 8)
set_option maxRecDepth 100000 in
theorem padOf_length (n : Nat) : (padOf n).length = 9 + (64 - (n + 9) % 64) % 64 := by simp [padOf, num_length]; omega
set_option maxRecDepth 100000 in
theorem pad_nums (n : Nat) (h : n ≤ 1048576) : num (8 * (n : Int)) 8 = num 0 4 ++ num (8 * (n : Int)) 4 := by
  have e1 : (8 * (n : Int)) / 2 ^ 56 = 0 := by omega
  have e2 : (8 * (n : Int)) / 2 ^ 48 = 0 := by omega
  have e3 : (8 * (n : Int)) / 2 ^ 40 = 0 := by omega
  have e4 : (8 * (n : Int)) / 2 ^ 32 = 0 := by omega
  simp only [num, Nat.reduceMul, List.cons_append, List.nil_append, e1, e2, e3, e4]
  simp
/-- The bytes of words: four a word. -/
def outB : List Int → List Int
  | [] => []
  | x :: r => num x 4 ++ outB r
set_option maxRecDepth 100000 in
theorem outB_length (l : List Int) : (outB l).length = 4 * l.length := by
  induction l with
  | nil => rfl
  | cons x r ih => simp [outB, num_length, ih]; omega
set_option maxRecDepth 100000 in
theorem outB_snoc (l : List Int) (z : Int) : outB (l ++ [z]) = outB l ++ num z 4 := by
  induction l with
  | nil => simp [outB]
  | cons x r ih => simp [outB, ih]
/-- The sum of the bytes x behind the words h, of n bytes in all. -/
def endOf (h held : List Int) (n : Nat) : List Int := outB (run h (held ++ padOf n) ((held ++ padOf n).length / 64))
def shaOf (x : List Int) : List Int := endOf start8 x x.length
end Go.Proofs.Ytmcflfpckpjphaa.ShaP

namespace Go.Proofs.Ytmcflfpckpjphaa.Pads
open Go.RowKit Go.Proofs.Ytmcflfpckpjphaa.Mem Go.Proofs.Ytmcflfpckpjphaa.App Go.Proofs.Ytmcflfpckpjphaa.Get Go.Proofs.Ytmcflfpckpjphaa.ShaP

/-- Whether n may be a text's length. -/
def isLen (n : Int) : Bool := decide (0 ≤ n ∧ n ≤ 1048576)
set_option maxRecDepth 100000 in
theorem isLen_yes {n : Int} (h : 0 ≤ n ∧ n ≤ 1048576) : isLen n = true := by simpa [isLen] using h
set_option maxRecDepth 100000 in
theorem isLen_no {n : Int} (h : ¬ (0 ≤ n ∧ n ≤ 1048576)) : isLen n = false := by unfold isLen; exact decide_eq_false h

def padI (n : Int) : List Int := if 0 ≤ n ∧ n ≤ 1048576 then padOf n.toNat else []
set_option maxRecDepth 100000 in
theorem padI_length (n : Int) : (padI n).length ≤ 72 := by
  unfold padI; split
  · rw [padOf_length]; omega
  · simp

def lenOf : Value → Nat
  | .slice _ n _ => n
  | _ => 0

set_option maxRecDepth 100000 in
set_option maxHeartbeats 800000 in
theorem specPad (n : Int) (w : World) :
    Calls Try.prog 122 #[.int .i64 n] w fun e w' =>
      ∃ g m cap, e = .returned (.slice (some ⟨g, 0, none⟩) m cap) ∧ m = (padI n).length ∧ w.heap.size ≤ g ∧ Row w' g cap (padI n) ∧ Below w.heap.size w w' := by
  by_cases hn : 0 ≤ n ∧ n ≤ 1048576
  · obtain ⟨h0, h1⟩ := hn
    obtain ⟨N, rfl⟩ := Int.eq_ofNat_of_zero_le h0
    have HP : Hid (padI (N : Int) = padOf N) := by show padI _ = _; unfold padI; rw [if_pos ⟨h0, h1⟩, Int.toNat_natCast]
    obtain ⟨z, hz⟩ : ∃ z : Nat, (64 - (N + 9) % 64) % 64 = z := ⟨_, rfl⟩
    have HZ : Hid ((64 - (N + 9) % 64) % 64 = z) := hz
    have hz64 : z < 64 := by omega
    clear hz
    have H1 : Hid (Below w.heap.size w (w.alloc (.cells #[.int .u8 128] 5))) := (Below.refl _ _).alloc (Nat.le_refl _) _
    have HR1 : Hid (Row (w.alloc (.cells #[.int .u8 128] 5)) w.heap.size 1 [128]) := row_new w [128] (by simp [maxLen])
    go_enter Try.func122, Try.ntmps122
    go_wp2
    go_loopw [3] (fun v wr => ∃ (j g c : Nat), j ≤ z ∧ v = .slice (some ⟨g, 0, none⟩) (1 + j) c ∧ w.heap.size ≤ g ∧ Row wr g c ([128] ++ List.replicate j 0) ∧ Below w.heap.size w wr)
      (fun v _ => z + 1 - lenOf v)
    case atStart => exact ⟨0, w.heap.size, 1, Nat.zero_le _, rfl, Nat.le_refl _, HR1.out, H1.out⟩
    case round =>
      obtain ⟨j, g, c, hj, rfl, hg, hrow, hb⟩ := hrel
      clear H1 HR1
      have HRow : Hid (Row wr g c ([128] ++ List.replicate j 0)) := hrow
      have HB : Hid (Below w.heap.size w wr) := hb
      have HL : Hid (([128] ++ List.replicate j (0 : Int)).length = 1 + j) := by show _ = _; simp; omega
      clear hrow hb
      by_cases hlt : j < z
      · have ht : 1 ≤ ((N : Int) + ((1 + j : Nat) : Int) + 8) % 64 := by have := HZ.out; omega
        go_wp2_with (at_builtin; refine wpList_app _ rfl (.tmp 19) (.tmp 20) rfl w.heap.size g (1 + j) c ([128] ++ List.replicate j 0) [0] rfl HL.out.symm (row_alloc HRow.out _) hg (some ⟨wr.heap.size, 0, none⟩) 1 1 rfl rfl (rd_one _ _) (by intro h; cases h) (by rw [HL.out]; simp; omega) ?_; intro g2 c2 w2 r2 b2 l2 gr2; have R2 : Hid (Row w2 g2 c2 ([128] ++ List.replicate j 0 ++ [0])) := r2; have B2 : Hid (Below w.heap.size w w2) := (HB.out.alloc HB.out.size _).grown gr2 (Nat.le_trans HB.out.size (by simp)) (fun k h => by cases h; exact hg); clear r2 gr2 l2)
        go_roundw
        case rel => exact ⟨j + 1, g2, c2, by omega, by simp [Nat.add_assoc], b2, by rw [List.replicate_succ', ← List.append_assoc]; exact R2.out, B2.out⟩
        case measure => simp [lenOf]; omega
      · obtain rfl : j = z := by omega
        have ht : ((N : Int) + ((1 + j : Nat) : Int) + 8) % 64 = 0 := by have := HZ.out; omega
        go_wp2_with fail
        refine (specPutN _ (1 + j) c _ 0 4 wr HL.out.symm HRow.out.rd (by intro h; cases h) (by rw [HL.out]; omega)).mono ?_
        rintro e w2 ⟨g2, m2, c2, rfl, e2, k2, r2, b2⟩
        have HR2 : Hid (Row w2 g2 c2 ([128] ++ List.replicate j 0 ++ putN 0 4)) := r2
        have HB2 : Hid (Below w.heap.size w w2) := HB.out.trans (b2.mono HB.out.size)
        have HE2 : Hid (m2 = ([128] ++ List.replicate j 0 ++ putN 0 4).length) := e2
        have HL2 : Hid (([128] ++ List.replicate j 0 ++ putN 0 4).length = 5 + j) := by show _ = _; rw [List.length_append, HL.out]; simp [putN, num_length]; omega
        clear r2 b2 e2 k2
        go_wp2_with fail
        refine (specPutN _ m2 c2 _ _ 4 w2 HE2.out HR2.out.rd (by intro h; cases h) (by rw [HL2.out]; omega)).mono ?_
        rintro e w3 ⟨g3, m3, c3, rfl, e3, k3, r3, b3⟩
        have HF : Hid (padI (N : Int) = [128] ++ List.replicate j 0 ++ putN 0 4 ++ putN (8 * (N : Int)) 4) := by
          show _ = _
          rw [HP.out]; unfold padOf; rw [HZ.out, pad_nums N (by omega)]; simp [putN]
        have HR3 : Hid (Row w3 g3 c3 ([128] ++ List.replicate j 0 ++ putN 0 4 ++ putN (8 * (N : Int)) 4)) := r3
        have HE3 : Hid (m3 = ([128] ++ List.replicate j 0 ++ putN 0 4 ++ putN (8 * (N : Int)) 4).length) := e3
        have HK3 : Hid (w.heap.size ≤ g3) := Nat.le_trans HB2.out.size k3
        have HB3 : Hid (Below w.heap.size w w3) := HB2.out.trans (b3.mono HB2.out.size)
        clear r3 b3 e3 k3
        go_wp2
        go_ret
        exact ⟨g3, m3, c3, rfl, by rw [HF.out]; exact HE3.out, HK3.out, by rw [HF.out]; exact HR3.out, HB3.out⟩
  · have HP : Hid (padI n = []) := by show padI _ = _; unfold padI; rw [if_neg hn]
    rcases (show n < 0 ∨ (0 ≤ n ∧ 1048576 < n) by omega) with hk | ⟨hk0, hk⟩
    all_goals
      go_enter Try.func122, Try.ntmps122
      go_wp2
      go_ret
      exact ⟨w.heap.size, 0, 0, by simp, by rw [HP.out]; rfl, Nat.le_refl _, by rw [HP.out]; exact row_new w [] (by simp), (Below.refl _ _).alloc (Nat.le_refl _) _⟩
end Go.Proofs.Ytmcflfpckpjphaa.Pads

namespace Go.Proofs.Ytmcflfpckpjphaa.Word
open Go.RowKit Go.Proofs.Ytmcflfpckpjphaa.Bits

set_option maxRecDepth 100000 in
theorem rot_none (x : Int) : wrap64 (bits BinOp.or IntKind.u32 (x % 4294967296) 0) = rot x 0 := by
  obtain ⟨X, hX⟩ := Int.eq_ofNat_of_zero_le (show 0 ≤ x % 4294967296 by omega)
  have h : bits BinOp.or IntKind.u32 (X : Int) ((0 : Nat) : Int) = ((X ||| 0 : Nat) : Int) := or_u32 X 0 (by omega) (by omega)
  unfold rot
  rw [if_neg (by omega), hX, show (0 : Int) = ((0 : Nat) : Int) from rfl, h, Nat.or_zero, IntWalk.wrap64_in _ (by omega)]

set_option maxRecDepth 100000 in
theorem specRot (x n : Int) (w : World) :
    Calls Try.prog 129 #[.int .i64 x, .int .i64 n] w fun e w' => e = .returned (.int .i64 (rot x n)) ∧ ∃ m, w' = w.drewN m := by
  have hm := mask32 x
  by_cases h : 1 ≤ n ∧ n ≤ 31
  · obtain ⟨a1, a2⟩ := h
    go_enter Try.func129, Try.ntmps129
    go_wp2
    go_quiet (fail)
    go_wp2
    go_ret
    exact ⟨congrArg (fun z => Ending.returned (.int .i64 z)) (rot_wide x n a1 a2), _, rfl⟩
  · have hr : rot x n = x % 4294967296 := by unfold rot; rw [if_neg h]
    have H : Hid (rot x n = x % 4294967296) := hr
    clear hr
    rcases (show n < 1 ∨ 31 < n by omega) with h' | h'
    all_goals
      go_enter Try.func129, Try.ntmps129
      go_wp2
      go_ret
      exact ⟨by rw [H.out]; rfl, 0, rfl⟩

set_option maxRecDepth 100000 in
theorem add_wide (a b : Int) : bits BinOp.and IntKind.i64 (a % 4294967296 + b % 4294967296) 4294967295 = (a + b) % 4294967296 := by
  rw [mask32]; omega

end Go.Proofs.Ytmcflfpckpjphaa.Word

namespace Go.Proofs.Ytmcflfpckpjphaa.Sched
open Go.RowKit Go.Proofs.Ytmcflfpckpjphaa.Mem Go.Proofs.Ytmcflfpckpjphaa.MemI Go.Proofs.Ytmcflfpckpjphaa.Blk Go.Proofs.Ytmcflfpckpjphaa.App Go.Proofs.Ytmcflfpckpjphaa.Get Go.Proofs.Ytmcflfpckpjphaa.ShaP Go.Proofs.Ytmcflfpckpjphaa.Word Go.Proofs.Ytmcflfpckpjphaa.Bits

abbrev z64 : List Int := List.replicate 64 0
/-- k cells filled, the rest 0. -/
def filled (l : List Int) : List Int := l ++ List.replicate (64 - l.length) 0
set_option maxRecDepth 100000 in
theorem filled_set (l : List Int) (z : Int) (h : l.length < 64) : (filled l).set l.length z = filled (l ++ [z]) := by
  unfold filled
  rw [List.set_append, if_neg (by omega), Nat.sub_self, List.length_append, show 64 - l.length = (64 - (l.length + [z].length)) + 1 by simp; omega, List.replicate_succ]
  simp
set_option maxRecDepth 100000 in
theorem filled_length (l : List Int) (h : l.length ≤ 64) : (filled l).length = 64 := by simp [filled]; omega
set_option maxRecDepth 100000 in
theorem filled_getD (l : List Int) (i : Nat) (h : i < l.length) : (filled l).getD i 0 = l.getD i 0 := by simp [filled, List.getD, List.getElem?_append, h]

set_option maxRecDepth 100000 in
theorem blk_setRow {w : World} {g : Nat} {t : TypeId} {cs : List Value} (h : Blk w g t cs) (c' : Array Value) {l : List Value} (e : c' = l.toArray) : Blk (w.setRow g c') g t l := by
  subst e
  unfold Blk at *
  show (w.heap.modify g _)[g]? = _
  rw [Array.getElem?_modify, if_pos rfl, h]; rfl
set_option maxRecDepth 100000 in
theorem below_setRow (w : World) {B g : Nat} (h : B ≤ g) (c' : Array Value) : Below B w (w.setRow g c') := by
  refine ⟨rfl, rfl, rfl, ?_, fun k hk => ?_⟩
  · show w.heap.size ≤ (w.heap.modify g _).size
    rw [Array.size_modify]; exact Nat.le_refl _
  · show (w.heap.modify g _)[k]? = _
    rw [Array.getElem?_modify, if_neg (by omega)]

set_option maxRecDepth 100000 in
theorem specRotD (x n : Int) (w : World) (q : Nat) :
    Calls Try.prog 129 #[.int .i64 x, .int .i64 n] (w.drewN q) fun e w' => e = .returned (.int .i64 (rot x n)) ∧ ∃ m, w' = w.drewN m :=
  (specRot x n _).mono fun _ _ h => ⟨h.1, h.2.elim fun _ e => ⟨_, e.trans (World.drewN_drewN _ _ _)⟩⟩

end Go.Proofs.Ytmcflfpckpjphaa.Sched

namespace Go.Proofs.Ytmcflfpckpjphaa.Words
open Go.RowKit Go.Proofs.Ytmcflfpckpjphaa.Mem Go.Proofs.Ytmcflfpckpjphaa.MemI Go.Proofs.Ytmcflfpckpjphaa.Blk Go.Proofs.Ytmcflfpckpjphaa.App Go.Proofs.Ytmcflfpckpjphaa.Get Go.Proofs.Ytmcflfpckpjphaa.ShaP Go.Proofs.Ytmcflfpckpjphaa.Word Go.Proofs.Ytmcflfpckpjphaa.Bits Go.Proofs.Ytmcflfpckpjphaa.Sched

def isIn (x a b : Int) : Bool := decide (a ≤ x ∧ x ≤ b)
set_option maxRecDepth 100000 in
theorem isIn_no {x a b : Int} (h : ¬ (a ≤ x ∧ x ≤ b)) : isIn x a b = false := by unfold isIn; exact decide_eq_false h
set_option maxRecDepth 100000 in
theorem isIn_yes {x a b : Int} (h : a ≤ x ∧ x ≤ b) : isIn x a b = true := by unfold isIn; exact decide_eq_true h

set_option maxRecDepth 100000 in
theorem l1In (x a b : Int) (w : World) :
    Calls Try.prog 53 #[.int .i64 x, .int .i64 a, .int .i64 b] w fun e w' => e = .returned (.bool (isIn x a b)) ∧ w = w' := by
  by_cases h1 : a ≤ x
  · by_cases h2 : x ≤ b
    · have H : Hid (isIn x a b = true) := isIn_yes ⟨h1, h2⟩
      go_enter Try.func53, Try.ntmps53
      go_wp2
      go_ret
      exact ⟨by rw [H.out]; simp, rfl⟩
    · have H : Hid (isIn x a b = false) := isIn_no (fun h => h2 h.2)
      go_enter Try.func53, Try.ntmps53
      go_wp2
      go_ret
      exact ⟨by rw [H.out]; simp, rfl⟩
  · have H : Hid (isIn x a b = false) := isIn_no (fun h => h1 h.1)
    go_enter Try.func53, Try.ntmps53
    go_wp2
    go_ret
    exact ⟨by rw [H.out]; simp, rfl⟩

/-- Eight words. -/
def okw (h : List Int) : Bool := decide (h.length = 8) && h.all (fun z => isIn z 0 4294967295)
set_option maxRecDepth 100000 in
theorem okw_iff (h : List Int) : okw h = true ↔ h.length = 8 ∧ Wds h := by
  simp only [okw, Bool.and_eq_true, decide_eq_true_eq, List.all_eq_true, isIn]
  exact Iff.rfl
set_option maxRecDepth 100000 in
theorem okw_bad {h : List Int} (i : Nat) (hb : ¬ Wd (h.getD i 0)) : okw h = false := by
  cases e : okw h with
  | false => rfl
  | true => exact absurd (((okw_iff h).1 e).2.at i) hb
set_option maxRecDepth 100000 in
theorem okw_len {h : List Int} (hb : h.length ≠ 8) : okw h = false := by simp [okw, hb]
set_option maxRecDepth 100000 in
theorem wds_of {h : List Int} {k : Nat} (hk : ¬ k < h.length) (hj : ∀ j, j < k → Wd (h.getD j 0)) : Wds h := by
  intro z hz
  obtain ⟨i, hi, rfl⟩ := List.getElem_of_mem hz
  have := hj i (by omega)
  simpa [List.getD, hi] using this

set_option maxRecDepth 100000 in
set_option maxHeartbeats 400000 in
theorem l2Words (a : Option Addr) (n cap : Nat) (h : List Int) (w : World) (hn : n = h.length) (hr : IRd w a h) (hl : n ≤ 4194304) :
    Calls Try.prog 126 #[.slice a n cap] w fun e w' => e = .returned (.bool (okw h)) ∧ w = w' := by
  subst hn
  go_enter Try.func126, Try.ntmps126
  go_wp2
  go_loop [3] (fun i => ∃ k : Nat, k ≤ h.length ∧ i = .int .i64 k ∧ (∀ j, j < k → Wd (h.getD j 0))) (fun i => h.length - (intOf i).toNat)
  case atStart => exact ⟨0, Nat.zero_le _, rfl, (fun j hj => by omega)⟩
  case round =>
    obtain ⟨k, hk, rfl, hj⟩ := hrel
    have HJ : Hid (∀ j, j < k → Wd (h.getD j 0)) := hj
    clear hj
    by_cases hlt : k < h.length
    · obtain ⟨b, off, rfl, _, hc⟩ := hr k hlt
      clear hr
      by_cases hw : Wd (h.getD k 0)
      · have HJ2 : Hid (∀ j, j < k + 1 → Wd (h.getD j 0)) := by
          intro j hj
          by_cases e : j = k
          · subst e; exact hw
          · exact HJ.out j (by omega)
        have hin : isIn (h.getD k 0) 0 4294967295 = true := isIn_yes hw
        clear hw
        generalize h.getD k 0 = z at *
        go_wp2_with fail
        refine (l1In z 0 4294967295 w).mono ?_
        rintro e w1 ⟨rfl, rfl⟩
        go_wp2
        go_round
        case rel => exact ⟨k + 1, by omega, by go_num, HJ2.out⟩
        case measure => simp [intOf]; omega
      · have HO : Hid (okw h = false) := okw_bad k hw
        have hin : isIn (h.getD k 0) 0 4294967295 = false := isIn_no hw
        clear hw
        generalize h.getD k 0 = z at *
        go_wp2_with fail
        refine (l1In z 0 4294967295 w).mono ?_
        rintro e w1 ⟨rfl, rfl⟩
        go_wp2
        go_ret
        exact ⟨by simp [HO.out], rfl⟩
    · clear hr
      have HWs : Hid (Wds h) := wds_of hlt HJ.out
      by_cases h8 : h.length = 8
      · have HO : Hid (okw h = true) := (okw_iff h).2 ⟨h8, HWs.out⟩
        have he : ((h.length : Int) == 8) = true := by simp [h8]
        clear h8
        go_wp2
        go_ret
        exact ⟨by rw [HO.out]; simp, rfl⟩
      · have HO : Hid (okw h = false) := okw_len h8
        have he : ((h.length : Int) == 8) = false := by simp; omega
        clear h8
        go_wp2
        go_ret
        exact ⟨by rw [HO.out]; simp, rfl⟩

set_option maxRecDepth 8000 in
theorem l2K (w : World) :
    Calls Try.prog 127 #[] w fun e w' => e = .returned (.slice (some ⟨w.heap.size, 0, none⟩) 64 64) ∧ IRow w' w.heap.size 64 kk ∧ Below w.heap.size w w' := by
  go_enter Try.func127, Try.ntmps127
  go_wp2
  go_ret
  exact ⟨rfl, irow_new w kk (by simp [maxLen, kk_length]), (Below.refl _ _).alloc (Nat.le_refl _) _⟩

end Go.Proofs.Ytmcflfpckpjphaa.Words

namespace Go.Proofs.Ytmcflfpckpjphaa.FrP
open Go.RowKit Go.Proofs.Ytmcflfpckpjphaa.Mem Go.Proofs.Ytmcflfpckpjphaa.App Go.Proofs.Ytmcflfpckpjphaa.Words Go.Proofs.Ytmcflfpckpjphaa.FrZ

def bodyOk (k : Int) (n : Int) : Bool := if k == 4 then decide (n ≤ 40) else if k == 5 || k == 6 then n == 12 else n == 4
def okS (kind id : Int) (cn sn : Nat) (tick : Int) (cookie proof : Nat) (epoch seq : Int) (body tag : Nat) : Bool :=
  if isIn kind 4 8 = true then (id == 0) && (((cn : Int) == 0) && (((sn : Int) == 12) && ((tick == 0) && (((cookie : Int) == 0) && (((proof : Int) == 0) && (isIn epoch 0 4294967295 && (isIn seq 0 281474976710655 && (bodyOk kind body && ((tag : Int) == 16)))))))))
  else if ((epoch == 0) && ((seq == 0) && (((body : Int) == 0) && (((tag : Int) == 0) && ((cn : Int) == 12))))) = false then false
  else if (kind == 1) = true then isIn id 1 9 && (((sn : Int) == 0) && ((tick == 0) && (((cookie : Int) == 0) && ((proof : Int) == 0))))
  else if (kind == 2) = true then (id == 0) && (((sn : Int) == 12) && (isIn tick 0 1000000 && (((cookie : Int) == 16) && ((proof : Int) == 0))))
  else if (kind == 3) = true then isIn id 1 9 && (((sn : Int) == 12) && (isIn tick 0 1000000 && (((cookie : Int) == 16) && ((proof : Int) == 16))))
  else false
def frameOk (D : FrD) : Bool := okS D.kind D.id D.cn.length D.sn.length D.tick D.cookie.length D.proof.length D.epoch D.seq D.body.length D.tag.length
end Go.Proofs.Ytmcflfpckpjphaa.FrP

namespace Go.Proofs.Ytmcflfpckpjphaa.FrB
open Go.RowKit Go.Proofs.Ytmcflfpckpjphaa.Mem Go.Proofs.Ytmcflfpckpjphaa.App Go.Proofs.Ytmcflfpckpjphaa.Words Go.Proofs.Ytmcflfpckpjphaa.FrZ Go.Proofs.Ytmcflfpckpjphaa.FrP

def putF (D : FrD) : List Int :=
  if frameOk D = true then
    if (D.kind == 1) = true then [D.kind] ++ [D.id] ++ D.cn ++ List.replicate 20 0
    else if (D.kind == 2) = true then [D.kind] ++ D.cn ++ D.sn ++ num D.tick 4 ++ D.cookie
    else if (D.kind == 3) = true then [D.kind] ++ [D.id] ++ D.cn ++ D.sn ++ num D.tick 4 ++ D.cookie ++ D.proof
    else [D.kind] ++ D.sn ++ num D.epoch 4 ++ num D.seq 6 ++ D.tag ++ D.body
  else []
set_option maxRecDepth 100000 in
theorem putF_no (D : FrD) (h : frameOk D = false) : putF D = [] := by unfold putF; rw [if_neg (by rw [h]; simp)]
set_option maxRecDepth 100000 in
theorem putF_1 (D : FrD) (h : frameOk D = true) (k : (D.kind == 1) = true) : putF D = [D.kind] ++ [D.id] ++ D.cn ++ List.replicate 20 0 := by unfold putF; rw [if_pos h, if_pos k]
set_option maxRecDepth 100000 in
theorem putF_2 (D : FrD) (h : frameOk D = true) (k1 : (D.kind == 1) = false) (k : (D.kind == 2) = true) : putF D = [D.kind] ++ D.cn ++ D.sn ++ num D.tick 4 ++ D.cookie := by
  unfold putF; rw [if_pos h, if_neg (by rw [k1]; simp), if_pos k]
set_option maxRecDepth 100000 in
theorem putF_3 (D : FrD) (h : frameOk D = true) (k1 : (D.kind == 1) = false) (k2 : (D.kind == 2) = false) (k : (D.kind == 3) = true) : putF D = [D.kind] ++ [D.id] ++ D.cn ++ D.sn ++ num D.tick 4 ++ D.cookie ++ D.proof := by
  unfold putF; rw [if_pos h, if_neg (by rw [k1]; simp), if_neg (by rw [k2]; simp), if_pos k]
set_option maxRecDepth 100000 in
theorem putF_s (D : FrD) (h : frameOk D = true) (k1 : (D.kind == 1) = false) (k2 : (D.kind == 2) = false) (k3 : (D.kind == 3) = false) : putF D = [D.kind] ++ D.sn ++ num D.epoch 4 ++ num D.seq 6 ++ D.tag ++ D.body := by
  unfold putF; rw [if_pos h, if_neg (by rw [k1]; simp), if_neg (by rw [k2]; simp), if_neg (by rw [k3]; simp)]
set_option maxRecDepth 100000 in
/-- What a right frame is, kind by kind. -/
theorem ok_iff (D : FrD) : frameOk D = true ↔
    (4 ≤ D.kind ∧ D.kind ≤ 8 ∧ D.id = 0 ∧ D.cn.length = 0 ∧ D.sn.length = 12 ∧ D.tick = 0 ∧ D.cookie.length = 0 ∧ D.proof.length = 0 ∧ 0 ≤ D.epoch ∧ D.epoch ≤ 4294967295 ∧ 0 ≤ D.seq ∧ D.seq ≤ 281474976710655 ∧ bodyOk D.kind D.body.length = true ∧ D.tag.length = 16) ∨
    (D.epoch = 0 ∧ D.seq = 0 ∧ D.body.length = 0 ∧ D.tag.length = 0 ∧ D.cn.length = 12 ∧
      ((D.kind = 1 ∧ 1 ≤ D.id ∧ D.id ≤ 9 ∧ D.sn.length = 0 ∧ D.tick = 0 ∧ D.cookie.length = 0 ∧ D.proof.length = 0) ∨
       (D.kind = 2 ∧ D.id = 0 ∧ D.sn.length = 12 ∧ 0 ≤ D.tick ∧ D.tick ≤ 1000000 ∧ D.cookie.length = 16 ∧ D.proof.length = 0) ∨
       (D.kind = 3 ∧ 1 ≤ D.id ∧ D.id ≤ 9 ∧ D.sn.length = 12 ∧ 0 ≤ D.tick ∧ D.tick ≤ 1000000 ∧ D.cookie.length = 16 ∧ D.proof.length = 16))) := by
  unfold frameOk okS isIn
  by_cases hs : 4 ≤ D.kind ∧ D.kind ≤ 8
  · rw [if_pos (by simpa using hs)]
    simp only [Bool.and_eq_true, beq_iff_eq, decide_eq_true_eq]
    constructor
    · rintro ⟨h1, h2, h3, h4, h5, h6, h7, h8, h9, h10⟩
      exact .inl ⟨hs.1, hs.2, h1, by omega, by omega, h4, by omega, by omega, h7.1, h7.2, h8.1, h8.2, h9, by omega⟩
    · rintro (⟨_, _, h1, h2, h3, h4, h5, h6, h7, h7', h8, h8', h9, h10⟩ | ⟨_, _, _, _, _, ⟨h, _⟩ | ⟨h, _⟩ | ⟨h, _⟩⟩)
      · exact ⟨h1, by omega, by omega, h4, by omega, by omega, ⟨h7, h7'⟩, ⟨h8, h8'⟩, h9, by omega⟩
      · omega
      · omega
      · omega
  · rw [if_neg (by simpa using hs)]
    by_cases he : D.epoch = 0 ∧ D.seq = 0 ∧ D.body.length = 0 ∧ D.tag.length = 0 ∧ D.cn.length = 12
    · obtain ⟨e1, e2, e3, e4, e5⟩ := he
      rw [if_neg (by rw [e1, e2, e3, e4, e5]; simp)]
      by_cases k1 : D.kind = 1
      · rw [k1]; simp only [beq_self_eq_true, if_true, Bool.and_eq_true, beq_iff_eq, decide_eq_true_eq]; constructor
        · rintro ⟨⟨a, a'⟩, b, c, d, e⟩; exact .inr ⟨e1, e2, e3, e4, e5, .inl ⟨trivial, a, a', by omega, c, by omega, by omega⟩⟩
        · rintro (h | ⟨_, _, _, _, _, ⟨_, a, a', b, c, d, e⟩ | ⟨h, _⟩ | ⟨h, _⟩⟩)
          · omega
          · exact ⟨⟨a, a'⟩, by omega, c, by omega, by omega⟩
          · omega
          · omega
      · rw [if_neg (by simpa using k1)]
        by_cases k2 : D.kind = 2
        · rw [k2]; simp only [beq_self_eq_true, if_true, Bool.and_eq_true, beq_iff_eq, decide_eq_true_eq]; constructor
          · rintro ⟨a, b, ⟨c, c'⟩, d, e⟩; exact .inr ⟨e1, e2, e3, e4, e5, .inr (.inl ⟨trivial, a, by omega, c, c', by omega, by omega⟩)⟩
          · rintro (h | ⟨_, _, _, _, _, ⟨h, _⟩ | ⟨_, a, b, c, c', d, e⟩ | ⟨h, _⟩⟩)
            · omega
            · omega
            · exact ⟨a, by omega, ⟨c, c'⟩, by omega, by omega⟩
            · omega
        · rw [if_neg (by simpa using k2)]
          by_cases k3 : D.kind = 3
          · rw [k3]; simp only [beq_self_eq_true, if_true, Bool.and_eq_true, beq_iff_eq, decide_eq_true_eq]; constructor
            · rintro ⟨⟨a, a'⟩, b, ⟨c, c'⟩, d, e⟩; exact .inr ⟨e1, e2, e3, e4, e5, .inr (.inr ⟨trivial, a, a', by omega, c, c', by omega, by omega⟩)⟩
            · rintro (h | ⟨_, _, _, _, _, ⟨h, _⟩ | ⟨h, _⟩ | ⟨_, a, a', b, c, c', d, e⟩⟩)
              · omega
              · omega
              · omega
              · exact ⟨⟨a, a'⟩, by omega, ⟨c, c'⟩, by omega, by omega⟩
          · rw [if_neg (by simpa using k3)]
            constructor
            · intro h; cases h
            · rintro (h | ⟨_, _, _, _, _, ⟨h, _⟩ | ⟨h, _⟩ | ⟨h, _⟩⟩)
              · omega
              · omega
              · omega
              · omega
    · rw [if_pos (by
        cases hc : ((D.epoch == 0) && ((D.seq == 0) && (((D.body.length : Int) == 0) && (((D.tag.length : Int) == 0) && ((D.cn.length : Int) == 12))))) with
        | false => rfl
        | true =>
          simp only [Bool.and_eq_true, beq_iff_eq] at hc
          exact absurd ⟨hc.1, hc.2.1, by omega, by omega, by omega⟩ he)]
      constructor
      · intro h; cases h
      · rintro (h | ⟨a, b, c, d, e, _⟩)
        · omega
        · exact absurd ⟨a, b, c, d, e⟩ he
set_option maxRecDepth 100000 in
theorem ok_kind (D : FrD) (h : frameOk D = true) : 1 ≤ D.kind ∧ D.kind ≤ 8 := by
  rcases (ok_iff D).1 h with h | ⟨_, _, _, _, _, h | h | h⟩ <;> omega
set_option maxRecDepth 100000 in
theorem ok_id1 (D : FrD) (h : frameOk D = true) (k : (D.kind == 1) = true) : 1 ≤ D.id ∧ D.id ≤ 9 := by
  simp only [beq_iff_eq] at k
  rcases (ok_iff D).1 h with h | ⟨_, _, _, _, _, h | h | h⟩ <;> omega
set_option maxRecDepth 100000 in
theorem ok_id3 (D : FrD) (h : frameOk D = true) (k : (D.kind == 3) = true) : 1 ≤ D.id ∧ D.id ≤ 9 := by
  simp only [beq_iff_eq] at k
  rcases (ok_iff D).1 h with h | ⟨_, _, _, _, _, h | h | h⟩ <;> omega
set_option maxRecDepth 100000 in
theorem ok_lens (D : FrD) (h : frameOk D = true) : D.cn.length ≤ 12 ∧ D.sn.length ≤ 12 ∧ D.cookie.length ≤ 16 ∧ D.proof.length ≤ 16 ∧ D.body.length ≤ 40 ∧ D.tag.length ≤ 16 := by
  rcases (ok_iff D).1 h with ⟨_, _, _, _, _, _, _, _, _, _, _, _, hb, _⟩ | ⟨_, _, _, _, _, h | h | h⟩
  · have : D.body.length ≤ 40 := by
      unfold bodyOk at hb
      split at hb
      · simp at hb; omega
      · split at hb <;> (simp at hb; omega)
    omega
  · omega
  · omega
  · omega
end Go.Proofs.Ytmcflfpckpjphaa.FrB

namespace Go.Proofs.Ytmcflfpckpjphaa.Draw
open Go.RowKit Go.Proofs.Ytmcflfpckpjphaa.Mem Go.Proofs.Ytmcflfpckpjphaa.App

/-- A cursor over a slice, in block p. -/
def Cur (w : World) (p : Nat) (a : Option Addr) (len cap : Nat) : Prop :=
  ∃ i h : Int, 0 ≤ i ∧ i ≤ len ∧ w.heap[p]? = some (.cells #[.slice a len cap, .int .i64 i, .int .i64 h] 95 (0, 0))

/-- The world is as it was but for new blocks and block p. -/
def But (p : Nat) (w w' : World) : Prop := w.grownBy w' (some p)

set_option maxRecDepth 100000 in
theorem But.alike {p : Nat} {w a b : World} (h : But p w a) (e1 : b.heap = a.heap) (e2 : b.os = a.os) (e3 : b.tape = a.tape) (e4 : b.output = a.output) : But p w b :=
  ⟨e2.trans h.os, e3.trans h.tape, e4.trans h.output, by rw [e1]; exact h.size, fun k hk hne => by rw [e1]; exact h.block k hk hne⟩
set_option maxRecDepth 100000 in
theorem But.trans {p : Nat} {a b c : World} (h : But p a b) (k : But p b c) : But p a c := grown_trans h k
set_option maxRecDepth 100000 in
theorem But.refl (p : Nat) (w : World) : But p w w := World.grownBy.refl w _
set_option maxRecDepth 100000 in
theorem But.alloc {p : Nat} {a w : World} (h : But p a w) (o : Obj) : But p a (w.alloc o) := h.trans (World.grownBy_alloc w o _)
set_option maxRecDepth 100000 in
theorem But.below {p : Nat} {W0 w w' : World} (h : But p w w') (b : Below W0.heap.size W0 w) (hp : W0.heap.size ≤ p) : Below W0.heap.size W0 w' :=
  b.grown h b.size (fun k e => by cases e; exact hp)
set_option maxRecDepth 100000 in
theorem Cur.keep {w w' : World} {p : Nat} {a : Option Addr} {len cap : Nat} (h : Cur w p a len cap) (e : w'.heap[p]? = w.heap[p]?) : Cur w' p a len cap := by
  obtain ⟨i, x, h0, h1, h2⟩ := h
  exact ⟨i, x, h0, h1, e.trans h2⟩
set_option maxRecDepth 100000 in
theorem Cur.lt {w : World} {p : Nat} {a : Option Addr} {len cap : Nat} (h : Cur w p a len cap) : p < w.heap.size := by
  obtain ⟨i, x, h0, h1, h2⟩ := h
  exact (Array.getElem?_eq_some_iff.1 h2).1
set_option maxRecDepth 100000 in
theorem Cur.alloc {w : World} {p : Nat} {a : Option Addr} {len cap : Nat} (h : Cur w p a len cap) (o : Obj) : Cur (w.alloc o) p a len cap := h.keep (Below.heap_alloc w o p h.lt)
set_option maxRecDepth 100000 in
theorem Row.but {w w' : World} {p g c : Nat} {l : List Int} (h : Row w g c l) (b : But p w w') (hg : g ≠ p) : Row w' g c l :=
  h.keep (b.block g h.lt (by simp only [ne_eq, Option.some.injEq]; exact hg))

set_option maxRecDepth 100000 in
theorem cur_cell {w : World} {p : Nat} {c : Array Value} {t : TypeId} (h : w.heap[p]? = some (.cells c t (0, 0))) (j : Nat) : w.cell? ⟨p, j, none⟩ = c[j]? := by
  rw [cell_of_row w p j c t (0, 0) h]

set_option maxRecDepth 100000 in
theorem cur_set2 {w : World} {p : Nat} {a : Option Addr} {len cap : Nat} {i h : Int} (hp : w.heap[p]? = some (.cells #[.slice a len cap, .int .i64 i, .int .i64 h] 95 (0, 0))) (h' : Int) (hi : 0 ≤ i ∧ i ≤ len) :
    Cur (w.setCell ⟨p, 2, none⟩ (.int .i64 h')) p a len cap ∧ But p w (w.setCell ⟨p, 2, none⟩ (.int .i64 h')) := by
  refine ⟨⟨i, h', hi.1, hi.2, ?_⟩, ⟨rfl, rfl, rfl, by simp [World.setCell], fun k _ hk => Below.heap_setCell w _ _ k (fun e => hk (by rw [e]))⟩⟩
  rw [heap_setCell_same w p 2 _ _ _ hp]
  rfl
set_option maxRecDepth 100000 in
theorem cur_set21 {w : World} {p : Nat} {a : Option Addr} {len cap : Nat} {i h : Int} (hp : w.heap[p]? = some (.cells #[.slice a len cap, .int .i64 i, .int .i64 h] 95 (0, 0))) (h' : Int) (h0 : 0 ≤ i + 1) (h1 : i + 1 ≤ len) :
    Cur ((w.setCell ⟨p, 2, none⟩ (.int .i64 h')).setCell ⟨p, 1, none⟩ (.int .i64 (i + 1))) p a len cap ∧ But p w ((w.setCell ⟨p, 2, none⟩ (.int .i64 h')).setCell ⟨p, 1, none⟩ (.int .i64 (i + 1))) := by
  have e1 := heap_setCell_same w p 2 _ _ (.int .i64 h') hp
  have e2 := heap_setCell_same (w.setCell ⟨p, 2, none⟩ (.int .i64 h')) p 1 _ _ (.int .i64 (i + 1)) e1
  refine ⟨⟨i + 1, h', h0, h1, ?_⟩, ⟨rfl, rfl, rfl, by simp [World.setCell], fun k _ hk => ?_⟩⟩
  · rw [e2]; rfl
  · rw [Below.heap_setCell _ _ _ k (fun e => hk (by rw [e])), Below.heap_setCell w _ _ k (fun e => hk (by rw [e]))]

set_option maxRecDepth 100000 in
set_option maxHeartbeats 1600000 in
theorem l1Byte (W0 : World) (a : Option Addr) (len cap p : Nat) (l : List Int) (w : World) (hl : len = l.length) (hr : Rd W0 a l) (hb : Bytes l) (hlen : len ≤ 1048576) (hB : Below W0.heap.size W0 w) (hp : W0.heap.size ≤ p) (hc : Cur w p a len cap) :
    Calls Try.prog 90 #[.pointer (some ⟨p, 0, none⟩)] w fun e w' => ∃ x : Int, e = .returned (.int .i64 x) ∧ 0 ≤ x ∧ x ≤ 255 ∧ Cur w' p a len cap ∧ But p w w' := by
  obtain ⟨i, h, i0, i1, hp0⟩ := hc
  obtain ⟨I, rfl⟩ := Int.eq_ofNat_of_zero_le i0
  have c0 : w.cell? ⟨p, 0, none⟩ = some (.slice a len cap) := by rw [cur_cell hp0]; rfl
  have c1 : w.cell? ⟨p, 1, none⟩ = some (.int .i64 I) := by rw [cur_cell hp0]; rfl
  have c2 : w.cell? ⟨p, 2, none⟩ = some (.int .i64 h) := by rw [cur_cell hp0]; rfl
  have f1 : w.frozen? ⟨p, 1, none⟩ = false := frozen_of_row w p 1 _ _ hp0
  have f2 : w.frozen? ⟨p, 2, none⟩ = false := frozen_of_row w p 2 _ _ hp0
  have HP : Hid (w.heap[p]? = some (.cells #[.slice a len cap, .int .i64 I, .int .i64 h] 95 (0, 0))) := hp0
  have HQ : Hid (∀ h' : Int, Cur (w.setCell ⟨p, 2, none⟩ (.int .i64 h')) p a len cap ∧ But p w (w.setCell ⟨p, 2, none⟩ (.int .i64 h'))) := fun h' => cur_set2 HP.out h' (by omega)
  have hm := Bits.mask8
  clear hp0
  by_cases hI : I < len
  · obtain ⟨b, off, rfl, hbl, hc0⟩ := hr I (by omega)
    have hcell : ∀ v, (w.setCell ⟨p, 2, none⟩ v).cell? ⟨b, off + I, none⟩ = some (.int .u8 (l.getD I 0)) := by
      intro v
      rw [World.cell?_of_block (w := w) (Below.heap_setCell w _ _ _ (show b ≠ p by omega)), hB.cell hbl]
      exact hc0
    have hz := hb.at I
    have HR : Hid (∀ h' : Int, Cur ((w.setCell ⟨p, 2, none⟩ (.int .i64 h')).setCell ⟨p, 1, none⟩ (.int .i64 ((I : Int) + 1))) p (some ⟨b, off, none⟩) len cap ∧ But p w ((w.setCell ⟨p, 2, none⟩ (.int .i64 h')).setCell ⟨p, 1, none⟩ (.int .i64 ((I : Int) + 1)))) := fun h' => cur_set21 HP.out h' (by omega) (by omega)
    clear hr hb hB hc0 HP
    generalize l.getD I 0 = z at *
    obtain ⟨z0, z1⟩ := hz
    go_enter Try.func90, Try.ntmps90
    go_wp2
    go_quiet (fail)
    go_wp2
    go_quiet (fail)
    go_wp2
    go_quiet (fail)
    go_wp2
    go_ret
    refine ⟨_, rfl, by omega, by omega, ?_, ?_⟩
    · exact (HR.out _).1
    · exact But.alike (HR.out _).2 rfl rfl rfl rfl
  · clear hr hb hB HP
    have hI' : ¬ ((I : Int) < (len : Int)) := by omega
    go_enter Try.func90, Try.ntmps90
    go_wp2
    go_quiet (fail)
    go_wp2
    go_quiet (fail)
    go_wp2
    go_ret
    refine ⟨_, rfl, by omega, by omega, ?_, ?_⟩
    · exact (HQ.out _).1
    · exact But.alike (HQ.out _).2 rfl rfl rfl rfl

/-- What stands ahead of every draw: the slice as it came in, and the cursor. -/
structure Ready (W0 : World) (a : Option Addr) (len cap : Nat) (l : List Int) (p : Nat) (w : World) : Prop where
  hl : len = l.length
  hr : Rd W0 a l
  hb : Bytes l
  hlen : len ≤ 1048576
  hB : Below W0.heap.size W0 w
  hp : W0.heap.size ≤ p
  hc : Cur w p a len cap

set_option maxRecDepth 100000 in
theorem Ready.next {W0 : World} {a : Option Addr} {len cap : Nat} {l : List Int} {p : Nat} {w w' : World} (h : Ready W0 a len cap l p w) (c : Cur w' p a len cap) (b : But p w w') : Ready W0 a len cap l p w' :=
  ⟨h.hl, h.hr, h.hb, h.hlen, b.below h.hB h.hp, h.hp, c⟩
set_option maxRecDepth 100000 in
theorem Ready.alloc {W0 : World} {a : Option Addr} {len cap : Nat} {l : List Int} {p : Nat} {w : World} (h : Ready W0 a len cap l p w) (o : Obj) : Ready W0 a len cap l p (w.alloc o) :=
  h.next (h.hc.alloc o) ((But.refl p w).alloc o)

set_option maxRecDepth 100000 in
theorem byteOf {W0 : World} {a : Option Addr} {len cap : Nat} {l : List Int} {p : Nat} {w : World} (h : Ready W0 a len cap l p w) :
    Calls Try.prog 90 #[.pointer (some ⟨p, 0, none⟩)] w fun e w' => ∃ x : Int, e = .returned (.int .i64 x) ∧ 0 ≤ x ∧ x ≤ 255 ∧ Ready W0 a len cap l p w' ∧ But p w w' := by
  refine (l1Byte W0 a len cap p l w h.hl h.hr h.hb h.hlen h.hB h.hp h.hc).mono ?_
  rintro e w' ⟨x, rfl, x0, x1, c, b⟩
  exact ⟨x, rfl, x0, x1, h.next c b, b⟩

set_option maxRecDepth 100000 in
set_option maxHeartbeats 800000 in
theorem below {W0 : World} {a : Option Addr} {len cap : Nat} {l : List Int} {p : Nat} {w : World} (h : Ready W0 a len cap l p w) (n : Int) (hn : 0 < n) (hn1 : n ≤ 16777216) :
    Calls Try.prog 85 #[.pointer (some ⟨p, 0, none⟩), .int .i64 n] w fun e w' => ∃ x : Int, e = .returned (.int .i64 x) ∧ 0 ≤ x ∧ x < n ∧ Ready W0 a len cap l p w' ∧ But p w w' := by
  have HR : Hid (Ready W0 a len cap l p w) := h
  clear h
  have hn0 : ((n : Int) == 0) = false := by rw [beq_eq_false_iff_ne]; omega
  by_cases h1 : n ≤ 256
  · go_enter Try.func85, Try.ntmps85
    go_wp2_with fail
    refine (byteOf HR.out).mono ?_
    rintro e w1 ⟨x, rfl, x0, x1, r1, b1⟩
    have R1 : Hid (Ready W0 a len cap l p w1) := r1
    have B1 : Hid (But p w w1) := b1
    clear r1 b1
    go_wp2
    go_ret
    exact ⟨x % n, rfl, Int.emod_nonneg _ (by omega), Int.emod_lt_of_pos _ hn, R1.out, B1.out⟩
  · go_enter Try.func85, Try.ntmps85
    go_wp2_with fail
    refine (byteOf HR.out).mono ?_
    rintro e w1 ⟨x, rfl, x0, x1, r1, b1⟩
    have R1 : Hid (Ready W0 a len cap l p w1) := r1
    have B1 : Hid (But p w w1) := b1
    clear r1 b1
    go_wp2_with fail
    refine (byteOf R1.out).mono ?_
    rintro e w2 ⟨y, rfl, y0, y1, r1, b1⟩
    have R2 : Hid (Ready W0 a len cap l p w2) := r1
    have B2 : Hid (But p w w2) := B1.out.trans b1
    clear r1 b1
    go_wp2_with fail
    refine (byteOf R2.out).mono ?_
    rintro e w3 ⟨z, rfl, z0, z1, r1, b1⟩
    have R3 : Hid (Ready W0 a len cap l p w3) := r1
    have B3 : Hid (But p w w3) := B2.out.trans b1
    clear r1 b1
    go_wp2
    go_ret
    exact ⟨(x * 65536 + y * 256 + z) % n, rfl, Int.emod_nonneg _ (by omega), Int.emod_lt_of_pos _ hn, R3.out, B3.out⟩

set_option maxRecDepth 100000 in
theorem once {W0 : World} {a : Option Addr} {len cap : Nat} {l : List Int} {p : Nat} {w : World} (h : Ready W0 a len cap l p w) (n : Int) (hn : 0 < n) (hn1 : n ≤ 16777216) :
    Calls Try.prog 69 #[.pointer (some ⟨p, 0, none⟩), .int .i64 n] w fun e w' => ∃ x : Bool, e = .returned (.bool x) ∧ Ready W0 a len cap l p w' ∧ But p w w' := by
  have HR : Hid (Ready W0 a len cap l p w) := h
  clear h
  go_enter Try.func69, Try.ntmps69
  go_wp2_with fail
  refine (below HR.out n hn hn1).mono ?_
  rintro e w1 ⟨x, rfl, x0, x1, r1, b1⟩
  have R1 : Hid (Ready W0 a len cap l p w1) := r1
  have B1 : Hid (But p w w1) := b1
  clear r1 b1
  go_wp2
  go_ret
  exact ⟨_, rfl, R1.out, B1.out⟩
end Go.Proofs.Ytmcflfpckpjphaa.Draw

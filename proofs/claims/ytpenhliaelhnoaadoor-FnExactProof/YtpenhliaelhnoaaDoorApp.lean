/-
  Appending to a row of bytes that the call itself made, whatever is appended; and what impl's and spec's PutN answer at every slice of at most 2,097,152 bytes and every two ints.
-/
import Derived.Test.YtpenhliaelhnoaaDoorMem
import Derived.Test.YtpenhliaelhnoaaDoorBits
import Derived.Laws.AppendOwnNone
namespace Go.Proofs.YtpenhliaelhnoaaDoor.App
open Go.RowKit Go.Proofs.YtpenhliaelhnoaaDoor.Mem

set_option maxRecDepth 100000 in
theorem Rd.cells {w : World} {ad : Addr} {y : List Int} (h : Rd w (some ad) y) : ∀ j u, (y.map (Value.int .u8))[j]? = some u → w.cell? (ad.add j) = some u := by
  intro j u hu
  have hj : j < y.length := by
    have := (List.getElem?_eq_some_iff.1 hu).1
    simpa using this
  obtain ⟨b, off, e, _, hc⟩ := h j hj
  obtain rfl := Option.some.inj e
  rw [Addr.add_lit, hc]
  simpa [List.getD, hj] using hu

set_option maxRecDepth 100000 in
theorem wpList_app (w : World) {ops : Array Oper} {rest : List Oper} {o : Oper} {a : Act} {Q : Exit → Act → World → Prop} (hgd : o.guard = none) (s x : Operand)
    (ho : o.op = .call { callee := .builtin .append, args := #[s, x], argTypes := #[22, 22] })
    (base g n cap : Nat) (l y : List Int) (hs : a.eval s = .slice (some ⟨g, 0, none⟩) n cap) (hn : n = l.length) (hrow : Row w g cap l) (hbg : base ≤ g)
    (ao : Option Addr) (m c : Nat) (hx : a.eval x = .slice ao m c) (hm : m = y.length) (hrd : Rd w ao y) (hnone : ao = none → c = 0) (hsum : l.length + y.length ≤ 100000000)
    (h : ∀ g' cap' w', Row w' g' cap' (l ++ y) → base ≤ g' → g' < w'.heap.size → w.grownBy w' (some g) → wpList Tryd.prog ops Q rest (a.put o.dst (.slice (some ⟨g', 0, none⟩) (n + m) cap')) w') :
    wpList Tryd.prog ops Q (o :: rest) a w := by
  obtain ⟨i0, hi, hz0, hz1, hz2⟩ := info_parts info8
  subst hn hm
  have hlt := hrow.lt
  cases ao with
  | none =>
    have hy : y = [] := by
      cases y with
      | nil => rfl
      | cons z r => obtain ⟨_, _, e, _⟩ := hrd 0 (by simp); cases e
    subst hy
    have hc0 := hnone rfl
    subst hc0
    refine wpList_append_own_none hgd s x 22 ho base 5 i0 1 Tryd.underlying22 hi _ _ _ hs (hrow.owns hbg) hx ?_
    simpa using h g cap w (by simpa using hrow) hbg hlt (World.grownBy.refl _ _)
  | some ad =>
    refine wpList_append_own w hgd s x 22 ho base 5 i0 (.int .u8 0) 1 1 Tryd.underlying22 hi hz0 hz1 hz2 rfl (by decide) _ _ _ hs (hrow.owns hbg) ad y.length c (y.map (Value.int .u8)) hx (by simp) (Rd.cells hrd) (ints_oneCell _ _) (by unfold maxLen; omega) (by omega) (by omega) ?_
    intro v' w' hown hgr hiff
    rcases hown.2 with ⟨hv, _⟩ | ⟨g', cap', cur, rfl, hb, hg', _⟩
    · exact absurd (hiff.1 hv).1 (by simp)
    · rw [← List.map_append] at hown
      obtain ⟨r1, r2, _, r4⟩ := Row.of hown
      exact h g' cap' w' r1 r2 r4 hgr

set_option maxRecDepth 100000 in
theorem wpList_fit (w : World) {ops : Array Oper} {rest : List Oper} {o : Oper} {a : Act} {Q : Exit → Act → World → Prop} (hgd : o.guard = none) (s x : Operand)
    (ho : o.op = .call { callee := .builtin .append, args := #[s, x], argTypes := #[22, 22] })
    (g n cap : Nat) (l y : List Int) (hs : a.eval s = .slice (some ⟨g, 0, none⟩) n cap) (hn : n = l.length) (hrow : Row w g cap l)
    (ao : Option Addr) (m c : Nat) (hx : a.eval x = .slice ao m c) (hm : m = y.length) (hrd : Rd w ao y) (hnone : ao = none → c = 0) (hsum : l.length + y.length ≤ cap)
    (h : ∀ w', Row w' g cap (l ++ y) → w.grownBy w' (some g) → wpList Tryd.prog ops Q rest (a.put o.dst (.slice (some ⟨g, 0, none⟩) (n + m) cap)) w') :
    wpList Tryd.prog ops Q (o :: rest) a w := by
  obtain ⟨i0, hi, hz0, hz1, hz2⟩ := info_parts info8
  subst hn hm
  refine wpList_append_fits_any w hgd s x 22 ho g 5 i0 1 Tryd.underlying22 hi hz1 g l.length cap _ hs (hrow.owns (Nat.le_refl _)) ao y.length c (y.map (Value.int .u8)) hx (by simp) ?_ ?_ (ints_oneCell _ _) hsum ?_
  · intro e
    subst e
    refine ⟨?_, hnone rfl⟩
    cases y with
    | nil => rfl
    | cons z r => obtain ⟨_, _, e, _⟩ := hrd 0 (by simp); cases e
  · intro ad e
    subst e
    exact Rd.cells hrd
  · intro w' hown hgr
    rw [← List.map_append] at hown
    exact h w' (Row.of hown).1 hgr

set_option maxRecDepth 100000 in
theorem rd_one (w : World) (z : Int) : Rd (w.alloc (.cells #[.int .u8 z] 5)) (some ⟨w.heap.size, 0, none⟩) [z] := by
  intro i hi
  have : i = 0 := by simpa using hi
  subst this
  exact ⟨_, _, rfl, by simp, by simp [World.cell?_alloc_at]⟩
set_option maxRecDepth 100000 in
theorem rd_two (w : World) (z y : Int) : Rd (w.alloc (.cells #[.int .u8 z, .int .u8 y] 5)) (some ⟨w.heap.size, 0, none⟩) [z, y] := by
  intro i hi
  have : i = 0 ∨ i = 1 := by simp at hi; omega
  rcases this with rfl | rfl
  · exact ⟨_, _, rfl, by simp, by simp [World.cell?_alloc_at]⟩
  · exact ⟨_, _, rfl, by simp, by simp [World.cell?_alloc_at]⟩
set_option maxRecDepth 100000 in
theorem row_new (w : World) (z : List Int) (hz : z.length ≤ maxLen) : Row (w.alloc (.cells (z.map (Value.int .u8)).toArray 5)) w.heap.size z.length z :=
  ⟨Nat.le_refl _, hz, _, heap_alloc_new w _, by simp, by simp [← List.map_take]⟩
set_option maxRecDepth 100000 in
theorem row_alloc {w : World} {g cap : Nat} {l : List Int} (h : Row w g cap l) (o : Obj) : Row (w.alloc o) g cap l := h.keep (Below.heap_alloc w o g h.lt)
set_option maxRecDepth 100000 in
theorem rd_alloc {w : World} {a : Option Addr} {l : List Int} (h : Rd w a l) (o : Obj) : Rd (w.alloc o) a l := h.later ((Below.refl w.heap.size w).alloc (Nat.le_refl _) o) (Nat.le_refl _)

set_option maxRecDepth 100000 in
set_option maxHeartbeats 400000 in
theorem putBytes (a b : Option Addr) (nx ca ny cb : Nat) (x y : List Int) (w : World) (ex : nx = x.length) (ey : ny = y.length) (hx : Rd w a x) (hy : Rd w b y) (na : a = none → ca = 0) (nb : b = none → cb = 0) (lx : x.length ≤ 4194304) (ly : y.length ≤ 4194304) :
    Calls Tryd.prog 48 #[.slice a nx ca, .slice b ny cb] w fun e w' =>
      e = .returned (.slice (some ⟨w.heap.size, 0, none⟩) (nx + ny) (nx + ny)) ∧ Row w' w.heap.size (nx + ny) (x ++ y) ∧ Below w.heap.size w w' := by
  subst ex ey
  obtain ⟨i0, hi, hz0, hz1, hz2⟩ := info_parts info8
  have HX : Hid (Rd w a x) := hx
  have HY : Hid (Rd w b y) := hy
  clear hx hy
  go_enter Tryd.func48, Tryd.ntmps48
  go_wp2_with (first | (at_make; refine wpList_make_own _ rfl _ _ 22 rfl w.heap.size 5 i0 (.int .u8 0) 1 Tryd.underlying22 hi hz0 hz1 _ _ _ (x.length + y.length) rfl rfl (by omega) (by rw [hz2]; omega) (by unfold maxLen; omega) (Nat.le_refl _) ?_; intro w1 hown hgr; have hb1 : Hid (Below w.heap.size w w1) := (Below.refl _ _).grown hgr (Nat.le_refl _) (fun k h => by cases h); have hr1 : Hid (Row w1 w.heap.size (x.length + y.length) []) := (Row.of (l := []) hown).1; clear hown hgr) | (at_builtin; refine wpList_fit _ rfl (.tmp 12) (.tmp 13) rfl w.heap.size 0 (x.length + y.length) [] x rfl rfl hr1.out a x.length ca rfl rfl (HX.out.later hb1.out (Nat.le_refl _)) na (by simp) ?_; intro w2 hr2 hg2; have hb2 : Hid (Below w.heap.size w w2) := hb1.out.grown hg2 hb1.out.size (fun k h => by cases h; exact Nat.le_refl _); have hr2 : Hid (Row w2 w.heap.size (x.length + y.length) ([] ++ x)) := hr2; clear hg2) | (at_builtin; refine wpList_fit _ rfl (.tmp 15) (.tmp 16) rfl w.heap.size x.length (x.length + y.length) ([] ++ x) y rfl rfl hr2.out b y.length cb rfl rfl (HY.out.later hb2.out (Nat.le_refl _)) nb (by simp) ?_; intro w3 hr3 hg3; have hb3 : Hid (Below w.heap.size w w3) := hb2.out.grown hg3 hb2.out.size (fun k h => by cases h; exact Nat.le_refl _); have hr3 : Hid (Row w3 w.heap.size (x.length + y.length) ([] ++ x ++ y)) := hr3; clear hg3))
  go_ret
  exact ⟨rfl, by simpa using hr3.out, hb3.out⟩

/-- Whether a number of k bytes is one. -/
def isSize (k : Int) : Bool := decide (1 ≤ k ∧ k ≤ 6)
set_option maxRecDepth 100000 in
theorem isSize_iff (k : Int) : isSize k = true ↔ 1 ≤ k ∧ k ≤ 6 := by simp [isSize]
set_option maxRecDepth 100000 in
theorem isSize_not (k : Int) (h : ¬ (1 ≤ k ∧ k ≤ 6)) : isSize k = false := by simpa [isSize] using h

set_option maxRecDepth 100000 in
theorem isNumberSize (k : Int) (w : World) :
    Calls Tryd.prog 70 #[.int .i64 k] w fun e w' => e = .returned (.bool (isSize k)) ∧ w = w' := by
  by_cases h1 : 1 ≤ k
  · by_cases h2 : k ≤ 6
    · have H : Hid (isSize k = true) := (isSize_iff k).2 ⟨h1, h2⟩
      go_enter Tryd.func70, Tryd.ntmps70
      go_wp2
      go_ret
      exact ⟨by rw [H.out]; simp, rfl⟩
    · have H : Hid (isSize k = false) := isSize_not k (by omega)
      go_enter Tryd.func70, Tryd.ntmps70
      go_wp2
      go_ret
      exact ⟨by rw [H.out]; simp, rfl⟩
  · have H : Hid (isSize k = false) := isSize_not k (by omega)
    go_enter Tryd.func70, Tryd.ntmps70
    go_wp2
    go_ret
    exact ⟨by rw [H.out]; simp, rfl⟩

/-- A number's k lowest bytes, the highest first. -/
def num (n : Int) : Nat → List Int
  | 0 => []
  | j + 1 => n / 2 ^ (8 * j) % 256 :: num n j
set_option maxRecDepth 100000 in
theorem num_length (n : Int) (k : Nat) : (num n k).length = k := by induction k with
  | zero => rfl
  | succ j ih => simp [num, ih]
set_option maxRecDepth 100000 in
theorem num_bytes (n : Int) (k : Nat) : Bytes (num n k) := by
  induction k with
  | zero => intro z hz; cases hz
  | succ j ih =>
    intro z hz
    simp only [num, List.mem_cons] at hz
    rcases hz with rfl | hz
    · omega
    · exact ih z hz
set_option maxRecDepth 100000 in
theorem num_getD (n : Int) (k j : Nat) (h : j < k) : (num n k).getD j 0 = n / 2 ^ (8 * (k - 1 - j)) % 256 := by
  induction k generalizing j with
  | zero => omega
  | succ i ih =>
    cases j with
    | zero => simp [num]
    | succ j =>
      have := ih j (by omega)
      rw [show i + 1 - 1 - (j + 1) = i - 1 - j by omega]
      simpa [num] using this
set_option maxRecDepth 100000 in
theorem num_take (n : Int) (k j : Nat) (h : j < k) : (num n k).take (j + 1) = (num n k).take j ++ [n / 2 ^ (8 * (k - 1 - j)) % 256] := by
  rw [List.take_succ_eq_append_getElem (by rw [num_length]; exact h)]
  have := num_getD n k j h
  simp only [List.getD, List.getElem?_eq_getElem (show j < (num n k).length by rw [num_length]; exact h), Option.getD_some] at this
  rw [this]
def putN (n k : Int) : List Int := if 1 ≤ k ∧ k ≤ 6 then num n k.toNat else []
set_option maxRecDepth 100000 in
theorem putN_length (n k : Int) : (putN n k).length ≤ 6 := by
  unfold putN; split
  · rw [num_length]; omega
  · simp
set_option maxRecDepth 100000 in
theorem set_num (n : Int) (k j : Nat) (h : j < k) :
    (List.replicate (k - j) (0 : Int) ++ num n j).set (k - 1 - j) (n / 2 ^ (8 * j) % 256) = List.replicate (k - (j + 1)) 0 ++ num n (j + 1) := by
  rw [show k - j = (k - (j + 1)) + 1 by omega, List.replicate_succ', List.append_assoc, List.set_append, if_neg (by simp; omega), List.length_replicate, show k - 1 - j - (k - (j + 1)) = 0 by omega]
  rfl
set_option maxRecDepth 100000 in
theorem div_step (n : Int) (j : Nat) : n / 2 ^ (8 * j) / 256 = n / 2 ^ (8 * (j + 1)) := by
  rw [Int.ediv_ediv_of_nonneg (Int.le_of_lt (Int.pow_pos (by decide))), show (256 : Int) = 2 ^ 8 by decide, ← Int.pow_add]
  congr 2

set_option maxRecDepth 100000 in
set_option maxHeartbeats 400000 in
theorem highestFirst (n : Int) (k : Nat) (w : World) (h1 : 1 ≤ k) (h6 : k ≤ 8) :
    Calls Tryd.prog 71 #[.int .i64 n, .int .i64 k] w fun e w' =>
      e = .returned (.slice (some ⟨w.heap.size, 0, none⟩) k k) ∧ Row w' w.heap.size k (num n k) ∧ Below w.heap.size w w' := by
  obtain ⟨i0, hi, hz0, hz1, hz2⟩ := info_parts info8
  go_enter Tryd.func71, Tryd.ntmps71
  go_wp2_with (at_make; refine wpList_make_full _ rfl _ _ 22 rfl w.heap.size 5 i0 (.int .u8 0) 1 Tryd.underlying22 hi hz0 hz1 _ _ _ _ k rfl rfl rfl rfl (by rw [hz2]; omega) (by unfold maxLen; omega) (Nat.le_refl _) ?_; intro w1 hown hgr)
  have hb1 : Below w.heap.size w w1 := (Below.refl _ _).grown hgr (Nat.le_refl _) (fun k h => by cases h)
  have hown1 : w1.ownsRow w.heap.size 5 1 (.slice (some ⟨w.heap.size, 0, none⟩) k k) k ((List.replicate (k - 0) (0 : Int) ++ num n 0).map (Value.int .u8)) := by
    simpa [Value.cells, toList_madeCells_one, num] using hown
  clear hown hgr
  go_loopw [0, 6] (fun c i wr => ∃ j : Nat, j ≤ k ∧ i = .int .i64 ((k : Int) - 1 - j) ∧ c = .int .i64 (n / 2 ^ (8 * j)) ∧ wr.ownsRow w.heap.size 5 1 (.slice (some ⟨w.heap.size, 0, none⟩) k k) k ((List.replicate (k - j) (0 : Int) ++ num n j).map (Value.int .u8)) ∧ Below w.heap.size w wr)
    (fun _ i _ => (intOf i + 1).toNat)
  case atStart => exact ⟨0, Nat.zero_le _, by go_num, by simp, hown1, hb1⟩
  case round =>
    obtain ⟨j, hj, rfl, rfl, ho, hb⟩ := hrel
    clear hown1 hb1
    by_cases hlt : j < k
    · have hst := ho.stored (k - 1 - j) (.int .u8 (n / 2 ^ (8 * j) % 256))
      have hfr := ho.frozenAt (k - 1 - j)
      have hca : ∃ v, wr.cell? ⟨w.heap.size, k - 1 - j, none⟩ = some v := by
        rw [ho.cellAt (k - 1 - j) (by omega)]
        exact ⟨_, List.getElem?_eq_getElem (by simp [num_length]; omega)⟩
      obtain ⟨v0, hca⟩ := hca
      have R1 : Hid ((wr.setCell ⟨w.heap.size, k - 1 - j, none⟩ (.int .u8 (n / 2 ^ (8 * j) % 256))).ownsRow w.heap.size 5 1 (.slice (some ⟨w.heap.size, 0, none⟩) k k) k ((List.replicate (k - (j + 1)) (0 : Int) ++ num n (j + 1)).map (Value.int .u8))) := by
        have := hst.1
        rw [← List.map_set, set_num n k j hlt] at this
        exact this
      have R2 : Hid (Below w.heap.size w (wr.setCell ⟨w.heap.size, k - 1 - j, none⟩ (.int .u8 (n / 2 ^ (8 * j) % 256)))) := hb.setCell (Nat.le_refl _) _
      have R3 : Hid (n / 2 ^ (8 * j) / 256 = n / 2 ^ (8 * (j + 1))) := div_step n j
      obtain ⟨q, hq⟩ : ∃ q : Nat, (q : Int) = (k : Int) - 1 - j := ⟨k - 1 - j, by omega⟩
      have hq' : k - 1 - j = q := by omega
      rw [hq'] at hfr hca R1 R2
      rw [← hq]
      have HQ : Hid ((q : Int) = (k : Int) - 1 - j) := hq
      have hqk : q < k := by omega
      clear hst ho hb hq hq'
      generalize n / 2 ^ (8 * j) = c at *
      go_wp2
      go_roundw
      case rel => exact ⟨j + 1, by omega, by have := HQ.out; go_num, by rw [← R3.out], R1.out, R2.out⟩
      case measure => simp [intOf]
    · obtain rfl : j = k := by omega
      have hneg : (j : Int) - 1 - (j : Int) < 0 := by omega
      go_wp2
      go_ret
      rw [Nat.sub_self, List.replicate_zero, List.nil_append] at ho
      exact ⟨rfl, (Row.of ho).1, hb⟩

set_option maxRecDepth 100000 in
set_option maxHeartbeats 400000 in
theorem implPutN (a : Option Addr) (nl ca : Nat) (l : List Int) (n k : Int) (w : World) (hn : nl = l.length) (hr : Rd w a l) (na : a = none → ca = 0) (ll : l.length ≤ 2097152) :
    Calls Tryd.prog 59 #[.slice a nl ca, .int .i64 n, .int .i64 k] w fun e w' =>
      ∃ g m cap, e = .returned (.slice (some ⟨g, 0, none⟩) m cap) ∧ m = (l ++ putN n k).length ∧ w.heap.size ≤ g ∧ Row w' g cap (l ++ putN n k) ∧ Below w.heap.size w w' := by
  subst hn
  have HR : Hid (Rd w a l) := hr
  clear hr
  by_cases hk : 1 ≤ k ∧ k ≤ 6
  · obtain ⟨K, rfl⟩ := Int.eq_ofNat_of_zero_le (show 0 ≤ k by omega)
    have hs : isSize (K : Int) = true := (isSize_iff _).2 hk
    have HP : Hid (putN n (K : Int) = num n K) := by show putN n (K : Int) = num n K; unfold putN; rw [if_pos hk, Int.toNat_natCast]
    have hk1 : 1 ≤ K := by omega
    have hk2 : K ≤ 6 := by omega
    clear hk
    go_enter Tryd.func59, Tryd.ntmps59
    go_wp2_with fail
    refine (isNumberSize _ _).mono ?_
    rintro e w1 ⟨rfl, rfl⟩
    go_wp2_with fail
    refine (highestFirst n K _ hk1 (by omega)).mono ?_
    rintro e w1 ⟨rfl, h1, h2⟩
    go_wp2_with fail
    have HN : Hid ((num n K).length = K) := num_length n K
    refine (putBytes a _ _ ca K K l (num n K) w1 rfl HN.out.symm (HR.out.later h2 (Nat.le_refl _)) h1.rd na (by intro h; cases h) (by omega) (by rw [HN.out]; omega)).mono ?_
    rintro e w2 ⟨rfl, h3, h4⟩
    have hz := h2.size
    go_wp2
    go_ret
    exact ⟨w1.heap.size, _, _, rfl, by rw [HP.out, List.length_append, HN.out], hz, by rw [HP.out]; exact h3, h2.trans (h4.mono hz)⟩
  · have hs : isSize k = false := isSize_not k hk
    have HP : Hid (putN n k = []) := by show putN n k = []; unfold putN; rw [if_neg hk]
    clear hk
    go_enter Tryd.func59, Tryd.ntmps59
    go_wp2_with fail
    refine (isNumberSize _ _).mono ?_
    rintro e w1 ⟨rfl, rfl⟩
    go_wp2_with fail
    refine (putBytes a none _ ca 0 0 l [] w rfl rfl HR.out (by intro i hi; cases hi) na (fun _ => rfl) (by omega) (by simp)).mono ?_
    rintro e w2 ⟨rfl, h3, h4⟩
    go_wp2
    go_ret
    exact ⟨w.heap.size, _, _, rfl, by rw [HP.out, List.append_nil], Nat.le_refl _, by rw [HP.out]; exact h3, h4⟩

set_option maxRecDepth 100000 in
set_option maxHeartbeats 800000 in
theorem specPutN (a : Option Addr) (nl ca : Nat) (l : List Int) (n k : Int) (w : World) (hn : nl = l.length) (hr : Rd w a l) (na : a = none → ca = 0) (ll : l.length ≤ 2097152) :
    Calls Tryd.prog 56 #[.slice a nl ca, .int .i64 n, .int .i64 k] w fun e w' =>
      ∃ g m cap, e = .returned (.slice (some ⟨g, 0, none⟩) m cap) ∧ m = (l ++ putN n k).length ∧ w.heap.size ≤ g ∧ Row w' g cap (l ++ putN n k) ∧ Below w.heap.size w w' := by
  subst hn
  have HR : Hid (Rd w a l) := hr
  clear hr
  have ha1 : Below w.heap.size w (w.alloc (.cells #[] 5)) := (Below.refl _ _).alloc (Nat.le_refl _) _
  have HA : Hid (Below w.heap.size w (w.alloc (.cells #[] 5))) := ha1
  clear ha1
  by_cases hk : 1 ≤ k ∧ k ≤ 6
  · obtain ⟨K, rfl⟩ := Int.eq_ofNat_of_zero_le (show 0 ≤ k by omega)
    have HP : Hid (putN n (K : Int) = num n K) := by show putN n (K : Int) = num n K; unfold putN; rw [if_pos hk, Int.toNat_natCast]
    have hk1 : 1 ≤ K := by omega
    have hk2 : K ≤ 6 := by omega
    clear hk
    go_enter Tryd.func56, Tryd.ntmps56
    go_wp2_with (at_builtin; refine wpList_app _ rfl _ _ rfl w.heap.size w.heap.size 0 0 [] l rfl rfl (row_new w [] (by simp)) (Nat.le_refl _) a l.length ca rfl rfl (HR.out.later HA.out (Nat.le_refl _)) na (by simp; omega) ?_; intro g1 c1 w1 r1 b1 l1 gr1; have R1 : Hid (Row w1 g1 c1 ([] ++ l)) := r1; have B1 : Hid (Below w.heap.size w w1) := HA.out.grown gr1 HA.out.size (fun k h => by cases h; exact Nat.le_refl _); clear r1 gr1 l1)
    go_loopw [7, 8] (fun v i wr => ∃ (j g c : Nat), j ≤ K ∧ i = .int .i64 ((K : Int) - 1 - j) ∧ v = .slice (some ⟨g, 0, none⟩) (l.length + j) c ∧ w.heap.size ≤ g ∧ Row wr g c (l ++ (num n K).take j) ∧ Below w.heap.size w wr)
      (fun _ i _ => (intOf i + 1).toNat)
    case atStart => exact ⟨0, g1, c1, Nat.zero_le _, by go_num, by simp, b1, by simpa using R1.out, B1.out⟩
    case round =>
      obtain ⟨j, g, c, hj, rfl, rfl, hg, hrow, hb⟩ := hrel
      clear HA R1 B1 HR
      by_cases hlt : j < K
      · obtain ⟨q, hq⟩ : ∃ q : Nat, (q : Int) = (K : Int) - 1 - j := ⟨K - 1 - j, by omega⟩
        have hq' : K - 1 - j = q := by omega
        have HT : Hid ((num n K).take (j + 1) = (num n K).take j ++ [n / 2 ^ (8 * q) % 256]) := by have := num_take n K j hlt; rw [hq'] at this; exact this
        have HN : Hid (((num n K).take j).length = j) := by show _ = _; rw [List.length_take, num_length]; omega
        rw [← hq]
        have HQ : Hid ((q : Int) = (K : Int) - 1 - j) := hq
        have hq5 : q ≤ 5 := by omega
        have hm := Bits.mask8 (n / 2 ^ (8 * q))
        have HRow : Hid (Row wr g c (l ++ (num n K).take j)) := hrow
        have HB : Hid (Below w.heap.size w wr) := hb
        have HL : Hid (l.length + j = (l ++ (num n K).take j).length) := by show _ = _; rw [List.length_append, HN.out]
        clear hq hq' hrow hb
        go_wp2_with (at_builtin; refine wpList_app _ rfl (.tmp 25) (.tmp 32) rfl w.heap.size g (l.length + j) c (l ++ (num n K).take j) [n / 2 ^ (8 * q) % 256] rfl HL.out (row_alloc HRow.out _) hg (some ⟨wr.heap.size, 0, none⟩) 1 1 rfl rfl (rd_one _ _) (by intro h; cases h) (by rw [← HL.out]; simp; omega) ?_; intro g2 c2 w2 r2 b2 l2 gr2; have R2 : Hid (Row w2 g2 c2 (l ++ (num n K).take j ++ [n / 2 ^ (8 * q) % 256])) := r2; have B2 : Hid (Below w.heap.size w w2) := (HB.out.alloc HB.out.size _).grown gr2 (Nat.le_trans HB.out.size (by simp)) (fun k h => by cases h; exact hg); clear r2 gr2 l2)
        go_roundw
        case rel => exact ⟨j + 1, g2, c2, by omega, by have := HQ.out; go_num, by simp [Nat.add_assoc], b2, by rw [HT.out, ← List.append_assoc]; exact R2.out, B2.out⟩
        case measure => simp [intOf]
      · obtain rfl : j = K := by omega
        have hneg : (j : Int) - 1 - (j : Int) < 0 := by omega
        have HN : Hid ((num n j).take j = num n j) := List.take_of_length_le (by rw [num_length]; exact Nat.le_refl _)
        go_wp2
        go_ret
        exact ⟨g, _, c, rfl, by rw [HP.out, List.length_append, num_length], hg, by rw [HP.out]; rw [HN.out] at hrow; exact hrow, hb⟩
  · have HP : Hid (putN n k = []) := by show putN n k = []; unfold putN; rw [if_neg hk]
    rcases (show k < 1 ∨ 6 < k by omega) with hk' | hk'
    all_goals
      go_enter Tryd.func56, Tryd.ntmps56
      go_wp2_with (at_builtin; refine wpList_app _ rfl _ _ rfl w.heap.size w.heap.size 0 0 [] l rfl rfl (row_new w [] (by simp)) (Nat.le_refl _) a l.length ca rfl rfl (HR.out.later HA.out (Nat.le_refl _)) na (by simp; omega) ?_; intro g1 c1 w1 r1 b1 l1 gr1; have R1 : Hid (Row w1 g1 c1 ([] ++ l)) := r1; have B1 : Hid (Below w.heap.size w w1) := HA.out.grown gr1 HA.out.size (fun k h => by cases h; exact Nat.le_refl _); clear r1 gr1 l1)
      go_ret
      exact ⟨_, _, _, rfl, by rw [HP.out, List.append_nil], b1, by rw [HP.out]; simpa using R1.out, B1.out⟩
end Go.Proofs.YtpenhliaelhnoaaDoor.App

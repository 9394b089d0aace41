/-
  Appending to a row of bytes that the call itself made, whatever is appended; and what impl's and spec's PutN answer at every slice of at most 2,097,152 bytes and every two ints.
-/
import Derived.Test.YtadlckgaeljdkaaMem
import Derived.Test.YtadlckgaeljdkaaBits
import Derived.Laws.AppendOwnNone
namespace Go.Proofs.Ytadlckgaeljdkaa.App
open Go.RowKit Go.Proofs.Ytadlckgaeljdkaa.Mem

set_option maxRecDepth 100000 in
theorem Rd.cells {w : World} {ad : Addr} {y : List Int} (h : Rd w (some ad) y) : ∀ j u, (y.map (Value.int .u8))[j]? = some u → w.cell? (ad.add j) = some u := by
  intro j u hu
  have hj : j < y.length := by
    have := (List.getElem?_eq_some_iff.1 hu).1
    simpa using this
  obtain ⟨b, off, e, _, hc⟩ := h j hj
  obtain rfl := Option.some.inj e
  rw [Addr.add_lit, hc]
  simpa [List.getD, hj] using hu

set_option maxRecDepth 100000 in
theorem wpList_app (w : World) {ops : Array Oper} {rest : List Oper} {o : Oper} {a : Act} {Q : Exit → Act → World → Prop} (hgd : o.guard = none) (s x : Operand)
    (ho : o.op = .call { callee := .builtin .append, args := #[s, x], argTypes := #[22, 22] })
    (base g n cap : Nat) (l y : List Int) (hs : a.eval s = .slice (some ⟨g, 0, none⟩) n cap) (hn : n = l.length) (hrow : Row w g cap l) (hbg : base ≤ g)
    (ao : Option Addr) (m c : Nat) (hx : a.eval x = .slice ao m c) (hm : m = y.length) (hrd : Rd w ao y) (hnone : ao = none → c = 0) (hsum : l.length + y.length ≤ 100000000)
    (h : ∀ g' cap' w', Row w' g' cap' (l ++ y) → base ≤ g' → g' < w'.heap.size → w.grownBy w' (some g) → wpList Try.prog ops Q rest (a.put o.dst (.slice (some ⟨g', 0, none⟩) (n + m) cap')) w') :
    wpList Try.prog ops Q (o :: rest) a w := by
  obtain ⟨i0, hi, hz0, hz1, hz2⟩ := info_parts info8
  subst hn hm
  have hlt := hrow.lt
  cases ao with
  | none =>
    have hy : y = [] := by
      cases y with
      | nil => rfl
      | cons z r => obtain ⟨_, _, e, _⟩ := hrd 0 (by simp); cases e
    subst hy
    have hc0 := hnone rfl
    subst hc0
    refine wpList_append_own_none hgd s x 22 ho base 5 i0 1 Try.underlying22 hi _ _ _ hs (hrow.owns hbg) hx ?_
    simpa using h g cap w (by simpa using hrow) hbg hlt (World.grownBy.refl _ _)
  | some ad =>
    refine wpList_append_own w hgd s x 22 ho base 5 i0 (.int .u8 0) 1 1 Try.underlying22 hi hz0 hz1 hz2 rfl (by decide) _ _ _ hs (hrow.owns hbg) ad y.length c (y.map (Value.int .u8)) hx (by simp) (Rd.cells hrd) (ints_oneCell _ _) (by unfold maxLen; omega) (by omega) (by omega) ?_
    intro v' w' hown hgr hiff
    rcases hown.2 with ⟨hv, _⟩ | ⟨g', cap', cur, rfl, hb, hg', _⟩
    · exact absurd (hiff.1 hv).1 (by simp)
    · rw [← List.map_append] at hown
      obtain ⟨r1, r2, _, r4⟩ := Row.of hown
      exact h g' cap' w' r1 r2 r4 hgr

set_option maxRecDepth 100000 in
theorem wpList_fit (w : World) {ops : Array Oper} {rest : List Oper} {o : Oper} {a : Act} {Q : Exit → Act → World → Prop} (hgd : o.guard = none) (s x : Operand)
    (ho : o.op = .call { callee := .builtin .append, args := #[s, x], argTypes := #[22, 22] })
    (g n cap : Nat) (l y : List Int) (hs : a.eval s = .slice (some ⟨g, 0, none⟩) n cap) (hn : n = l.length) (hrow : Row w g cap l)
    (ao : Option Addr) (m c : Nat) (hx : a.eval x = .slice ao m c) (hm : m = y.length) (hrd : Rd w ao y) (hnone : ao = none → c = 0) (hsum : l.length + y.length ≤ cap)
    (h : ∀ w', Row w' g cap (l ++ y) → w.grownBy w' (some g) → wpList Try.prog ops Q rest (a.put o.dst (.slice (some ⟨g, 0, none⟩) (n + m) cap)) w') :
    wpList Try.prog ops Q (o :: rest) a w := by
  obtain ⟨i0, hi, hz0, hz1, hz2⟩ := info_parts info8
  subst hn hm
  refine wpList_append_fits_any w hgd s x 22 ho g 5 i0 1 Try.underlying22 hi hz1 g l.length cap _ hs (hrow.owns (Nat.le_refl _)) ao y.length c (y.map (Value.int .u8)) hx (by simp) ?_ ?_ (ints_oneCell _ _) hsum ?_
  · intro e
    subst e
    refine ⟨?_, hnone rfl⟩
    cases y with
    | nil => rfl
    | cons z r => obtain ⟨_, _, e, _⟩ := hrd 0 (by simp); cases e
  · intro ad e
    subst e
    exact Rd.cells hrd
  · intro w' hown hgr
    rw [← List.map_append] at hown
    exact h w' (Row.of hown).1 hgr

set_option maxRecDepth 100000 in
theorem rd_one (w : World) (z : Int) : Rd (w.alloc (.cells #[.int .u8 z] 5)) (some ⟨w.heap.size, 0, none⟩) [z] := by
  intro i hi
  have : i = 0 := by simpa using hi
  subst this
  exact ⟨_, _, rfl, by simp, by simp [World.cell?_alloc_at]⟩
set_option maxRecDepth 100000 in
theorem rd_two (w : World) (z y : Int) : Rd (w.alloc (.cells #[.int .u8 z, .int .u8 y] 5)) (some ⟨w.heap.size, 0, none⟩) [z, y] := by
  intro i hi
  have : i = 0 ∨ i = 1 := by simp at hi; omega
  rcases this with rfl | rfl
  · exact ⟨_, _, rfl, by simp, by simp [World.cell?_alloc_at]⟩
  · exact ⟨_, _, rfl, by simp, by simp [World.cell?_alloc_at]⟩
set_option maxRecDepth 100000 in
theorem row_new (w : World) (z : List Int) (hz : z.length ≤ maxLen) : Row (w.alloc (.cells (z.map (Value.int .u8)).toArray 5)) w.heap.size z.length z :=
  ⟨Nat.le_refl _, hz, _, heap_alloc_new w _, by simp, by simp [← List.map_take]⟩
set_option maxRecDepth 100000 in
theorem row_alloc {w : World} {g cap : Nat} {l : List Int} (h : Row w g cap l) (o : Obj) : Row (w.alloc o) g cap l := h.keep (Below.heap_alloc w o g h.lt)
set_option maxRecDepth 100000 in
theorem rd_alloc {w : World} {a : Option Addr} {l : List Int} (h : Rd w a l) (o : Obj) : Rd (w.alloc o) a l := h.later ((Below.refl w.heap.size w).alloc (Nat.le_refl _) o) (Nat.le_refl _)

/-- Whether a number of k bytes is one. -/
def isSize (k : Int) : Bool := decide (1 ≤ k ∧ k ≤ 6)
set_option maxRecDepth 100000 in
theorem isSize_iff (k : Int) : isSize k = true ↔ 1 ≤ k ∧ k ≤ 6 := by simp [isSize]
set_option maxRecDepth 100000 in
theorem isSize_not (k : Int) (h : ¬ (1 ≤ k ∧ k ≤ 6)) : isSize k = false := by simpa [isSize] using h

/-- A number's k lowest bytes, the highest first. -/
def num (n : Int) : Nat → List Int
  | 0 => []
  | j + 1 => n / 2 ^ (8 * j) % 256 :: num n j
set_option maxRecDepth 100000 in
theorem num_length (n : Int) (k : Nat) : (num n k).length = k := by induction k with
  | zero => rfl
  | succ j ih => simp [num, ih]
set_option maxRecDepth 100000 in
theorem num_bytes (n : Int) (k : Nat) : Bytes (num n k) := by
  induction k with
  | zero => intro z hz; cases hz
  | succ j ih =>
    intro z hz
    simp only [num, List.mem_cons] at hz
    rcases hz with rfl | hz
    · omega
    · exact ih z hz
set_option maxRecDepth 100000 in
theorem num_getD (n : Int) (k j : Nat) (h : j < k) : (num n k).getD j 0 = n / 2 ^ (8 * (k - 1 - j)) % 256 := by
  induction k generalizing j with
  | zero => omega
  | succ i ih =>
    cases j with
    | zero => simp [num]
    | succ j =>
      have := ih j (by omega)
      rw [show i + 1 - 1 - (j + 1) = i - 1 - j by omega]
      simpa [num] using this
set_option maxRecDepth 100000 in
theorem num_take (n : Int) (k j : Nat) (h : j < k) : (num n k).take (j + 1) = (num n k).take j ++ [n / 2 ^ (8 * (k - 1 - j)) % 256] := by
  rw [List.take_succ_eq_append_getElem (by rw [num_length]; exact h)]
  have := num_getD n k j h
  simp only [List.getD, List.getElem?_eq_getElem (show j < (num n k).length by rw [num_length]; exact h), Option.getD_some] at this
  rw [this]
def putN (n k : Int) : List Int := if 1 ≤ k ∧ k ≤ 6 then num n k.toNat else []
set_option maxRecDepth 100000 in
theorem putN_length (n k : Int) : (putN n k).length ≤ 6 := by
  unfold putN; split
  · rw [num_length]; omega
  · simp
set_option maxRecDepth 100000 in
theorem set_num (n : Int) (k j : Nat) (h : j < k) :
    (List.replicate (k - j) (0 : Int) ++ num n j).set (k - 1 - j) (n / 2 ^ (8 * j) % 256) = List.replicate (k - (j + 1)) 0 ++ num n (j + 1) := by
  rw [show k - j = (k - (j + 1)) + 1 by omega, List.replicate_succ', List.append_assoc, List.set_append, if_neg (by simp; omega), List.length_replicate, show k - 1 - j - (k - (j + 1)) = 0 by omega]
  rfl
set_option maxRecDepth 100000 in
theorem div_step (n : Int) (j : Nat) : n / 2 ^ (8 * j) / 256 = n / 2 ^ (8 * (j + 1)) := by
  rw [Int.ediv_ediv_of_nonneg (Int.le_of_lt (Int.pow_pos (by decide))), show (256 : Int) = 2 ^ 8 by decide, ← Int.pow_add]
  congr 2

end Go.Proofs.Ytadlckgaeljdkaa.App

/-
  What impl's and spec's GetN answer at every slice of at most 4,194,304 bytes, every place and every number of bytes: the same three results.
-/
import Derived.Test.YtadlckgaeljdkaaApp
import Derived.Laws.BitsAllLaws
namespace Go.Proofs.Ytadlckgaeljdkaa.Get
open Go.RowKit Go.Proofs.Ytadlckgaeljdkaa.Mem Go.Proofs.Ytadlckgaeljdkaa.App

/-- The number that bytes are, the highest first. -/
def val (l : List Int) : Int := l.foldl (fun n z => n * 256 + z) 0
set_option maxRecDepth 100000 in
theorem val_snoc (l : List Int) (z : Int) : val (l ++ [z]) = val l * 256 + z := by simp [val]
set_option maxRecDepth 100000 in
theorem fold_bd (l : List Int) (h : Bytes l) : ∀ acc : Int, 0 ≤ acc → 0 ≤ l.foldl (fun n z => n * 256 + z) acc ∧ l.foldl (fun n z => n * 256 + z) acc < (acc + 1) * 256 ^ l.length := by
  induction l with
  | nil => intro acc h0; simp; omega
  | cons z r ih =>
    intro acc h0
    have hz := h z (by simp)
    have hr := ih (fun x hx => h x (by simp [hx])) (acc * 256 + z) (by omega)
    refine ⟨hr.1, Int.lt_of_lt_of_le hr.2 ?_⟩
    rw [List.length_cons, Int.pow_succ, Int.mul_comm (256 ^ r.length) 256, ← Int.mul_assoc]
    exact Int.mul_le_mul_of_nonneg_right (by omega) (Int.le_of_lt (Int.pow_pos (by decide)))
set_option maxRecDepth 100000 in
theorem val_bd (l : List Int) (h : Bytes l) : 0 ≤ val l ∧ val l < 256 ^ l.length := by
  have := fold_bd l h 0 (by omega)
  unfold val
  simpa using this

/-- The n bytes from a place on. -/
def piece (l : List Int) (i k : Nat) : List Int := (l.drop i).take k
set_option maxRecDepth 100000 in
theorem piece_succ (l : List Int) (i k : Nat) (h : i + k < l.length) : piece l i (k + 1) = piece l i k ++ [l.getD (i + k) 0] := by
  unfold piece
  rw [List.take_succ_eq_append_getElem (by rw [List.length_drop]; omega)]
  simp [List.getD, h]
set_option maxRecDepth 100000 in
theorem piece_bytes {l : List Int} (h : Bytes l) (i k : Nat) : Bytes (piece l i k) := fun z hz => h z (List.mem_of_mem_drop (List.mem_of_mem_take hz))
set_option maxRecDepth 100000 in
theorem piece_length (l : List Int) (i k : Nat) (h : i + k ≤ l.length) : (piece l i k).length = k := by
  unfold piece; rw [List.length_take, List.length_drop]; omega
set_option maxRecDepth 100000 in
theorem val_piece (l : List Int) (i k : Nat) (hb : Bytes l) (h : i + k ≤ l.length) (hk : k ≤ 6) : 0 ≤ val (piece l i k) ∧ val (piece l i k) < 281474976710656 := by
  have := val_bd _ (piece_bytes hb i k)
  rw [piece_length l i k h] at this
  refine ⟨this.1, Int.lt_of_lt_of_le this.2 ?_⟩
  have h2 : (256 : Int) ^ k ≤ 256 ^ 6 := by
    rcases (show k = 0 ∨ k = 1 ∨ k = 2 ∨ k = 3 ∨ k = 4 ∨ k = 5 ∨ k = 6 by omega) with rfl | rfl | rfl | rfl | rfl | rfl | rfl <;> decide
  have e : (256 : Int) ^ 6 = 281474976710656 := by decide
  omega
set_option maxRecDepth 100000 in
theorem val_piece5 (l : List Int) (i k : Nat) (hb : Bytes l) (h : i + k ≤ l.length) (hk : k ≤ 5) : 0 ≤ val (piece l i k) ∧ val (piece l i k) < 1099511627776 := by
  have := val_bd _ (piece_bytes hb i k)
  rw [piece_length l i k h] at this
  refine ⟨this.1, Int.lt_of_lt_of_le this.2 ?_⟩
  have h2 : (256 : Int) ^ k ≤ 256 ^ 5 := by
    rcases (show k = 0 ∨ k = 1 ∨ k = 2 ∨ k = 3 ∨ k = 4 ∨ k = 5 by omega) with rfl | rfl | rfl | rfl | rfl | rfl <;> decide
  have e : (256 : Int) ^ 5 = 1099511627776 := by decide
  omega
set_option maxRecDepth 100000 in
theorem or_step (n z : Int) (h0 : 0 ≤ n) (h1 : n < 1099511627776) (h2 : 0 ≤ z) (h3 : z ≤ 255) : bits .or .i64 (n * 256) z = n * 256 + z := by
  obtain ⟨N, rfl⟩ := Int.eq_ofNat_of_zero_le h0
  obtain ⟨Z, rfl⟩ := Int.eq_ofNat_of_zero_le h2
  have := Bits.or_i64 (N * 256) Z (by omega) (by omega)
  rw [nat_join 8 (N * 256) Z (by omega) (by omega)] at this
  rw [show (N : Int) * 256 = ((N * 256 : Nat) : Int) by omega, this]
  omega

/-- Whether k bytes are there from i on. -/
def there (len : Nat) (i k : Int) : Bool := decide (0 ≤ i ∧ 0 ≤ k ∧ k ≤ (len : Int) - i)
set_option maxRecDepth 100000 in
theorem there_yes {len : Nat} {i k : Int} (h : 0 ≤ i ∧ 0 ≤ k ∧ k ≤ (len : Int) - i) : there len i k = true := by simpa [there] using h
set_option maxRecDepth 100000 in
theorem there_no {len : Nat} {i k : Int} (h : ¬ (0 ≤ i ∧ 0 ≤ k ∧ k ≤ (len : Int) - i)) : there len i k = false := by
  unfold there; exact decide_eq_false h

def gotN (l : List Int) (i k : Int) : Value :=
  if isSize k = true ∧ there l.length i k = true then .tuple #[.int .i64 (val (piece l i.toNat k.toNat)), .int .i64 (i + k), .bool true] else .tuple #[.int .i64 0, .int .i64 0, .bool false]

end Go.Proofs.Ytadlckgaeljdkaa.Get

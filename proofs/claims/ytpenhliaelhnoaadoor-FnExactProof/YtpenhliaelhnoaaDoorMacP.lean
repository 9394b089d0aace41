/-
  Sums with a key as plain functions on lists of numbers.
-/
import Derived.Test.YtpenhliaelhnoaaDoorEnds
import Derived.Test.YtpenhliaelhnoaaDoorDiffP
namespace Go.Proofs.YtpenhliaelhnoaaDoor.MacP
open Go.RowKit Go.Proofs.YtpenhliaelhnoaaDoor.Mem Go.Proofs.YtpenhliaelhnoaaDoor.App Go.Proofs.YtpenhliaelhnoaaDoor.ShaP Go.Proofs.YtpenhliaelhnoaaDoor.Ends Go.Proofs.YtpenhliaelhnoaaDoor.DiffP

/-- A key as good as the given one, of at most 64 bytes. -/
def short (k : List Int) : List Int := if k.length ≤ 64 then k else shaI k
/-- A key as one block. -/
def keyI (k : List Int) : List Int := if k.length ≤ 1048576 then short k ++ List.replicate (64 - (short k).length) 0 else []
/-- Each byte turned by a pad. -/
def mix (p : Int) (l : List Int) : List Int := l.map fun z => bits .xor .u8 z p
def hmacI (k b : List Int) : List Int := if k.length ≤ 1048576 ∧ b.length ≤ 1048512 then shaI (mix 92 (keyI k) ++ shaI (mix 54 (keyI k) ++ b)) else []
def tagI (k b : List Int) : List Int := (hmacI k b).take 16

set_option maxRecDepth 100000 in
theorem outB_len32 (h : List Int) (hh : h.length = 8) : (outB h).length = 32 := by rw [outB_length, hh]
set_option maxRecDepth 100000 in
theorem shaI_len (b : List Int) (h : b.length ≤ 1048576) : (shaI b).length = 32 := by
  unfold shaI; rw [if_pos h]
  exact outB_len32 _ (run_length _ _ _ rfl)
set_option maxRecDepth 100000 in
theorem short_len (k : List Int) (h : k.length ≤ 1048576) : (short k).length ≤ 64 := by
  unfold short; split
  · assumption
  · rw [shaI_len k h]; omega
set_option maxRecDepth 100000 in
theorem keyI_len (k : List Int) (h : k.length ≤ 1048576) : (keyI k).length = 64 := by
  have := short_len k h
  unfold keyI; rw [if_pos h]; simp; omega
set_option maxRecDepth 100000 in
theorem keyI_none (k : List Int) (h : ¬ k.length ≤ 1048576) : keyI k = [] := by unfold keyI; rw [if_neg h]
set_option maxRecDepth 100000 in
theorem keyI_le (k : List Int) : (keyI k).length ≤ 64 := by
  by_cases h : k.length ≤ 1048576
  · rw [keyI_len k h]; exact Nat.le_refl _
  · rw [keyI_none k h]; simp
set_option maxRecDepth 100000 in
theorem mix_length (p : Int) (l : List Int) : (mix p l).length = l.length := by simp [mix]
set_option maxRecDepth 100000 in
theorem mix_bytes (p : Int) (l : List Int) (hl : Bytes l) (h3 : 0 ≤ p) (h4 : p ≤ 255) : Bytes (mix p l) := by
  intro z hz
  simp only [mix, List.mem_map] at hz
  obtain ⟨y, hy, rfl⟩ := hz
  exact xor_byte y p (hl y hy).1 (hl y hy).2 h3 h4
set_option maxRecDepth 100000 in
theorem outB_bytes (h : List Int) : Bytes (outB h) := by
  induction h with
  | nil => intro z hz; cases hz
  | cons x r ih =>
    intro z hz
    rcases List.mem_append.1 hz with h | h
    · exact num_bytes x 4 z h
    · exact ih z h
set_option maxRecDepth 100000 in
theorem shaI_bytes (b : List Int) : Bytes (shaI b) := by
  unfold shaI; split
  · exact outB_bytes _
  · intro z hz; cases hz
set_option maxRecDepth 100000 in
theorem short_bytes (k : List Int) (h : Bytes k) : Bytes (short k) := by
  unfold short; split
  · exact h
  · exact shaI_bytes k
set_option maxRecDepth 100000 in
theorem bytes_append {a b : List Int} (ha : Bytes a) (hb : Bytes b) : Bytes (a ++ b) := by
  intro z hz
  rcases List.mem_append.1 hz with h | h
  · exact ha z h
  · exact hb z h
set_option maxRecDepth 100000 in
theorem bytes_zeros (n : Nat) : Bytes (List.replicate n 0) := by
  intro z hz; rw [List.mem_replicate] at hz; omega
set_option maxRecDepth 100000 in
theorem keyI_bytes (k : List Int) (h : Bytes k) : Bytes (keyI k) := by
  unfold keyI; split
  · exact bytes_append (short_bytes k h) (bytes_zeros _)
  · intro z hz; cases hz
set_option maxRecDepth 100000 in
theorem hmacI_len (k b : List Int) (h1 : k.length ≤ 1048576) (h2 : b.length ≤ 1048512) : (hmacI k b).length = 32 := by
  unfold hmacI; rw [if_pos ⟨h1, h2⟩]
  apply shaI_len
  have := shaI_length
  rw [List.length_append, mix_length, keyI_len k h1, shaI_len _ (by rw [List.length_append, mix_length, keyI_len k h1]; omega)]; omega
set_option maxRecDepth 100000 in
theorem hmacI_none (k b : List Int) (h : ¬ (k.length ≤ 1048576 ∧ b.length ≤ 1048512)) : hmacI k b = [] := by unfold hmacI; rw [if_neg h]
set_option maxRecDepth 100000 in
theorem hmacI_bytes (k b : List Int) : Bytes (hmacI k b) := by
  unfold hmacI; split
  · exact shaI_bytes _
  · intro z hz; cases hz
set_option maxRecDepth 100000 in
theorem hmacI_le (k b : List Int) : (hmacI k b).length ≤ 32 := by
  by_cases h : k.length ≤ 1048576 ∧ b.length ≤ 1048512
  · rw [hmacI_len k b h.1 h.2]; exact Nat.le_refl _
  · rw [hmacI_none k b h]; simp
set_option maxRecDepth 100000 in
theorem tagI_len (k b : List Int) (h1 : k.length ≤ 1048576) (h2 : b.length ≤ 1048512) : (tagI k b).length = 16 := by
  unfold tagI; rw [List.length_take, hmacI_len k b h1 h2]; rfl
set_option maxRecDepth 100000 in
theorem tagI_le (k b : List Int) : (tagI k b).length ≤ 16 := by unfold tagI; rw [List.length_take]; omega
set_option maxRecDepth 100000 in
theorem tagI_bytes (k b : List Int) : Bytes (tagI k b) := fun z hz => hmacI_bytes k b z (List.mem_of_mem_take hz)

end Go.Proofs.YtpenhliaelhnoaaDoor.MacP

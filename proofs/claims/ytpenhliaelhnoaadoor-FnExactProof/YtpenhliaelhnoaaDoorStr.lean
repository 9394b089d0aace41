/-
  A string's bytes as numbers; and that a string made into a slice of bytes holds them, in new memory.
-/
import Derived.Test.YtpenhliaelhnoaaDoorMem
import Derived.Laws.IdiomStrings
import Derived.Laws.BytesArg
namespace Go.Proofs.YtpenhliaelhnoaaDoor.Str
open Go.RowKit Go.Proofs.YtpenhliaelhnoaaDoor.Mem

/-- A string's bytes as numbers. -/
def bs (s : ByteArray) : List Int := s.data.toList.map fun b => (b.toNat : Int)
set_option maxRecDepth 100000 in
theorem bs_length (s : ByteArray) : (bs s).length = s.size := by
  unfold bs; rw [List.length_map, Array.length_toList]; rfl
set_option maxRecDepth 100000 in
theorem bs_getD (s : ByteArray) (k : Nat) (h : k < s.size) : (bs s).getD k 0 = ((s[k]'h).toNat : Int) := by
  have h' : k < s.data.size := h
  simp only [bs, List.getD, List.getElem?_map, Array.getElem?_toList, Array.getElem?_eq_getElem h', Option.map_some, Option.getD_some]
  rfl
set_option maxRecDepth 100000 in
theorem bs_bytes (s : ByteArray) : Bytes (bs s) := by
  intro z hz
  simp only [bs, List.mem_map] at hz
  obtain ⟨b, _, rfl⟩ := hz
  have := b.toNat_lt
  omega
set_option maxRecDepth 100000 in
theorem bytes_made (w : World) (s : ByteArray) :
    ∃ W c, (convert 9 22 (.string s)).run Tryd.prog w = .ok (.slice (some ⟨w.heap.size, 0, none⟩) s.size c) W ∧ Rd W (some ⟨w.heap.size, 0, none⟩) (bs s) ∧ Below w.heap.size w W := by
  refine ⟨_, _, run_bytes_of_string w 9 22 5 s Tryd.underlying9 Tryd.underlying22 Tryd.underlying5, ?_, ?_⟩
  · intro i hi
    rw [bs_length] at hi
    refine ⟨w.heap.size, 0, rfl, by simp, ?_⟩
    rw [Nat.zero_add, cell_of_row _ w.heap.size i _ _ _ (heap_alloc_new w.drew _), bytesRow_at s _ i hi, bs_getD s i hi]
    rfl
  · exact (Below.refl w.heap.size w).trans (((Below.refl w.heap.size w).drew).alloc (Nat.le_refl _) _)
set_option maxRecDepth 100000 in
/-- The bytes of a string that was made of bytes. -/
theorem bs_nums (l : List Int) (h : Bytes l) : bs (strOfNums l) = l := by
  unfold bs
  rw [strOfNums_data, List.map_map]
  conv => rhs; rw [← List.map_id l]
  apply List.map_congr_left
  intro z hz
  have := h z hz
  simp only [Function.comp, UInt8.toNat_ofNat', id]
  omega
end Go.Proofs.YtpenhliaelhnoaaDoor.Str

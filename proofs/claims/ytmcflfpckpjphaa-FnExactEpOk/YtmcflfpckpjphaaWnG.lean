/-
  Short windows; what the answers' lists are long at most.
-/
import Derived.Test.YtmcflfpckpjphaaWnV
namespace Go.Proofs.Ytmcflfpckpjphaa.WnG
open Go.RowKit Go.Proofs.Ytmcflfpckpjphaa.Zone Go.Proofs.Ytmcflfpckpjphaa.ZoneI Go.Proofs.Ytmcflfpckpjphaa.WnZ Go.Proofs.Ytmcflfpckpjphaa.WinP Go.Proofs.Ytmcflfpckpjphaa.WnK Go.Proofs.Ytmcflfpckpjphaa.WnV
theorem short_big {D : WnD} (h : WnShort D 65536) : WnShort D 4194304 := ⟨by have := h.bits; omega⟩
theorem short_big2 {D : WnD} (h : WnShort D 1048576) : WnShort D 4194304 := ⟨by have := h.bits; omega⟩
theorem short_mid {D : WnD} (h : WnShort D 65536) : WnShort D 1048576 := ⟨by have := h.bits; omega⟩
theorem sum_le {w : World} {S : WnS} {D : WnD} (r : WnRd w S D) (h : WnShort D 1048576) : (1 : Int) + (wnSum S : Int) ≤ 4194304 := by
  unfold wnSum
  have a1 := r.bits.len
  have b1 := h.bits
  omega
theorem new_short : WnShort ⟨-1, zeros⟩ 65536 := ⟨by decide⟩
theorem of_short (l : List Int) (k : Nat) : WnShort (ofD l k) 65536 := ⟨by rw [ofD_len]; omega⟩
theorem add_short {D : WnD} (n : Int) (h : WnShort D 1048576) : WnShort (addD D n) 1048576 := ⟨by
  have := h.bits
  show (addBits D.top D.bits n).length ≤ _
  unfold addBits
  split
  · rw [addL_length]; omega
  · omega⟩
theorem add_bits_len (D : WnD) (n : Int) (h : D.bits.length = 32) : (addD D n).bits.length = 32 := by
  show (addBits D.top D.bits n).length = 32
  unfold addBits
  split
  · rw [addL_length, h]
  · exact h
end Go.Proofs.Ytmcflfpckpjphaa.WnG

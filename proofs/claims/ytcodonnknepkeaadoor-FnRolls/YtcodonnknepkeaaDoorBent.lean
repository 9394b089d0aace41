/-
  What the laws' own 'at' and 'bent' hand back: a byte's number; a copy in new memory, of which one byte is turned.
-/
import Derived.Test.YtcodonnknepkeaaDoorAppAt
import Derived.Test.YtcodonnknepkeaaDoorDiffP
import Derived.Deep.CutBlock
import Derived.Deep.RegionWith
namespace Go.Proofs.YtcodonnknepkeaaDoor.Bent
open Go.RowKit Go.Proofs.YtcodonnknepkeaaDoor.Mem Go.Proofs.YtcodonnknepkeaaDoor.App Go.Proofs.YtcodonnknepkeaaDoor.AppAt Go.Proofs.YtcodonnknepkeaaDoor.DiffP

set_option maxRecDepth 100000 in
theorem row_set {w : World} {g c : Nat} {l : List Int} (h : Row w g c l) (k : Nat) (z : Int) : Row (w.setCell ⟨g, k, none⟩ (.int .u8 z)) g c (l.set k z) ∧ w.grownBy (w.setCell ⟨g, k, none⟩ (.int .u8 z)) (some g) := by
  have hst := (h.owns (Nat.le_refl g)).stored k (.int .u8 z)
  rw [← List.map_set] at hst
  refine ⟨?_, hst.2⟩
  have e : l.length = (l.set k z).length := by simp
  have := hst.1
  rw [e] at this
  exact (Row.of (l := l.set k z) (n := (l.set k z).length) this).1
set_option maxRecDepth 100000 in
theorem xor_ne (z d : Int) (h1 : 0 ≤ z) (h2 : z ≤ 255) (h3 : 1 ≤ d) (h4 : d ≤ 255) : bits .xor .u8 z d ≠ z := by
  rw [u8_xor z d h1 (by omega) (by omega) (by omega)]
  intro h
  have h5 : z.toNat ^^^ d.toNat = z.toNat := by omega
  have h6 := congrArg (fun x => z.toNat ^^^ x) h5
  simp only [← Nat.xor_assoc, Nat.xor_self, Nat.zero_xor] at h6
  omega
set_option maxRecDepth 100000 in
theorem set_ne (l : List Int) (p : Nat) (v : Int) (hp : p < l.length) (h : v ≠ l.getD p 0) : l.set p v ≠ l := by
  intro e
  apply h
  have : (l.set p v).getD p 0 = v := by simp [List.getD, hp]
  rw [← this, e]
set_option maxRecDepth 100000 in
theorem set_bytes {l : List Int} (h : Bytes l) (p : Nat) (v : Int) (h0 : 0 ≤ v) (h1 : v ≤ 255) : Bytes (l.set p v) := by
  intro z hz
  rcases List.mem_or_eq_of_mem_set hz with h' | rfl
  · exact h z h'
  · exact ⟨h0, h1⟩

end Go.Proofs.YtcodonnknepkeaaDoor.Bent

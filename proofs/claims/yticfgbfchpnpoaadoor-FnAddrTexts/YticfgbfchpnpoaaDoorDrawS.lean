/-
  What the draws of chapter 2 hand back: bytes in new memory, of one of the lengths that the draw names; words in new memory.
-/
import Derived.Test.YticfgbfchpnpoaaDoorDrawB
import Derived.Test.YticfgbfchpnpoaaDoorStart
import Derived.Deep.RegionWith
namespace Go.Proofs.YticfgbfchpnpoaaDoor.DrawS
open Go.RowKit Go.Proofs.YticfgbfchpnpoaaDoor.Mem Go.Proofs.YticfgbfchpnpoaaDoor.MemI Go.Proofs.YticfgbfchpnpoaaDoor.Blk Go.Proofs.YticfgbfchpnpoaaDoor.App Go.Proofs.YticfgbfchpnpoaaDoor.ShaP Go.Proofs.YticfgbfchpnpoaaDoor.Start Go.Proofs.YticfgbfchpnpoaaDoor.Draw

theorem bigNo (a : Option Addr) (len cap : Nat) (w : World) (h : len ≤ 1048576) :
    Calls Tryd.prog 7 #[.slice a len cap] w fun e w' => e = .returned (.bool false) ∧ w = w' := by
  have h' : ¬ ((1048576 : Int) < (len : Int)) := by omega
  go_enter Tryd.func7, Tryd.ntmps7
  go_wp2
  go_ret
  exact ⟨rfl, rfl⟩
theorem bigYes (a : Option Addr) (len cap : Nat) (w : World) (h : 1048576 < len) :
    Calls Tryd.prog 7 #[.slice a len cap] w fun e w' => e = .returned (.bool true) ∧ w = w' := by
  have h' : (1048576 : Int) < (len : Int) := by omega
  go_enter Tryd.func7, Tryd.ntmps7
  go_wp2
  go_ret
  exact ⟨rfl, rfl⟩

theorem irow_but {w w' : World} {p g c : Nat} {l : List Int} (h : IRow w g c l) (b : But p w w') (hg : g ≠ p) : IRow w' g c l :=
  h.keep (b.block g h.lt (by simp only [ne_eq, Option.some.injEq]; exact hg))
theorem irow_set {w : World} {g c : Nat} {l : List Int} (h : IRow w g c l) (k : Nat) (z : Int) : IRow (w.setCell ⟨g, k, none⟩ (.int .i64 z)) g c (l.set k z) ∧ w.grownBy (w.setCell ⟨g, k, none⟩ (.int .i64 z)) (some g) := by
  have hst := (h.owns (Nat.le_refl g)).stored k (.int .i64 z)
  rw [← List.map_set] at hst
  refine ⟨?_, hst.2⟩
  have e : l.length = (l.set k z).length := by simp
  have := hst.1
  rw [e] at this
  exact (IRow.of (l := l.set k z) this).1

end Go.Proofs.YticfgbfchpnpoaaDoor.DrawS

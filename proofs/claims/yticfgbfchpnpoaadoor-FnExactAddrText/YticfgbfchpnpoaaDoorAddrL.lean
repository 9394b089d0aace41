/-
  What the laws' own toAddr and eqAddr answer.
-/
import Derived.Test.YticfgbfchpnpoaaDoorAddrS
namespace Go.Proofs.YticfgbfchpnpoaaDoor.AddrL
open Go.RowKit Go.Proofs.YticfgbfchpnpoaaDoor.Mem Go.Proofs.YticfgbfchpnpoaaDoor.Blk Go.Proofs.YticfgbfchpnpoaaDoor.AddrP Go.Proofs.YticfgbfchpnpoaaDoor.Res Go.Proofs.YticfgbfchpnpoaaDoor.AddrS

set_option maxRecDepth 100000 in
set_option maxHeartbeats 800000 in
theorem toAddr (h p : Int) (w : World) :
    Calls Tryd.prog 21 #[addrV h p] w fun e w' => e = .returned (addrV h p) ∧ Below w.heap.size w w' := by
  unfold addrV
  go_enter Tryd.func21, Tryd.ntmps21
  go_wp2
  have b1 := Blk.new (w.alloc (.cells #[.int .i64 h, .int .i64 p] 39)) 25 [.int .i64 h, .int .i64 p]
  rw [World.size_alloc] at b1
  exact ret_addr rfl rfl (b1.alloc _) rfl ⟨rfl, (((Below.refl _ _).alloc (Nat.le_refl _) _).alloc (by simp) _).alloc (by simp; omega) _⟩

theorem eqAddr (h p h' p' : Int) (w : World) :
    Calls Tryd.prog 22 #[addrV h p, addrV h' p'] w fun e w' => e = .returned (.bool (decide (h = h' ∧ p = p'))) ∧ Below w.heap.size w w' := by
  unfold addrV
  by_cases h1 : h = h'
  · subst h1
    by_cases h2 : p = p'
    · subst h2
      go_enter Tryd.func22, Tryd.ntmps22
      go_wp2
      go_ret
      exact ⟨by simp, ((Below.refl _ _).alloc (Nat.le_refl _) _).alloc (by simp) _⟩
    · go_enter Tryd.func22, Tryd.ntmps22
      go_wp2
      go_ret
      exact ⟨by simp [h2], ((Below.refl _ _).alloc (Nat.le_refl _) _).alloc (by simp) _⟩
  · go_enter Tryd.func22, Tryd.ntmps22
    go_wp2
    go_ret
    exact ⟨by simp [h1], ((Below.refl _ _).alloc (Nat.le_refl _) _).alloc (by simp) _⟩
end Go.Proofs.YticfgbfchpnpoaaDoor.AddrL

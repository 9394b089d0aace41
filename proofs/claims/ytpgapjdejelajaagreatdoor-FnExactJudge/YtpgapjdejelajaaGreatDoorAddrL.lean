/-
  What the laws' own toAddr and eqAddr answer.
-/
import Derived.Test.YtpgapjdejelajaaGreatDoorGr4
namespace Go.Proofs.YtpgapjdejelajaaGreatDoor.AddrL
open Go.RowKit Go.Proofs.YtpgapjdejelajaaGreatDoor.Mem Go.Proofs.YtpgapjdejelajaaGreatDoor.Blk Go.Proofs.YtpgapjdejelajaaGreatDoor.AddrP Go.Proofs.YtpgapjdejelajaaGreatDoor.Res Go.Proofs.YtpgapjdejelajaaGreatDoor.AddrS

set_option maxRecDepth 100000 in
set_option maxHeartbeats 800000 in
theorem toAddr (h p : Int) (w : World) :
    Calls Tryz.prog 26 #[addrV h p] w fun e w' => e = .returned (addrV h p) ∧ Below w.heap.size w w' := by
  unfold addrV
  go_enter Tryz.func26, Tryz.ntmps26
  go_wp2
  have b1 := Blk.new (w.alloc (.cells #[.int .i64 h, .int .i64 p] 47)) 27 [.int .i64 h, .int .i64 p]
  rw [World.size_alloc] at b1
  exact ret_addr rfl rfl (b1.alloc _) rfl ⟨rfl, (((Below.refl _ _).alloc (Nat.le_refl _) _).alloc (by simp) _).alloc (by simp; omega) _⟩

end Go.Proofs.YtpgapjdejelajaaGreatDoor.AddrL

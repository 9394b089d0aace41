/-
  What the laws' own toAddr and eqAddr answer.
-/
import Derived.Test.YtpgapjdejelajaaAddrS
namespace Go.Proofs.Ytpgapjdejelajaa.AddrL
open Go.RowKit Go.Proofs.Ytpgapjdejelajaa.Mem Go.Proofs.Ytpgapjdejelajaa.Blk Go.Proofs.Ytpgapjdejelajaa.AddrP Go.Proofs.Ytpgapjdejelajaa.Res Go.Proofs.Ytpgapjdejelajaa.AddrS

set_option maxRecDepth 100000 in
set_option maxHeartbeats 800000 in
theorem toAddr (h p : Int) (w : World) :
    Calls Try.prog 12 #[addrV h p] w fun e w' => e = .returned (addrV h p) ∧ Below w.heap.size w w' := by
  unfold addrV
  go_enter Try.func12, Try.ntmps12
  go_wp2
  have b1 := Blk.new (w.alloc (.cells #[.int .i64 h, .int .i64 p] 32)) 34 [.int .i64 h, .int .i64 p]
  rw [World.size_alloc] at b1
  exact ret_addr rfl rfl (b1.alloc _) rfl ⟨rfl, (((Below.refl _ _).alloc (Nat.le_refl _) _).alloc (by simp) _).alloc (by simp; omega) _⟩

end Go.Proofs.Ytpgapjdejelajaa.AddrL

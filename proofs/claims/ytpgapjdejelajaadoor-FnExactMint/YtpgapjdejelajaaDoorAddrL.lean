/-
  What the laws' own toAddr and eqAddr answer.
-/
import Derived.Test.YtpgapjdejelajaaDoorAddrS
namespace Go.Proofs.YtpgapjdejelajaaDoor.AddrL
open Go.RowKit Go.Proofs.YtpgapjdejelajaaDoor.Mem Go.Proofs.YtpgapjdejelajaaDoor.Blk Go.Proofs.YtpgapjdejelajaaDoor.AddrP Go.Proofs.YtpgapjdejelajaaDoor.Res Go.Proofs.YtpgapjdejelajaaDoor.AddrS

set_option maxRecDepth 100000 in
set_option maxHeartbeats 800000 in
theorem toAddr (h p : Int) (w : World) :
    Calls Tryd.prog 16 #[addrV h p] w fun e w' => e = .returned (addrV h p) ∧ Below w.heap.size w w' := by
  unfold addrV
  go_enter Tryd.func16, Tryd.ntmps16
  go_wp2
  have b1 := Blk.new (w.alloc (.cells #[.int .i64 h, .int .i64 p] 34)) 38 [.int .i64 h, .int .i64 p]
  rw [World.size_alloc] at b1
  exact ret_addr rfl rfl (b1.alloc _) rfl ⟨rfl, (((Below.refl _ _).alloc (Nat.le_refl _) _).alloc (by simp) _).alloc (by simp; omega) _⟩

end Go.Proofs.YtpgapjdejelajaaDoor.AddrL

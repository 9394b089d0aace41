/-
  The walk of the law FnExactFresh: at every argument it answers true, and nothing that was there is written.
-/
import Derived.Test.YtpgapjdejelajaaCkI
import Derived.Test.YtpgapjdejelajaaCkS
import Derived.Test.YtpgapjdejelajaaShp
import Derived.Test.YtpgapjdejelajaaOps
namespace Go.Proofs.Ytpgapjdejelajaa.LawFresh
open Go.RowKit Go.Proofs.Ytpgapjdejelajaa.Mem Go.Proofs.Ytpgapjdejelajaa.Blk Go.Proofs.Ytpgapjdejelajaa.Zone Go.Proofs.Ytpgapjdejelajaa.ZoneB Go.Proofs.Ytpgapjdejelajaa.ZoneI Go.Proofs.Ytpgapjdejelajaa.MemI Go.Proofs.Ytpgapjdejelajaa.Each Go.Proofs.Ytpgapjdejelajaa.Copy Go.Proofs.Ytpgapjdejelajaa.Ops Go.Proofs.Ytpgapjdejelajaa.Shp Go.Proofs.Ytpgapjdejelajaa.App Go.Proofs.Ytpgapjdejelajaa.JaZ Go.Proofs.Ytpgapjdejelajaa.JaL Go.Proofs.Ytpgapjdejelajaa.CkP

set_option maxRecDepth 100000 in
set_option maxHeartbeats 8000000 in
theorem walk (a0 : Int) (a1 : Int) (w : World)  :
    Calls Try.prog 5 #[.int .i64 a0, .int .i64 a1] w fun e w' => e = .returned (.bool true) ∧ Below w.heap.size w w' := by
  obtain ⟨R0, hR0⟩ : ∃ R : Bool, freshB a0 a1 = R := ⟨_, rfl⟩
  have HRD0 : Hid (freshB a0 a1 = R0) := hR0
  clear hR0
  have hvv0 : (R0 != R0) = false := by simp
  go_enter Try.func5, Try.ntmps5
  go_wp2_with fail
  refine (CkS.specFreshB a0 a1 w).mono ?_
  rw [HRD0.out]
  rintro e x1 ⟨rfl, b⟩
  have L1 : Hid (w.heap.size ≤ x1.heap.size) := b.size
  have B1 : Hid (Below w.heap.size w x1) := b
  clear b
  go_upto_region 2 with fail
  go_wp2_with fail
  refine (CkI.implFreshB a0 a1 x1).mono ?_
  rw [HRD0.out]
  rintro e x2 ⟨rfl, b⟩
  have L2 : Hid (x1.heap.size ≤ x2.heap.size) := b.size
  have B2 : Hid (Below w.heap.size w x2) := B1.out.trans (b.mono B1.out.size)
  clear b B1
  go_upto_region 3 with fail
  go_wp2
  go_ret
  exact ⟨rfl, B2.out⟩
end Go.Proofs.Ytpgapjdejelajaa.LawFresh

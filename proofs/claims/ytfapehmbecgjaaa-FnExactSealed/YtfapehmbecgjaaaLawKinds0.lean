/-
  The walk of the law FnExactSealed: at every argument it answers true, and nothing that was there is written.
-/
import Derived.Test.YtfapehmbecgjaaaFrS
import Derived.Test.YtfapehmbecgjaaaFrSe
namespace Go.Proofs.Ytfapehmbecgjaaa.LawKinds0
open Go.RowKit Go.Proofs.Ytfapehmbecgjaaa.Mem Go.Proofs.Ytfapehmbecgjaaa.Words Go.Proofs.Ytfapehmbecgjaaa.FrS Go.Proofs.Ytfapehmbecgjaaa.FrSe

theorem sealed_walk (k : Int) (w : World) :
    Calls Try.prog 5 #[.int .i64 k] w fun e w' => e = .returned (.bool true) ∧ Below w.heap.size w w' := by
  obtain ⟨v, hv⟩ : ∃ v, isIn k 4 8 = v := ⟨_, rfl⟩
  have HV : Hid (isIn k 4 8 = v) := hv
  have hvv : (v != v) = false := by simp
  clear hv
  go_enter Try.func5, Try.ntmps5
  go_wp2_with fail
  refine (specSealed k w).mono ?_
  rw [HV.out]
  rintro e w1 ⟨rfl, rfl⟩
  go_wp2_with fail
  refine (implSealed k w).mono ?_
  rw [HV.out]
  rintro e w1 ⟨rfl, b1⟩
  have B1 : Hid (Below w.heap.size w w1) := b1
  clear b1
  go_wp2
  go_ret
  exact ⟨rfl, B1.out⟩
end Go.Proofs.Ytfapehmbecgjaaa.LawKinds0

/-
  What the laws' own tests of bytes answer of any two slices.
-/
import Derived.Test.YtpenhliaelhnoaaGreatDoorVaFrE
import Derived.Test.YtpenhliaelhnoaaGreatDoorVaGz15
set_option maxRecDepth 100000
namespace Go.Proofs.YtpenhliaelhnoaaGreatDoor.SameV
open Go.RowKit Mem Blk Zone FrE Same

theorem same_raw (s t : Sl) (x y : List Int) (w : World) (h : SRd w s x) (k : SRd w t y) :
  Calls Tryz.prog 16 #[.slice s.a s.n s.c, .slice t.a t.n t.c] w fun e w' => e = .returned (.bool (decide (x = y))) ∧ w = w' := by
 have cv1 := convS h
 have cv2 := convS k
 have HD : Hid (decide (x = y) = ((strOfNums x).toList == (strOfNums y).toList)) := by
  show _ = _
  rw [Lib.strOfNums_toList, Lib.strOfNums_toList]
  by_cases e : x = y
  ·
   subst e; simp
  ·
   have : ¬ Lib.bytesOf x = Lib.bytesOf y := fun q => e (nums_inj h.bytes k.bytes (by unfold strOfNums; rw [show (x.map fun n => UInt8.ofNat n.toNat) = (y.map fun n => UInt8.ofNat n.toNat) from q]))
   simp [e, this]
 clear h k
 generalize strOfNums x = sx at *
 generalize strOfNums y = sy at *
 go_enter Tryz.func16, Tryz.ntmps16
 go_wp2
 go_ret
 exact ⟨by rw [HD.out]; rfl, rfl⟩
theorem sameV (s t : Sl) (x y : List Int) (v : Bool) (w : World) (h : SRd w s x) (k : SRd w t y) (hv : decide (x = y) = v) :
  Calls Tryz.prog 16 #[.slice s.a s.n s.c, .slice t.a t.n t.c] w fun e w' => e = .returned (.bool v) ∧ w = w' := by
 subst hv; exact same_raw s t x y w h k
end Go.Proofs.YtpenhliaelhnoaaGreatDoor.SameV

/-
  The laws' own words of whether two frames, two epochs are the same.
-/
import Derived.Test.YtmcflfpckpjphaaGreatDoorVdSameV
import Derived.Test.YtmcflfpckpjphaaGreatDoorVdBas7
set_option maxRecDepth 100000
namespace Go.Proofs.YtmcflfpckpjphaaGreatDoor.SmFr
open Go.RowKit Mem Blk Zone FrZ FrE

theorem sameS (s t : Sl) (x : List Int) (w : World) (h : SRd w s x) (k : SRd w t x) :
  Calls Tryz.prog 19 #[.slice s.a s.n s.c, .slice t.a t.n t.c] w fun e w' => e = .returned (.bool true) ∧ w = w' := by
 have cv1 := convS h
 have cv2 := convS k
 clear h k
 generalize strOfNums x = sx at *
 have hss : (sx.toList == sx.toList) = true := by simp
 go_enter Tryz.func19, Tryz.ntmps19
 go_wp2
 go_ret
 exact ⟨by simp, rfl⟩
end Go.Proofs.YtmcflfpckpjphaaGreatDoor.SmFr

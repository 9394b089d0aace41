/-
  What spec opens.
-/
import Derived.Test.YtpenhliaelhnoaaGreatDoorVaGz19
import Derived.Test.YtpenhliaelhnoaaGreatDoorVaGz14
import Derived.Test.YtpenhliaelhnoaaGreatDoorVaGz16
import Derived.Test.YtpenhliaelhnoaaGreatDoorVaGz7
import Derived.Test.YtpenhliaelhnoaaGreatDoorVaGz12
set_option maxRecDepth 100000
namespace Go.Proofs.YtpenhliaelhnoaaGreatDoor.UnsS
open Go.RowKit Mem App Blk Words Zone Res DiffP Diffs MacP KdfP FrZ FrL FrP FrG Shp Each Copy Ops Guard MacS

theorem same_dec {x y : List Int} (hx : Bytes x) (hy : Bytes y) (h : x.length = 16) : sameI x y = decide (x = y) := by
 rw [sameI_yes x y h]
 by_cases e : x = y
 ·
  rw [decide_eq_true e, (diffI_zero x y hx hy).2 e]; rfl
 ·
  rw [decide_eq_false e]
  have := mt (diffI_zero x y hx hy).1 e
  simpa using this
theorem sameTagV (s t : Sl) (x y : List Int) (v : Bool) (w : World) (h : SRd w s x) (k : SRd w t y) (lx : x.length ≤ 4194304) (ly : y.length ≤ 4194304) (hv : sameI x y = v) :
  Calls Tryz.prog 40 #[.slice s.a s.n s.c, .slice t.a t.n t.c] w fun e w' => e = .returned (.bool v) ∧ Below w.heap.size w w' := by
 subst hv
 refine (specSameTag s.a t.a s.n s.c t.n t.c x y w h.len k.len h.rd k.rd h.bytes k.bytes (by rw [h.len]; exact lx) (by rw [k.len]; exact ly)).mono ?_
 rintro e w' ⟨rfl, m, rfl⟩
 exact ⟨rfl, ⟨rfl, rfl, rfl, Nat.le_refl _, fun _ _ => rfl⟩⟩
end Go.Proofs.YtpenhliaelhnoaaGreatDoor.UnsS

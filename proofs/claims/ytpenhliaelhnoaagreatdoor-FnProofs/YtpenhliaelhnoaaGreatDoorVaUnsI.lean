/-
  What impl opens.
-/
import Derived.Test.YtpenhliaelhnoaaGreatDoorVaSealI
set_option maxRecDepth 100000
namespace Go.Proofs.YtpenhliaelhnoaaGreatDoor.UnsI
open Go.RowKit Mem App Blk Words Zone Res Comp DiffP Diffs MacP KdfP FrZ FrL FrP FrG Shp Each Copy Ops Guard MacI

theorem sameTagV (s t : Sl) (x y : List Int) (v : Bool) (w : World) (h : SRd w s x) (k : SRd w t y) (lx : x.length ≤ 4194304) (ly : y.length ≤ 4194304) (hv : sameI x y = v) :
  Calls Tryz.prog 39 #[.slice s.a s.n s.c, .slice t.a t.n t.c] w fun e w' => e = .returned (.bool v) ∧ Below w.heap.size w w' := by
 subst hv
 refine (implSameTag s.a t.a s.n s.c t.n t.c x y w h.len k.len h.rd k.rd h.bytes k.bytes (by rw [h.len]; exact lx) (by rw [k.len]; exact ly)).mono ?_
 rintro e w' ⟨rfl, m, rfl⟩
 exact ⟨rfl, ⟨rfl, rfl, rfl, Nat.le_refl _, fun _ _ => rfl⟩⟩
end Go.Proofs.YtpenhliaelhnoaaGreatDoor.UnsI

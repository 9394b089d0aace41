/-
  What impl's functions of frames answer, by one name.
-/
import Derived.Test.YtfapehmbecgjaaaFrQ3
namespace Go.Proofs.Ytfapehmbecgjaaa.FrI
open Go.RowKit Go.Proofs.Ytfapehmbecgjaaa.Mem Go.Proofs.Ytfapehmbecgjaaa.App Go.Proofs.Ytfapehmbecgjaaa.Words Go.Proofs.Ytfapehmbecgjaaa.Zone Go.Proofs.Ytfapehmbecgjaaa.FrZ Go.Proofs.Ytfapehmbecgjaaa.FrP Go.Proofs.Ytfapehmbecgjaaa.FrB
theorem implFrameOk (S : FrS) (D : FrD) (w : World) (h : FrRd w S D) :
    Calls Try.prog 13 #[frV D S] w fun e w' => e = .returned (.bool (frameOk D)) ∧ Below w.heap.size w w' := FrO2.implFrameOk S D w h
theorem implPutFrame (S : FrS) (D : FrD) (w : World) (h : FrRd w S D) :
    Calls Try.prog 12 #[frV D S] w fun e w' => ∃ g m c, e = .returned (.slice (some ⟨g, 0, none⟩) m c) ∧ m = (putF D).length ∧ w.heap.size ≤ g ∧ Row w' g c (putF D) ∧ Below w.heap.size w w' := FrQ3.implPutFrame S D w h
theorem implSizeOf (S : FrS) (D : FrD) (w : World) (h : FrRd w S D) :
    Calls Try.prog 15 #[frV D S] w fun e w' => e = .returned (.int .i64 ((putF D).length : Int)) ∧ Below w.heap.size w w' := FrQ3.implSizeOf S D w h
end Go.Proofs.Ytfapehmbecgjaaa.FrI

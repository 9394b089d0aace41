/-
  What impl's putWord answers, kind by kind.
-/
import Derived.Test.YtmcflfpckpjphaaGreatDoorVdBas4
import Derived.Test.YtmcflfpckpjphaaGreatDoorVdFrW3
set_option maxRecDepth 100000
namespace Go.Proofs.YtmcflfpckpjphaaGreatDoor.FrQ2
open Go.RowKit Mem App Blk Words Zone Res FrZ FrP FrB FrT FrW FrW2 FrQ

theorem nilRd (w : World) : SRd w ⟨none, 0, 0⟩ [] := ⟨rfl, (fun i hi => by cases hi), fun _ => rfl, Nat.le_refl _, (fun z hz => by cases hz)⟩
end Go.Proofs.YtmcflfpckpjphaaGreatDoor.FrQ2

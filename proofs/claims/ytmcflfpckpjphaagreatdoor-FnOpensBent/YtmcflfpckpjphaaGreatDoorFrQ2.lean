/-
  What impl's putWord answers, kind by kind.
-/
import Derived.Test.YtmcflfpckpjphaaGreatDoorBas4
import Derived.Test.YtmcflfpckpjphaaGreatDoorFrW3
namespace Go.Proofs.YtmcflfpckpjphaaGreatDoor.FrQ2
open Go.RowKit Go.Proofs.YtmcflfpckpjphaaGreatDoor.Mem Go.Proofs.YtmcflfpckpjphaaGreatDoor.App Go.Proofs.YtmcflfpckpjphaaGreatDoor.Blk Go.Proofs.YtmcflfpckpjphaaGreatDoor.Words Go.Proofs.YtmcflfpckpjphaaGreatDoor.Zone Go.Proofs.YtmcflfpckpjphaaGreatDoor.Res Go.Proofs.YtmcflfpckpjphaaGreatDoor.FrZ Go.Proofs.YtmcflfpckpjphaaGreatDoor.FrP Go.Proofs.YtmcflfpckpjphaaGreatDoor.FrB Go.Proofs.YtmcflfpckpjphaaGreatDoor.FrT Go.Proofs.YtmcflfpckpjphaaGreatDoor.FrW Go.Proofs.YtmcflfpckpjphaaGreatDoor.FrW2 Go.Proofs.YtmcflfpckpjphaaGreatDoor.FrQ

set_option maxRecDepth 100000 in
theorem nilRd (w : World) : SRd w ⟨none, 0, 0⟩ [] := ⟨rfl, (fun i hi => by cases hi), fun _ => rfl, Nat.le_refl _, (fun z hz => by cases hz)⟩
set_option maxRecDepth 100000 in
theorem putN1_len (k : Int) : (putN k 1).length = 1 := by show (num k 1).length = 1; rw [num_length]

end Go.Proofs.YtmcflfpckpjphaaGreatDoor.FrQ2

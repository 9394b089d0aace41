/-
  What impl's putWord answers, kind by kind.
-/
import Derived.Test.YtmcflfpckpjphaaFrQ
import Derived.Test.YtmcflfpckpjphaaFrW3
namespace Go.Proofs.Ytmcflfpckpjphaa.FrQ2
open Go.RowKit Go.Proofs.Ytmcflfpckpjphaa.Mem Go.Proofs.Ytmcflfpckpjphaa.App Go.Proofs.Ytmcflfpckpjphaa.Blk Go.Proofs.Ytmcflfpckpjphaa.Words Go.Proofs.Ytmcflfpckpjphaa.Zone Go.Proofs.Ytmcflfpckpjphaa.Res Go.Proofs.Ytmcflfpckpjphaa.FrZ Go.Proofs.Ytmcflfpckpjphaa.FrP Go.Proofs.Ytmcflfpckpjphaa.FrB Go.Proofs.Ytmcflfpckpjphaa.FrT Go.Proofs.Ytmcflfpckpjphaa.FrW Go.Proofs.Ytmcflfpckpjphaa.FrW2 Go.Proofs.Ytmcflfpckpjphaa.FrQ

set_option maxRecDepth 100000 in
theorem nilRd (w : World) : SRd w ⟨none, 0, 0⟩ [] := ⟨rfl, (fun i hi => by cases hi), fun _ => rfl, Nat.le_refl _, (fun z hz => by cases hz)⟩
set_option maxRecDepth 100000 in
theorem putN1_len (k : Int) : (putN k 1).length = 1 := by show (num k 1).length = 1; rw [num_length]

end Go.Proofs.Ytmcflfpckpjphaa.FrQ2

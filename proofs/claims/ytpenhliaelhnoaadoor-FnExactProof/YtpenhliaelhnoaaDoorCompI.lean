/-
  What impl's Compress answers at every slice of ints and every slice of bytes of at most 4,194,304 each, where the table of round words holds what the program's text lays into it: what spec's answers, in new memory.
-/
import Derived.Test.YtpenhliaelhnoaaDoorWordsOf
import Derived.Test.YtpenhliaelhnoaaDoorCompS
namespace Go.Proofs.YtpenhliaelhnoaaDoor.CompI
open Go.RowKit Go.Proofs.YtpenhliaelhnoaaDoor.Mem Go.Proofs.YtpenhliaelhnoaaDoor.MemI Go.Proofs.YtpenhliaelhnoaaDoor.Blk Go.Proofs.YtpenhliaelhnoaaDoor.App Go.Proofs.YtpenhliaelhnoaaDoor.Get Go.Proofs.YtpenhliaelhnoaaDoor.ShaP Go.Proofs.YtpenhliaelhnoaaDoor.Word Go.Proofs.YtpenhliaelhnoaaDoor.Bits Go.Proofs.YtpenhliaelhnoaaDoor.Sched Go.Proofs.YtpenhliaelhnoaaDoor.Words Go.Proofs.YtpenhliaelhnoaaDoor.WordsOf Go.Proofs.YtpenhliaelhnoaaDoor.Comp Go.Proofs.YtpenhliaelhnoaaDoor.CompS

end Go.Proofs.YtpenhliaelhnoaaDoor.CompI

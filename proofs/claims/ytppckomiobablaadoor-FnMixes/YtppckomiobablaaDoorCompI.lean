/-
  What impl's Compress answers at every slice of ints and every slice of bytes of at most 4,194,304 each, where the table of round words holds what the program's text lays into it: what spec's answers, in new memory.
-/
import Derived.Test.YtppckomiobablaaDoorWordsOf
import Derived.Test.YtppckomiobablaaDoorCompS
namespace Go.Proofs.YtppckomiobablaaDoor.CompI
open Go.RowKit Go.Proofs.YtppckomiobablaaDoor.Mem Go.Proofs.YtppckomiobablaaDoor.MemI Go.Proofs.YtppckomiobablaaDoor.Blk Go.Proofs.YtppckomiobablaaDoor.App Go.Proofs.YtppckomiobablaaDoor.Get Go.Proofs.YtppckomiobablaaDoor.ShaP Go.Proofs.YtppckomiobablaaDoor.Word Go.Proofs.YtppckomiobablaaDoor.Bits Go.Proofs.YtppckomiobablaaDoor.Sched Go.Proofs.YtppckomiobablaaDoor.Words Go.Proofs.YtppckomiobablaaDoor.WordsOf Go.Proofs.YtppckomiobablaaDoor.Comp Go.Proofs.YtppckomiobablaaDoor.CompS

end Go.Proofs.YtppckomiobablaaDoor.CompI

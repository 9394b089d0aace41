/-
  What impl's Compress answers at every slice of ints and every slice of bytes of at most 4,194,304 each, where the table of round words holds what the program's text lays into it: what spec's answers, in new memory.
-/
import Derived.Test.YtfoilfbpbjfkcaaDoorWordsOf
import Derived.Test.YtfoilfbpbjfkcaaDoorCompS
namespace Go.Proofs.YtfoilfbpbjfkcaaDoor.CompI
open Go.RowKit Go.Proofs.YtfoilfbpbjfkcaaDoor.Mem Go.Proofs.YtfoilfbpbjfkcaaDoor.MemI Go.Proofs.YtfoilfbpbjfkcaaDoor.Blk Go.Proofs.YtfoilfbpbjfkcaaDoor.App Go.Proofs.YtfoilfbpbjfkcaaDoor.Get Go.Proofs.YtfoilfbpbjfkcaaDoor.ShaP Go.Proofs.YtfoilfbpbjfkcaaDoor.Word Go.Proofs.YtfoilfbpbjfkcaaDoor.Bits Go.Proofs.YtfoilfbpbjfkcaaDoor.Sched Go.Proofs.YtfoilfbpbjfkcaaDoor.Words Go.Proofs.YtfoilfbpbjfkcaaDoor.WordsOf Go.Proofs.YtfoilfbpbjfkcaaDoor.Comp Go.Proofs.YtfoilfbpbjfkcaaDoor.CompS

end Go.Proofs.YtfoilfbpbjfkcaaDoor.CompI

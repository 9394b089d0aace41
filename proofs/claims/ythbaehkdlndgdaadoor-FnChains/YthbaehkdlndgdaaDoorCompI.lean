/-
  What impl's Compress answers at every slice of ints and every slice of bytes of at most 4,194,304 each, where the table of round words holds what the program's text lays into it: what spec's answers, in new memory.
-/
import Derived.Test.YthbaehkdlndgdaaDoorWordsOf
import Derived.Test.YthbaehkdlndgdaaDoorCompS
namespace Go.Proofs.YthbaehkdlndgdaaDoor.CompI
open Go.RowKit Go.Proofs.YthbaehkdlndgdaaDoor.Mem Go.Proofs.YthbaehkdlndgdaaDoor.MemI Go.Proofs.YthbaehkdlndgdaaDoor.Blk Go.Proofs.YthbaehkdlndgdaaDoor.App Go.Proofs.YthbaehkdlndgdaaDoor.Get Go.Proofs.YthbaehkdlndgdaaDoor.ShaP Go.Proofs.YthbaehkdlndgdaaDoor.Word Go.Proofs.YthbaehkdlndgdaaDoor.Bits Go.Proofs.YthbaehkdlndgdaaDoor.Sched Go.Proofs.YthbaehkdlndgdaaDoor.Words Go.Proofs.YthbaehkdlndgdaaDoor.WordsOf Go.Proofs.YthbaehkdlndgdaaDoor.Comp Go.Proofs.YthbaehkdlndgdaaDoor.CompS

end Go.Proofs.YthbaehkdlndgdaaDoor.CompI

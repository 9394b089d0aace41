/-
  What impl's Compress answers at every slice of ints and every slice of bytes of at most 4,194,304 each, where the table of round words holds what the program's text lays into it: what spec's answers, in new memory.
-/
import Derived.Test.YtcodonnknepkeaaDoorWordsOf
import Derived.Test.YtcodonnknepkeaaDoorCompS
namespace Go.Proofs.YtcodonnknepkeaaDoor.CompI
open Go.RowKit Go.Proofs.YtcodonnknepkeaaDoor.Mem Go.Proofs.YtcodonnknepkeaaDoor.MemI Go.Proofs.YtcodonnknepkeaaDoor.Blk Go.Proofs.YtcodonnknepkeaaDoor.App Go.Proofs.YtcodonnknepkeaaDoor.Get Go.Proofs.YtcodonnknepkeaaDoor.ShaP Go.Proofs.YtcodonnknepkeaaDoor.Word Go.Proofs.YtcodonnknepkeaaDoor.Bits Go.Proofs.YtcodonnknepkeaaDoor.Sched Go.Proofs.YtcodonnknepkeaaDoor.Words Go.Proofs.YtcodonnknepkeaaDoor.WordsOf Go.Proofs.YtcodonnknepkeaaDoor.Comp Go.Proofs.YtcodonnknepkeaaDoor.CompS

end Go.Proofs.YtcodonnknepkeaaDoor.CompI

/-
  What impl's Compress answers at every slice of ints and every slice of bytes of at most 4,194,304 each, where the table of round words holds what the program's text lays into it: what spec's answers, in new memory.
-/
import Derived.Test.YtpgapjdejelajaaDoorWordsOf
import Derived.Test.YtpgapjdejelajaaDoorCompS
namespace Go.Proofs.YtpgapjdejelajaaDoor.CompI
open Go.RowKit Go.Proofs.YtpgapjdejelajaaDoor.Mem Go.Proofs.YtpgapjdejelajaaDoor.MemI Go.Proofs.YtpgapjdejelajaaDoor.Blk Go.Proofs.YtpgapjdejelajaaDoor.App Go.Proofs.YtpgapjdejelajaaDoor.Get Go.Proofs.YtpgapjdejelajaaDoor.ShaP Go.Proofs.YtpgapjdejelajaaDoor.Word Go.Proofs.YtpgapjdejelajaaDoor.Bits Go.Proofs.YtpgapjdejelajaaDoor.Sched Go.Proofs.YtpgapjdejelajaaDoor.Words Go.Proofs.YtpgapjdejelajaaDoor.WordsOf Go.Proofs.YtpgapjdejelajaaDoor.Comp Go.Proofs.YtpgapjdejelajaaDoor.CompS

end Go.Proofs.YtpgapjdejelajaaDoor.CompI

/-
  What impl's Compress answers at every slice of ints and every slice of bytes of at most 4,194,304 each, where the table of round words holds what the program's text lays into it: what spec's answers, in new memory.
-/
import Derived.Test.YtmcflfpckpjphaaGreatDoorWordsOf
import Derived.Test.YtmcflfpckpjphaaGreatDoorCompS
namespace Go.Proofs.YtmcflfpckpjphaaGreatDoor.CompI
open Go.RowKit Go.Proofs.YtmcflfpckpjphaaGreatDoor.Mem Go.Proofs.YtmcflfpckpjphaaGreatDoor.MemI Go.Proofs.YtmcflfpckpjphaaGreatDoor.Blk Go.Proofs.YtmcflfpckpjphaaGreatDoor.App Go.Proofs.YtmcflfpckpjphaaGreatDoor.Get Go.Proofs.YtmcflfpckpjphaaGreatDoor.ShaP Go.Proofs.YtmcflfpckpjphaaGreatDoor.Word Go.Proofs.YtmcflfpckpjphaaGreatDoor.Bits Go.Proofs.YtmcflfpckpjphaaGreatDoor.Sched Go.Proofs.YtmcflfpckpjphaaGreatDoor.Words Go.Proofs.YtmcflfpckpjphaaGreatDoor.WordsOf Go.Proofs.YtmcflfpckpjphaaGreatDoor.Comp Go.Proofs.YtmcflfpckpjphaaGreatDoor.CompS

end Go.Proofs.YtmcflfpckpjphaaGreatDoor.CompI

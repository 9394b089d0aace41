/-
  What impl's newSum and impl's and spec's Start answer: the eight words that a sum begins with, in new memory.
-/
import Derived.Test.YticfgbfchpnpoaaDoorWordsOf
namespace Go.Proofs.YticfgbfchpnpoaaDoor.Start
open Go.RowKit Go.Proofs.YticfgbfchpnpoaaDoor.Mem Go.Proofs.YticfgbfchpnpoaaDoor.MemI Go.Proofs.YticfgbfchpnpoaaDoor.Blk Go.Proofs.YticfgbfchpnpoaaDoor.App Go.Proofs.YticfgbfchpnpoaaDoor.Get Go.Proofs.YticfgbfchpnpoaaDoor.ShaP Go.Proofs.YticfgbfchpnpoaaDoor.Word Go.Proofs.YticfgbfchpnpoaaDoor.Bits Go.Proofs.YticfgbfchpnpoaaDoor.Sched Go.Proofs.YticfgbfchpnpoaaDoor.Words Go.Proofs.YticfgbfchpnpoaaDoor.WordsOf

/-- The cells of a sum. -/
def sumCells (h : List Int) (a : Option Addr) (m c : Nat) (n : Int) : List Value := h.map (Value.int .i64) ++ [.slice a m c, .int .i64 n]

end Go.Proofs.YticfgbfchpnpoaaDoor.Start

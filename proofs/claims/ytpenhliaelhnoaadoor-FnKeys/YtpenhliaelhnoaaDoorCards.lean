/-
  DERIVED. GIVEN WITH THE SEED: THE CARDS: each row of YtpenhliaelhnoaaDoorRows.lean that lists a variable, with what it lists TIED to the program's text (the seventh form; the later family's looks); each row that meets fmt, with fmt's text TOLD by the authors' own Lean function (tested against real Go, not proved from fmt's source: count such statements apart). THE CARD IS WHAT COUNTS. Prove the row's statement (the work); the ties are given (YtpenhliaelhnoaaDoorTie.lean); close each card by the builder's one call (the guide's Derived/Test/ToyasCard.lean, 'card_holds'). Laid BY PROGRAM, IN A SANDBOX (cutbox-door.mjs). By AI agents, Wed Nov 11 2026. No macro, syntax, notation, axiom, sorry.
-/
import Derived.Test.YtpenhliaelhnoaaDoorRows
import GoSem.ClaimSeven
namespace Go.Proofs.YtpenhliaelhnoaaDoor
namespace Rows

/-- THE TIED CARD OF 'laws.FnKeys'. -/
def fnKeysCard : Claim7 := { stood := { row := fnKeysRow, standIns := [], harness := (true, "9b531ba6f3260578e5b557c0c0ecabb2be309eec060d320cf06565b1011760fe"), looks := false }, kinds := [], alts := [], laidByText := true, laidKinds := [.data], laidTests := true, laidLooks := .later }
def FnKeysCardSaid : Prop := Claim7.holds Tryd.pinned (.plain (OpenSpec.ofChange fnKeysSpec)) fnKeysCard

/-- THE TIED CARD OF 'laws.FnExactFinishKey'. -/
def fnExactFinishKeyCard : Claim7 := { stood := { row := fnExactFinishKeyRow, standIns := [], harness := (true, "9b531ba6f3260578e5b557c0c0ecabb2be309eec060d320cf06565b1011760fe"), looks := false }, kinds := [], alts := [], laidByText := true, laidKinds := [.data], laidTests := true, laidLooks := .later }
def FnExactFinishKeyCardSaid : Prop := Claim7.holds Tryd.pinned (.plain (OpenSpec.ofChange fnExactFinishKeySpec)) fnExactFinishKeyCard

/-- THE TIED CARD OF 'laws.FnExactRootKey'. -/
def fnExactRootKeyCard : Claim7 := { stood := { row := fnExactRootKeyRow, standIns := [], harness := (true, "9b531ba6f3260578e5b557c0c0ecabb2be309eec060d320cf06565b1011760fe"), looks := false }, kinds := [], alts := [], laidByText := true, laidKinds := [.data], laidTests := true, laidLooks := .later }
def FnExactRootKeyCardSaid : Prop := Claim7.holds Tryd.pinned (.plain (OpenSpec.ofChange fnExactRootKeySpec)) fnExactRootKeyCard

/-- THE TIED CARD OF 'laws.FnExactFirstKey'. -/
def fnExactFirstKeyCard : Claim7 := { stood := { row := fnExactFirstKeyRow, standIns := [], harness := (true, "9b531ba6f3260578e5b557c0c0ecabb2be309eec060d320cf06565b1011760fe"), looks := false }, kinds := [], alts := [], laidByText := true, laidKinds := [.data], laidTests := true, laidLooks := .later }
def FnExactFirstKeyCardSaid : Prop := Claim7.holds Tryd.pinned (.plain (OpenSpec.ofChange fnExactFirstKeySpec)) fnExactFirstKeyCard

/-- THE TIED CARD OF 'laws.FnExactEpochKey'. -/
def fnExactEpochKeyCard : Claim7 := { stood := { row := fnExactEpochKeyRow, standIns := [], harness := (true, "9b531ba6f3260578e5b557c0c0ecabb2be309eec060d320cf06565b1011760fe"), looks := false }, kinds := [], alts := [], laidByText := true, laidKinds := [.data], laidTests := true, laidLooks := .later }
def FnExactEpochKeyCardSaid : Prop := Claim7.holds Tryd.pinned (.plain (OpenSpec.ofChange fnExactEpochKeySpec)) fnExactEpochKeyCard

/-- THE TIED CARD OF 'laws.FnExactProof'. -/
def fnExactProofCard : Claim7 := { stood := { row := fnExactProofRow, standIns := [], harness := (true, "9b531ba6f3260578e5b557c0c0ecabb2be309eec060d320cf06565b1011760fe"), looks := false }, kinds := [], alts := [], laidByText := true, laidKinds := [.data], laidTests := true, laidLooks := .later }
def FnExactProofCardSaid : Prop := Claim7.holds Tryd.pinned (.plain (OpenSpec.ofChange fnExactProofSpec)) fnExactProofCard

/-- THE SECOND FORM's CARD OF 'laws.FnKeys'. -/
def fnKeysUptoCard : Claim7 := { stood := { row := fnKeysUptoRow, standIns := [], harness := (true, "9b531ba6f3260578e5b557c0c0ecabb2be309eec060d320cf06565b1011760fe"), looks := false }, kinds := [], alts := [], laidByText := true, laidKinds := [.data], laidTests := true, laidLooks := .later }
def FnKeysUptoCardSaid : Prop := Claim7.holds Tryd.pinned (.plain (OpenSpec.upto fnKeysSpec)) fnKeysUptoCard

/-- THE SECOND FORM's CARD OF 'laws.FnExactFinishKey'. -/
def fnExactFinishKeyUptoCard : Claim7 := { stood := { row := fnExactFinishKeyUptoRow, standIns := [], harness := (true, "9b531ba6f3260578e5b557c0c0ecabb2be309eec060d320cf06565b1011760fe"), looks := false }, kinds := [], alts := [], laidByText := true, laidKinds := [.data], laidTests := true, laidLooks := .later }
def FnExactFinishKeyUptoCardSaid : Prop := Claim7.holds Tryd.pinned (.plain (OpenSpec.upto fnExactFinishKeySpec)) fnExactFinishKeyUptoCard

/-- THE SECOND FORM's CARD OF 'laws.FnExactRootKey'. -/
def fnExactRootKeyUptoCard : Claim7 := { stood := { row := fnExactRootKeyUptoRow, standIns := [], harness := (true, "9b531ba6f3260578e5b557c0c0ecabb2be309eec060d320cf06565b1011760fe"), looks := false }, kinds := [], alts := [], laidByText := true, laidKinds := [.data], laidTests := true, laidLooks := .later }
def FnExactRootKeyUptoCardSaid : Prop := Claim7.holds Tryd.pinned (.plain (OpenSpec.upto fnExactRootKeySpec)) fnExactRootKeyUptoCard

/-- THE SECOND FORM's CARD OF 'laws.FnExactFirstKey'. -/
def fnExactFirstKeyUptoCard : Claim7 := { stood := { row := fnExactFirstKeyUptoRow, standIns := [], harness := (true, "9b531ba6f3260578e5b557c0c0ecabb2be309eec060d320cf06565b1011760fe"), looks := false }, kinds := [], alts := [], laidByText := true, laidKinds := [.data], laidTests := true, laidLooks := .later }
def FnExactFirstKeyUptoCardSaid : Prop := Claim7.holds Tryd.pinned (.plain (OpenSpec.upto fnExactFirstKeySpec)) fnExactFirstKeyUptoCard

/-- THE SECOND FORM's CARD OF 'laws.FnExactEpochKey'. -/
def fnExactEpochKeyUptoCard : Claim7 := { stood := { row := fnExactEpochKeyUptoRow, standIns := [], harness := (true, "9b531ba6f3260578e5b557c0c0ecabb2be309eec060d320cf06565b1011760fe"), looks := false }, kinds := [], alts := [], laidByText := true, laidKinds := [.data], laidTests := true, laidLooks := .later }
def FnExactEpochKeyUptoCardSaid : Prop := Claim7.holds Tryd.pinned (.plain (OpenSpec.upto fnExactEpochKeySpec)) fnExactEpochKeyUptoCard

/-- THE SECOND FORM's CARD OF 'laws.FnExactProof'. -/
def fnExactProofUptoCard : Claim7 := { stood := { row := fnExactProofUptoRow, standIns := [], harness := (true, "9b531ba6f3260578e5b557c0c0ecabb2be309eec060d320cf06565b1011760fe"), looks := false }, kinds := [], alts := [], laidByText := true, laidKinds := [.data], laidTests := true, laidLooks := .later }
def FnExactProofUptoCardSaid : Prop := Claim7.holds Tryd.pinned (.plain (OpenSpec.upto fnExactProofSpec)) fnExactProofUptoCard
end Rows
end Go.Proofs.YtpenhliaelhnoaaDoor

/-
  DERIVED. GIVEN WITH THE SEED: THE CARDS: each row of YtcodonnknepkeaaDoorRows.lean that lists a variable, with what it lists TIED to the program's text (the seventh form; the later family's looks); each row that meets fmt, with fmt's text TOLD by the authors' own Lean function (tested against real Go, not proved from fmt's source: count such statements apart). THE CARD IS WHAT COUNTS. Prove the row's statement (the work); the ties are given (YtcodonnknepkeaaDoorTie.lean); close each card by the builder's one call (the guide's Derived/Test/ToyasCard.lean, 'card_holds'). Laid BY PROGRAM, IN A SANDBOX (cutbox-door.mjs). By AI agents, Wed Nov 11 2026. No macro, syntax, notation, axiom, sorry.
-/
import Derived.Test.YtcodonnknepkeaaDoorRows
import GoSem.ClaimSeven
namespace Go.Proofs.YtcodonnknepkeaaDoor
namespace Rows

/-- THE TIED CARD OF 'laws.FnRolls'. -/
def fnRollsCard : Claim7 := { stood := { row := fnRollsRow, standIns := [], harness := (true, "e65383a5f9f305c23a43d4470e9cb7af5efb9f81513be5371ee15e91d6a516f7"), looks := false }, kinds := [], alts := [], laidByText := true, laidKinds := [.data], laidTests := true, laidLooks := .later }
def FnRollsCardSaid : Prop := Claim7.holds Tryd.pinned (.plain (OpenSpec.ofChange fnRollsSpec)) fnRollsCard

/-- THE TIED CARD OF 'laws.FnExactDiceAt'. -/
def fnExactDiceAtCard : Claim7 := { stood := { row := fnExactDiceAtRow, standIns := [], harness := (true, "e65383a5f9f305c23a43d4470e9cb7af5efb9f81513be5371ee15e91d6a516f7"), looks := false }, kinds := [], alts := [], laidByText := true, laidKinds := [.data], laidTests := true, laidLooks := .later }
def FnExactDiceAtCardSaid : Prop := Claim7.holds Tryd.pinned (.plain (OpenSpec.ofChange fnExactDiceAtSpec)) fnExactDiceAtCard

/-- THE TIED CARD OF 'laws.FnExactRoll'. -/
def fnExactRollCard : Claim7 := { stood := { row := fnExactRollRow, standIns := [], harness := (true, "e65383a5f9f305c23a43d4470e9cb7af5efb9f81513be5371ee15e91d6a516f7"), looks := false }, kinds := [], alts := [], laidByText := true, laidKinds := [.data], laidTests := true, laidLooks := .later }
def FnExactRollCardSaid : Prop := Claim7.holds Tryd.pinned (.plain (OpenSpec.ofChange fnExactRollSpec)) fnExactRollCard

/-- THE SECOND FORM's CARD OF 'laws.FnRolls'. -/
def fnRollsUptoCard : Claim7 := { stood := { row := fnRollsUptoRow, standIns := [], harness := (true, "e65383a5f9f305c23a43d4470e9cb7af5efb9f81513be5371ee15e91d6a516f7"), looks := false }, kinds := [], alts := [], laidByText := true, laidKinds := [.data], laidTests := true, laidLooks := .later }
def FnRollsUptoCardSaid : Prop := Claim7.holds Tryd.pinned (.plain (OpenSpec.upto fnRollsSpec)) fnRollsUptoCard

/-- THE SECOND FORM's CARD OF 'laws.FnExactDiceAt'. -/
def fnExactDiceAtUptoCard : Claim7 := { stood := { row := fnExactDiceAtUptoRow, standIns := [], harness := (true, "e65383a5f9f305c23a43d4470e9cb7af5efb9f81513be5371ee15e91d6a516f7"), looks := false }, kinds := [], alts := [], laidByText := true, laidKinds := [.data], laidTests := true, laidLooks := .later }
def FnExactDiceAtUptoCardSaid : Prop := Claim7.holds Tryd.pinned (.plain (OpenSpec.upto fnExactDiceAtSpec)) fnExactDiceAtUptoCard

/-- THE SECOND FORM's CARD OF 'laws.FnExactRoll'. -/
def fnExactRollUptoCard : Claim7 := { stood := { row := fnExactRollUptoRow, standIns := [], harness := (true, "e65383a5f9f305c23a43d4470e9cb7af5efb9f81513be5371ee15e91d6a516f7"), looks := false }, kinds := [], alts := [], laidByText := true, laidKinds := [.data], laidTests := true, laidLooks := .later }
def FnExactRollUptoCardSaid : Prop := Claim7.holds Tryd.pinned (.plain (OpenSpec.upto fnExactRollSpec)) fnExactRollUptoCard
end Rows
end Go.Proofs.YtcodonnknepkeaaDoor

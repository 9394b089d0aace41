/-
  DERIVED. GIVEN WITH THE SEED: THE CARDS: each row of YtmcflfpckpjphaaGreatDoorRows.lean that lists a variable, with what it lists TIED to the program's text (the seventh form; the later family's looks); each row that meets fmt, with fmt's text TOLD by the authors' own Lean function (tested against real Go, not proved from fmt's source: count such statements apart). THE CARD IS WHAT COUNTS. Prove the row's statement (the work); the ties are given (YtmcflfpckpjphaaGreatDoorTie.lean); close each card by the builder's one call (the guide's Derived/Test/ToyasCard.lean, 'card_holds'). Laid BY PROGRAM, IN A SANDBOX (cutbox-door.mjs). By AI agents, Wed Nov 11 2026. No macro, syntax, notation, axiom, sorry.
-/
import Derived.Test.YtmcflfpckpjphaaGreatDoorRows
import GoSem.ClaimSeven
namespace Go.Proofs.YtmcflfpckpjphaaGreatDoor
namespace Rows

/-- THE TIED CARD OF 'laws.FnSeals'. -/
def fnSealsCard : Claim7 := { stood := { row := fnSealsRow, standIns := [], harness := (true, "0fb22afb60f7b172c88560fd240f764b5b3498fdf58c316c4a63d19c2cfbb72d"), looks := true }, kinds := [], alts := [], laidByText := true, laidKinds := [.data], laidTests := true, laidLooks := .later }
def FnSealsCardSaid : Prop := Claim7.holds Tryz.pinned (.plain (OpenSpec.ofChange fnSealsSpec)) fnSealsCard

/-- THE TIED CARD OF 'laws.FnOpens'. -/
def fnOpensCard : Claim7 := { stood := { row := fnOpensRow, standIns := [], harness := (true, "0fb22afb60f7b172c88560fd240f764b5b3498fdf58c316c4a63d19c2cfbb72d"), looks := true }, kinds := [], alts := [], laidByText := true, laidKinds := [.handle, .data], laidTests := true, laidLooks := .later }
def FnOpensCardSaid : Prop := Claim7.holds Tryz.pinned (.plain (OpenSpec.ofChange fnOpensSpec)) fnOpensCard

/-- THE TIED CARD OF 'laws.FnOpensBent'. -/
def fnOpensBentCard : Claim7 := { stood := { row := fnOpensBentRow, standIns := [], harness := (true, "0fb22afb60f7b172c88560fd240f764b5b3498fdf58c316c4a63d19c2cfbb72d"), looks := true }, kinds := [], alts := [], laidByText := true, laidKinds := [.handle, .data], laidTests := true, laidLooks := .later }
def FnOpensBentCardSaid : Prop := Claim7.holds Tryz.pinned (.plain (OpenSpec.ofChange fnOpensBentSpec)) fnOpensBentCard

/-- THE TIED CARD OF 'laws.FnSpent'. -/
def fnSpentCard : Claim7 := { stood := { row := fnSpentRow, standIns := [], harness := (true, "0fb22afb60f7b172c88560fd240f764b5b3498fdf58c316c4a63d19c2cfbb72d"), looks := true }, kinds := [], alts := [], laidByText := true, laidKinds := [.handle, .data], laidTests := true, laidLooks := .later }
def FnSpentCardSaid : Prop := Claim7.holds Tryz.pinned (.plain (OpenSpec.ofChange fnSpentSpec)) fnSpentCard

/-- THE TIED CARD OF 'laws.FnExactSeal'. -/
def fnExactSealCard : Claim7 := { stood := { row := fnExactSealRow, standIns := [], harness := (true, "0fb22afb60f7b172c88560fd240f764b5b3498fdf58c316c4a63d19c2cfbb72d"), looks := true }, kinds := [], alts := [], laidByText := true, laidKinds := [.data], laidTests := true, laidLooks := .later }
def FnExactSealCardSaid : Prop := Claim7.holds Tryz.pinned (.plain (OpenSpec.ofChange fnExactSealSpec)) fnExactSealCard

/-- THE TIED CARD OF 'laws.FnExactUnseal'. -/
def fnExactUnsealCard : Claim7 := { stood := { row := fnExactUnsealRow, standIns := [], harness := (true, "0fb22afb60f7b172c88560fd240f764b5b3498fdf58c316c4a63d19c2cfbb72d"), looks := true }, kinds := [], alts := [], laidByText := true, laidKinds := [.data], laidTests := true, laidLooks := .later }
def FnExactUnsealCardSaid : Prop := Claim7.holds Tryz.pinned (.plain (OpenSpec.ofChange fnExactUnsealSpec)) fnExactUnsealCard

/-- THE TIED CARD OF 'laws.FnExactEpSeal'. -/
def fnExactEpSealCard : Claim7 := { stood := { row := fnExactEpSealRow, standIns := [], harness := (true, "0fb22afb60f7b172c88560fd240f764b5b3498fdf58c316c4a63d19c2cfbb72d"), looks := true }, kinds := [], alts := [], laidByText := true, laidKinds := [.handle, .data], laidTests := true, laidLooks := .later }
def FnExactEpSealCardSaid : Prop := Claim7.holds Tryz.pinned (.plain (OpenSpec.ofChange fnExactEpSealSpec)) fnExactEpSealCard

/-- THE TIED CARD OF 'laws.FnExactEpOpen'. -/
def fnExactEpOpenCard : Claim7 := { stood := { row := fnExactEpOpenRow, standIns := [], harness := (true, "0fb22afb60f7b172c88560fd240f764b5b3498fdf58c316c4a63d19c2cfbb72d"), looks := true }, kinds := [], alts := [], laidByText := true, laidKinds := [.handle, .data], laidTests := true, laidLooks := .later }
def FnExactEpOpenCardSaid : Prop := Claim7.holds Tryz.pinned (.plain (OpenSpec.ofChange fnExactEpOpenSpec)) fnExactEpOpenCard

/-- THE SECOND FORM's CARD OF 'laws.FnSeals'. -/
def fnSealsUptoCard : Claim7 := { stood := { row := fnSealsUptoRow, standIns := [], harness := (true, "0fb22afb60f7b172c88560fd240f764b5b3498fdf58c316c4a63d19c2cfbb72d"), looks := true }, kinds := [], alts := [], laidByText := true, laidKinds := [.data], laidTests := true, laidLooks := .later }
def FnSealsUptoCardSaid : Prop := Claim7.holds Tryz.pinned (.plain (OpenSpec.upto fnSealsSpec)) fnSealsUptoCard

/-- THE SECOND FORM's CARD OF 'laws.FnOpens'. -/
def fnOpensUptoCard : Claim7 := { stood := { row := fnOpensUptoRow, standIns := [], harness := (true, "0fb22afb60f7b172c88560fd240f764b5b3498fdf58c316c4a63d19c2cfbb72d"), looks := true }, kinds := [], alts := [], laidByText := true, laidKinds := [.handle, .data], laidTests := true, laidLooks := .later }
def FnOpensUptoCardSaid : Prop := Claim7.holds Tryz.pinned (.plain (OpenSpec.upto fnOpensSpec)) fnOpensUptoCard

/-- THE SECOND FORM's CARD OF 'laws.FnOpensBent'. -/
def fnOpensBentUptoCard : Claim7 := { stood := { row := fnOpensBentUptoRow, standIns := [], harness := (true, "0fb22afb60f7b172c88560fd240f764b5b3498fdf58c316c4a63d19c2cfbb72d"), looks := true }, kinds := [], alts := [], laidByText := true, laidKinds := [.handle, .data], laidTests := true, laidLooks := .later }
def FnOpensBentUptoCardSaid : Prop := Claim7.holds Tryz.pinned (.plain (OpenSpec.upto fnOpensBentSpec)) fnOpensBentUptoCard

/-- THE SECOND FORM's CARD OF 'laws.FnSpent'. -/
def fnSpentUptoCard : Claim7 := { stood := { row := fnSpentUptoRow, standIns := [], harness := (true, "0fb22afb60f7b172c88560fd240f764b5b3498fdf58c316c4a63d19c2cfbb72d"), looks := true }, kinds := [], alts := [], laidByText := true, laidKinds := [.handle, .data], laidTests := true, laidLooks := .later }
def FnSpentUptoCardSaid : Prop := Claim7.holds Tryz.pinned (.plain (OpenSpec.upto fnSpentSpec)) fnSpentUptoCard

/-- THE SECOND FORM's CARD OF 'laws.FnExactSeal'. -/
def fnExactSealUptoCard : Claim7 := { stood := { row := fnExactSealUptoRow, standIns := [], harness := (true, "0fb22afb60f7b172c88560fd240f764b5b3498fdf58c316c4a63d19c2cfbb72d"), looks := true }, kinds := [], alts := [], laidByText := true, laidKinds := [.data], laidTests := true, laidLooks := .later }
def FnExactSealUptoCardSaid : Prop := Claim7.holds Tryz.pinned (.plain (OpenSpec.upto fnExactSealSpec)) fnExactSealUptoCard

/-- THE SECOND FORM's CARD OF 'laws.FnExactUnseal'. -/
def fnExactUnsealUptoCard : Claim7 := { stood := { row := fnExactUnsealUptoRow, standIns := [], harness := (true, "0fb22afb60f7b172c88560fd240f764b5b3498fdf58c316c4a63d19c2cfbb72d"), looks := true }, kinds := [], alts := [], laidByText := true, laidKinds := [.data], laidTests := true, laidLooks := .later }
def FnExactUnsealUptoCardSaid : Prop := Claim7.holds Tryz.pinned (.plain (OpenSpec.upto fnExactUnsealSpec)) fnExactUnsealUptoCard

/-- THE SECOND FORM's CARD OF 'laws.FnExactEpSeal'. -/
def fnExactEpSealUptoCard : Claim7 := { stood := { row := fnExactEpSealUptoRow, standIns := [], harness := (true, "0fb22afb60f7b172c88560fd240f764b5b3498fdf58c316c4a63d19c2cfbb72d"), looks := true }, kinds := [], alts := [], laidByText := true, laidKinds := [.handle, .data], laidTests := true, laidLooks := .later }
def FnExactEpSealUptoCardSaid : Prop := Claim7.holds Tryz.pinned (.plain (OpenSpec.upto fnExactEpSealSpec)) fnExactEpSealUptoCard

/-- THE SECOND FORM's CARD OF 'laws.FnExactEpOpen'. -/
def fnExactEpOpenUptoCard : Claim7 := { stood := { row := fnExactEpOpenUptoRow, standIns := [], harness := (true, "0fb22afb60f7b172c88560fd240f764b5b3498fdf58c316c4a63d19c2cfbb72d"), looks := true }, kinds := [], alts := [], laidByText := true, laidKinds := [.handle, .data], laidTests := true, laidLooks := .later }
def FnExactEpOpenUptoCardSaid : Prop := Claim7.holds Tryz.pinned (.plain (OpenSpec.upto fnExactEpOpenSpec)) fnExactEpOpenUptoCard
end Rows
end Go.Proofs.YtmcflfpckpjphaaGreatDoor

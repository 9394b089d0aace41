/-
  DERIVED. GIVEN WITH THE SEED: THE CARDS: each row of YtippfkoondknkaaDoorRows.lean that lists a variable, with what it lists TIED to the program's text (the seventh form; the later family's looks); each row that meets fmt, with fmt's text TOLD by the authors' own Lean function (tested against real Go, not proved from fmt's source: count such statements apart). THE CARD IS WHAT COUNTS. Prove the row's statement (the work); the ties are given (YtippfkoondknkaaDoorTie.lean); close each card by the builder's one call (the guide's Derived/Test/ToyasCard.lean, 'card_holds'). Laid BY PROGRAM, IN A SANDBOX (cutbox-door.mjs). By AI agents, Wed Nov 11 2026. No macro, syntax, notation, axiom, sorry.
-/
import Derived.Test.YtippfkoondknkaaDoorRows
import GoSem.ClaimSeven
namespace Go.Proofs.YtippfkoondknkaaDoor
namespace Rows

/-- THE TIED CARD OF 'laws.FnSums'. -/
def fnSumsCard : Claim7 := { stood := { row := fnSumsRow, standIns := [], harness := (true, "a593fde06bae8e8337b991040d1e880b38f8c6c7361832c8543f370d858f07ae"), looks := false }, kinds := [], alts := [], laidByText := true, laidKinds := [.data], laidTests := true, laidLooks := .later }
def FnSumsCardSaid : Prop := Claim7.holds Tryd.pinned (.plain (OpenSpec.ofChange fnSumsSpec)) fnSumsCard

/-- THE TIED CARD OF 'laws.FnBlocks'. -/
def fnBlocksCard : Claim7 := { stood := { row := fnBlocksRow, standIns := [], harness := (true, "a593fde06bae8e8337b991040d1e880b38f8c6c7361832c8543f370d858f07ae"), looks := false }, kinds := [], alts := [], laidByText := true, laidKinds := [.data], laidTests := true, laidLooks := .later }
def FnBlocksCardSaid : Prop := Claim7.holds Tryd.pinned (.plain (OpenSpec.ofChange fnBlocksSpec)) fnBlocksCard

/-- THE TIED CARD OF 'laws.FnExactRoundWord'. -/
def fnExactRoundWordCard : Claim7 := { stood := { row := fnExactRoundWordRow, standIns := [], harness := (true, "a593fde06bae8e8337b991040d1e880b38f8c6c7361832c8543f370d858f07ae"), looks := false }, kinds := [], alts := [], laidByText := true, laidKinds := [.data], laidTests := true, laidLooks := .later }
def FnExactRoundWordCardSaid : Prop := Claim7.holds Tryd.pinned (.plain (OpenSpec.ofChange fnExactRoundWordSpec)) fnExactRoundWordCard

/-- THE TIED CARD OF 'laws.FnExactCompress'. -/
def fnExactCompressCard : Claim7 := { stood := { row := fnExactCompressRow, standIns := [], harness := (true, "a593fde06bae8e8337b991040d1e880b38f8c6c7361832c8543f370d858f07ae"), looks := false }, kinds := [], alts := [], laidByText := true, laidKinds := [.data], laidTests := true, laidLooks := .later }
def FnExactCompressCardSaid : Prop := Claim7.holds Tryd.pinned (.plain (OpenSpec.ofChange fnExactCompressSpec)) fnExactCompressCard

/-- THE TIED CARD OF 'laws.FnExactSha'. -/
def fnExactShaCard : Claim7 := { stood := { row := fnExactShaRow, standIns := [], harness := (true, "a593fde06bae8e8337b991040d1e880b38f8c6c7361832c8543f370d858f07ae"), looks := false }, kinds := [], alts := [], laidByText := true, laidKinds := [.data], laidTests := true, laidLooks := .later }
def FnExactShaCardSaid : Prop := Claim7.holds Tryd.pinned (.plain (OpenSpec.ofChange fnExactShaSpec)) fnExactShaCard

/-- THE TIED CARD OF 'laws.FnExactHashAdd'. -/
def fnExactHashAddCard : Claim7 := { stood := { row := fnExactHashAddRow, standIns := [], harness := (true, "a593fde06bae8e8337b991040d1e880b38f8c6c7361832c8543f370d858f07ae"), looks := false }, kinds := [], alts := [], laidByText := true, laidKinds := [.data], laidTests := true, laidLooks := .later }
def FnExactHashAddCardSaid : Prop := Claim7.holds Tryd.pinned (.plain (OpenSpec.ofChange fnExactHashAddSpec)) fnExactHashAddCard

/-- THE TIED CARD OF 'laws.FnExactHashEnd'. -/
def fnExactHashEndCard : Claim7 := { stood := { row := fnExactHashEndRow, standIns := [], harness := (true, "a593fde06bae8e8337b991040d1e880b38f8c6c7361832c8543f370d858f07ae"), looks := false }, kinds := [], alts := [], laidByText := true, laidKinds := [.data], laidTests := true, laidLooks := .later }
def FnExactHashEndCardSaid : Prop := Claim7.holds Tryd.pinned (.plain (OpenSpec.ofChange fnExactHashEndSpec)) fnExactHashEndCard

/-- THE SECOND FORM's CARD OF 'laws.FnSums'. -/
def fnSumsUptoCard : Claim7 := { stood := { row := fnSumsUptoRow, standIns := [], harness := (true, "a593fde06bae8e8337b991040d1e880b38f8c6c7361832c8543f370d858f07ae"), looks := false }, kinds := [], alts := [], laidByText := true, laidKinds := [.data], laidTests := true, laidLooks := .later }
def FnSumsUptoCardSaid : Prop := Claim7.holds Tryd.pinned (.plain (OpenSpec.upto fnSumsSpec)) fnSumsUptoCard

/-- THE SECOND FORM's CARD OF 'laws.FnBlocks'. -/
def fnBlocksUptoCard : Claim7 := { stood := { row := fnBlocksUptoRow, standIns := [], harness := (true, "a593fde06bae8e8337b991040d1e880b38f8c6c7361832c8543f370d858f07ae"), looks := false }, kinds := [], alts := [], laidByText := true, laidKinds := [.data], laidTests := true, laidLooks := .later }
def FnBlocksUptoCardSaid : Prop := Claim7.holds Tryd.pinned (.plain (OpenSpec.upto fnBlocksSpec)) fnBlocksUptoCard

/-- THE SECOND FORM's CARD OF 'laws.FnExactRoundWord'. -/
def fnExactRoundWordUptoCard : Claim7 := { stood := { row := fnExactRoundWordUptoRow, standIns := [], harness := (true, "a593fde06bae8e8337b991040d1e880b38f8c6c7361832c8543f370d858f07ae"), looks := false }, kinds := [], alts := [], laidByText := true, laidKinds := [.data], laidTests := true, laidLooks := .later }
def FnExactRoundWordUptoCardSaid : Prop := Claim7.holds Tryd.pinned (.plain (OpenSpec.upto fnExactRoundWordSpec)) fnExactRoundWordUptoCard

/-- THE SECOND FORM's CARD OF 'laws.FnExactCompress'. -/
def fnExactCompressUptoCard : Claim7 := { stood := { row := fnExactCompressUptoRow, standIns := [], harness := (true, "a593fde06bae8e8337b991040d1e880b38f8c6c7361832c8543f370d858f07ae"), looks := false }, kinds := [], alts := [], laidByText := true, laidKinds := [.data], laidTests := true, laidLooks := .later }
def FnExactCompressUptoCardSaid : Prop := Claim7.holds Tryd.pinned (.plain (OpenSpec.upto fnExactCompressSpec)) fnExactCompressUptoCard

/-- THE SECOND FORM's CARD OF 'laws.FnExactSha'. -/
def fnExactShaUptoCard : Claim7 := { stood := { row := fnExactShaUptoRow, standIns := [], harness := (true, "a593fde06bae8e8337b991040d1e880b38f8c6c7361832c8543f370d858f07ae"), looks := false }, kinds := [], alts := [], laidByText := true, laidKinds := [.data], laidTests := true, laidLooks := .later }
def FnExactShaUptoCardSaid : Prop := Claim7.holds Tryd.pinned (.plain (OpenSpec.upto fnExactShaSpec)) fnExactShaUptoCard

/-- THE SECOND FORM's CARD OF 'laws.FnExactHashAdd'. -/
def fnExactHashAddUptoCard : Claim7 := { stood := { row := fnExactHashAddUptoRow, standIns := [], harness := (true, "a593fde06bae8e8337b991040d1e880b38f8c6c7361832c8543f370d858f07ae"), looks := false }, kinds := [], alts := [], laidByText := true, laidKinds := [.data], laidTests := true, laidLooks := .later }
def FnExactHashAddUptoCardSaid : Prop := Claim7.holds Tryd.pinned (.plain (OpenSpec.upto fnExactHashAddSpec)) fnExactHashAddUptoCard

/-- THE SECOND FORM's CARD OF 'laws.FnExactHashEnd'. -/
def fnExactHashEndUptoCard : Claim7 := { stood := { row := fnExactHashEndUptoRow, standIns := [], harness := (true, "a593fde06bae8e8337b991040d1e880b38f8c6c7361832c8543f370d858f07ae"), looks := false }, kinds := [], alts := [], laidByText := true, laidKinds := [.data], laidTests := true, laidLooks := .later }
def FnExactHashEndUptoCardSaid : Prop := Claim7.holds Tryd.pinned (.plain (OpenSpec.upto fnExactHashEndSpec)) fnExactHashEndUptoCard
end Rows
end Go.Proofs.YtippfkoondknkaaDoor

/-
  DERIVED. GIVEN WITH THE SEED: THE CARDS: each row of YtfoilfbpbjfkcaaDoorRows.lean that lists a variable, with what it lists TIED to the program's text (the seventh form; the later family's looks); each row that meets fmt, with fmt's text TOLD by the authors' own Lean function (tested against real Go, not proved from fmt's source: count such statements apart). THE CARD IS WHAT COUNTS. Prove the row's statement (the work); the ties are given (YtfoilfbpbjfkcaaDoorTie.lean); close each card by the builder's one call (the guide's Derived/Test/ToyasCard.lean, 'card_holds'). Laid BY PROGRAM, IN A SANDBOX (cutbox-door.mjs). By AI agents, Wed Nov 11 2026. No macro, syntax, notation, axiom, sorry.
-/
import Derived.Test.YtfoilfbpbjfkcaaDoorRows
import GoSem.ClaimSeven
namespace Go.Proofs.YtfoilfbpbjfkcaaDoor
namespace Rows

/-- THE TIED CARD OF 'laws.FnSums'. -/
def fnSumsCard : Claim7 := { stood := { row := fnSumsRow, standIns := [], harness := (true, "d4205d4f02ea5e3cb4cd3e449a75dce149dc0141d088c1ea823d6a005cca7a9d"), looks := false }, kinds := [], alts := [], laidByText := true, laidKinds := [.data], laidTests := true, laidLooks := .later }
def FnSumsCardSaid : Prop := Claim7.holds Tryd.pinned (.plain (OpenSpec.ofChange fnSumsSpec)) fnSumsCard

/-- THE TIED CARD OF 'laws.FnTags'. -/
def fnTagsCard : Claim7 := { stood := { row := fnTagsRow, standIns := [], harness := (true, "d4205d4f02ea5e3cb4cd3e449a75dce149dc0141d088c1ea823d6a005cca7a9d"), looks := false }, kinds := [], alts := [], laidByText := true, laidKinds := [.data], laidTests := true, laidLooks := .later }
def FnTagsCardSaid : Prop := Claim7.holds Tryd.pinned (.plain (OpenSpec.ofChange fnTagsSpec)) fnTagsCard

/-- THE TIED CARD OF 'laws.FnLongKeys'. -/
def fnLongKeysCard : Claim7 := { stood := { row := fnLongKeysRow, standIns := [], harness := (true, "d4205d4f02ea5e3cb4cd3e449a75dce149dc0141d088c1ea823d6a005cca7a9d"), looks := false }, kinds := [], alts := [], laidByText := true, laidKinds := [.data], laidTests := true, laidLooks := .later }
def FnLongKeysCardSaid : Prop := Claim7.holds Tryd.pinned (.plain (OpenSpec.ofChange fnLongKeysSpec)) fnLongKeysCard

/-- THE TIED CARD OF 'laws.FnExactHashAdd'. -/
def fnExactHashAddCard : Claim7 := { stood := { row := fnExactHashAddRow, standIns := [], harness := (true, "d4205d4f02ea5e3cb4cd3e449a75dce149dc0141d088c1ea823d6a005cca7a9d"), looks := false }, kinds := [], alts := [], laidByText := true, laidKinds := [.data], laidTests := true, laidLooks := .later }
def FnExactHashAddCardSaid : Prop := Claim7.holds Tryd.pinned (.plain (OpenSpec.ofChange fnExactHashAddSpec)) fnExactHashAddCard

/-- THE TIED CARD OF 'laws.FnExactBlockKey'. -/
def fnExactBlockKeyCard : Claim7 := { stood := { row := fnExactBlockKeyRow, standIns := [], harness := (true, "d4205d4f02ea5e3cb4cd3e449a75dce149dc0141d088c1ea823d6a005cca7a9d"), looks := false }, kinds := [], alts := [], laidByText := true, laidKinds := [.data], laidTests := true, laidLooks := .later }
def FnExactBlockKeyCardSaid : Prop := Claim7.holds Tryd.pinned (.plain (OpenSpec.ofChange fnExactBlockKeySpec)) fnExactBlockKeyCard

/-- THE TIED CARD OF 'laws.FnExactHmac'. -/
def fnExactHmacCard : Claim7 := { stood := { row := fnExactHmacRow, standIns := [], harness := (true, "d4205d4f02ea5e3cb4cd3e449a75dce149dc0141d088c1ea823d6a005cca7a9d"), looks := false }, kinds := [], alts := [], laidByText := true, laidKinds := [.data], laidTests := true, laidLooks := .later }
def FnExactHmacCardSaid : Prop := Claim7.holds Tryd.pinned (.plain (OpenSpec.ofChange fnExactHmacSpec)) fnExactHmacCard

/-- THE TIED CARD OF 'laws.FnExactTag'. -/
def fnExactTagCard : Claim7 := { stood := { row := fnExactTagRow, standIns := [], harness := (true, "d4205d4f02ea5e3cb4cd3e449a75dce149dc0141d088c1ea823d6a005cca7a9d"), looks := false }, kinds := [], alts := [], laidByText := true, laidKinds := [.data], laidTests := true, laidLooks := .later }
def FnExactTagCardSaid : Prop := Claim7.holds Tryd.pinned (.plain (OpenSpec.ofChange fnExactTagSpec)) fnExactTagCard

/-- THE SECOND FORM's CARD OF 'laws.FnSums'. -/
def fnSumsUptoCard : Claim7 := { stood := { row := fnSumsUptoRow, standIns := [], harness := (true, "d4205d4f02ea5e3cb4cd3e449a75dce149dc0141d088c1ea823d6a005cca7a9d"), looks := false }, kinds := [], alts := [], laidByText := true, laidKinds := [.data], laidTests := true, laidLooks := .later }
def FnSumsUptoCardSaid : Prop := Claim7.holds Tryd.pinned (.plain (OpenSpec.upto fnSumsSpec)) fnSumsUptoCard

/-- THE SECOND FORM's CARD OF 'laws.FnTags'. -/
def fnTagsUptoCard : Claim7 := { stood := { row := fnTagsUptoRow, standIns := [], harness := (true, "d4205d4f02ea5e3cb4cd3e449a75dce149dc0141d088c1ea823d6a005cca7a9d"), looks := false }, kinds := [], alts := [], laidByText := true, laidKinds := [.data], laidTests := true, laidLooks := .later }
def FnTagsUptoCardSaid : Prop := Claim7.holds Tryd.pinned (.plain (OpenSpec.upto fnTagsSpec)) fnTagsUptoCard

/-- THE SECOND FORM's CARD OF 'laws.FnLongKeys'. -/
def fnLongKeysUptoCard : Claim7 := { stood := { row := fnLongKeysUptoRow, standIns := [], harness := (true, "d4205d4f02ea5e3cb4cd3e449a75dce149dc0141d088c1ea823d6a005cca7a9d"), looks := false }, kinds := [], alts := [], laidByText := true, laidKinds := [.data], laidTests := true, laidLooks := .later }
def FnLongKeysUptoCardSaid : Prop := Claim7.holds Tryd.pinned (.plain (OpenSpec.upto fnLongKeysSpec)) fnLongKeysUptoCard

/-- THE SECOND FORM's CARD OF 'laws.FnExactHashAdd'. -/
def fnExactHashAddUptoCard : Claim7 := { stood := { row := fnExactHashAddUptoRow, standIns := [], harness := (true, "d4205d4f02ea5e3cb4cd3e449a75dce149dc0141d088c1ea823d6a005cca7a9d"), looks := false }, kinds := [], alts := [], laidByText := true, laidKinds := [.data], laidTests := true, laidLooks := .later }
def FnExactHashAddUptoCardSaid : Prop := Claim7.holds Tryd.pinned (.plain (OpenSpec.upto fnExactHashAddSpec)) fnExactHashAddUptoCard

/-- THE SECOND FORM's CARD OF 'laws.FnExactBlockKey'. -/
def fnExactBlockKeyUptoCard : Claim7 := { stood := { row := fnExactBlockKeyUptoRow, standIns := [], harness := (true, "d4205d4f02ea5e3cb4cd3e449a75dce149dc0141d088c1ea823d6a005cca7a9d"), looks := false }, kinds := [], alts := [], laidByText := true, laidKinds := [.data], laidTests := true, laidLooks := .later }
def FnExactBlockKeyUptoCardSaid : Prop := Claim7.holds Tryd.pinned (.plain (OpenSpec.upto fnExactBlockKeySpec)) fnExactBlockKeyUptoCard

/-- THE SECOND FORM's CARD OF 'laws.FnExactHmac'. -/
def fnExactHmacUptoCard : Claim7 := { stood := { row := fnExactHmacUptoRow, standIns := [], harness := (true, "d4205d4f02ea5e3cb4cd3e449a75dce149dc0141d088c1ea823d6a005cca7a9d"), looks := false }, kinds := [], alts := [], laidByText := true, laidKinds := [.data], laidTests := true, laidLooks := .later }
def FnExactHmacUptoCardSaid : Prop := Claim7.holds Tryd.pinned (.plain (OpenSpec.upto fnExactHmacSpec)) fnExactHmacUptoCard

/-- THE SECOND FORM's CARD OF 'laws.FnExactTag'. -/
def fnExactTagUptoCard : Claim7 := { stood := { row := fnExactTagUptoRow, standIns := [], harness := (true, "d4205d4f02ea5e3cb4cd3e449a75dce149dc0141d088c1ea823d6a005cca7a9d"), looks := false }, kinds := [], alts := [], laidByText := true, laidKinds := [.data], laidTests := true, laidLooks := .later }
def FnExactTagUptoCardSaid : Prop := Claim7.holds Tryd.pinned (.plain (OpenSpec.upto fnExactTagSpec)) fnExactTagUptoCard
end Rows
end Go.Proofs.YtfoilfbpbjfkcaaDoor

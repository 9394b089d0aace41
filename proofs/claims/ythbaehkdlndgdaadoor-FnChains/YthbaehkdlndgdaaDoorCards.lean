/-
  DERIVED. GIVEN WITH THE SEED: THE CARDS: each row of YthbaehkdlndgdaaDoorRows.lean that lists a variable, with what it lists TIED to the program's text (the seventh form; the later family's looks); each row that meets fmt, with fmt's text TOLD by the authors' own Lean function (tested against real Go, not proved from fmt's source: count such statements apart). THE CARD IS WHAT COUNTS. Prove the row's statement (the work); the ties are given (YthbaehkdlndgdaaDoorTie.lean); close each card by the builder's one call (the guide's Derived/Test/ToyasCard.lean, 'card_holds'). Laid BY PROGRAM, IN A SANDBOX (cutbox-door.mjs). By AI agents, Wed Nov 11 2026. No macro, syntax, notation, axiom, sorry.
-/
import Derived.Test.YthbaehkdlndgdaaDoorRows
import GoSem.ClaimSeven
namespace Go.Proofs.YthbaehkdlndgdaaDoor
namespace Rows

/-- THE TIED CARD OF 'laws.FnExpands'. -/
def fnExpandsCard : Claim7 := { stood := { row := fnExpandsRow, standIns := [], harness := (true, "0a8e597041e0aeb062f8963d393a3127582e8cd065aece880129edfa5de4a90b"), looks := false }, kinds := [], alts := [], laidByText := true, laidKinds := [.data], laidTests := true, laidLooks := .later }
def FnExpandsCardSaid : Prop := Claim7.holds Tryd.pinned (.plain (OpenSpec.ofChange fnExpandsSpec)) fnExpandsCard

/-- THE TIED CARD OF 'laws.FnChains'. -/
def fnChainsCard : Claim7 := { stood := { row := fnChainsRow, standIns := [], harness := (true, "0a8e597041e0aeb062f8963d393a3127582e8cd065aece880129edfa5de4a90b"), looks := false }, kinds := [], alts := [], laidByText := true, laidKinds := [.data], laidTests := true, laidLooks := .later }
def FnChainsCardSaid : Prop := Claim7.holds Tryd.pinned (.plain (OpenSpec.ofChange fnChainsSpec)) fnChainsCard

/-- THE TIED CARD OF 'laws.FnExactExtract'. -/
def fnExactExtractCard : Claim7 := { stood := { row := fnExactExtractRow, standIns := [], harness := (true, "0a8e597041e0aeb062f8963d393a3127582e8cd065aece880129edfa5de4a90b"), looks := false }, kinds := [], alts := [], laidByText := true, laidKinds := [.data], laidTests := true, laidLooks := .later }
def FnExactExtractCardSaid : Prop := Claim7.holds Tryd.pinned (.plain (OpenSpec.ofChange fnExactExtractSpec)) fnExactExtractCard

/-- THE TIED CARD OF 'laws.FnExactExpand'. -/
def fnExactExpandCard : Claim7 := { stood := { row := fnExactExpandRow, standIns := [], harness := (true, "0a8e597041e0aeb062f8963d393a3127582e8cd065aece880129edfa5de4a90b"), looks := false }, kinds := [], alts := [], laidByText := true, laidKinds := [.data], laidTests := true, laidLooks := .later }
def FnExactExpandCardSaid : Prop := Claim7.holds Tryd.pinned (.plain (OpenSpec.ofChange fnExactExpandSpec)) fnExactExpandCard

/-- THE TIED CARD OF 'laws.FnExactDerive'. -/
def fnExactDeriveCard : Claim7 := { stood := { row := fnExactDeriveRow, standIns := [], harness := (true, "0a8e597041e0aeb062f8963d393a3127582e8cd065aece880129edfa5de4a90b"), looks := false }, kinds := [], alts := [], laidByText := true, laidKinds := [.data], laidTests := true, laidLooks := .later }
def FnExactDeriveCardSaid : Prop := Claim7.holds Tryd.pinned (.plain (OpenSpec.ofChange fnExactDeriveSpec)) fnExactDeriveCard

/-- THE TIED CARD OF 'laws.FnExactChain'. -/
def fnExactChainCard : Claim7 := { stood := { row := fnExactChainRow, standIns := [], harness := (true, "0a8e597041e0aeb062f8963d393a3127582e8cd065aece880129edfa5de4a90b"), looks := false }, kinds := [], alts := [], laidByText := true, laidKinds := [.data], laidTests := true, laidLooks := .later }
def FnExactChainCardSaid : Prop := Claim7.holds Tryd.pinned (.plain (OpenSpec.ofChange fnExactChainSpec)) fnExactChainCard

/-- THE SECOND FORM's CARD OF 'laws.FnExpands'. -/
def fnExpandsUptoCard : Claim7 := { stood := { row := fnExpandsUptoRow, standIns := [], harness := (true, "0a8e597041e0aeb062f8963d393a3127582e8cd065aece880129edfa5de4a90b"), looks := false }, kinds := [], alts := [], laidByText := true, laidKinds := [.data], laidTests := true, laidLooks := .later }
def FnExpandsUptoCardSaid : Prop := Claim7.holds Tryd.pinned (.plain (OpenSpec.upto fnExpandsSpec)) fnExpandsUptoCard

/-- THE SECOND FORM's CARD OF 'laws.FnChains'. -/
def fnChainsUptoCard : Claim7 := { stood := { row := fnChainsUptoRow, standIns := [], harness := (true, "0a8e597041e0aeb062f8963d393a3127582e8cd065aece880129edfa5de4a90b"), looks := false }, kinds := [], alts := [], laidByText := true, laidKinds := [.data], laidTests := true, laidLooks := .later }
def FnChainsUptoCardSaid : Prop := Claim7.holds Tryd.pinned (.plain (OpenSpec.upto fnChainsSpec)) fnChainsUptoCard

/-- THE SECOND FORM's CARD OF 'laws.FnExactExtract'. -/
def fnExactExtractUptoCard : Claim7 := { stood := { row := fnExactExtractUptoRow, standIns := [], harness := (true, "0a8e597041e0aeb062f8963d393a3127582e8cd065aece880129edfa5de4a90b"), looks := false }, kinds := [], alts := [], laidByText := true, laidKinds := [.data], laidTests := true, laidLooks := .later }
def FnExactExtractUptoCardSaid : Prop := Claim7.holds Tryd.pinned (.plain (OpenSpec.upto fnExactExtractSpec)) fnExactExtractUptoCard

/-- THE SECOND FORM's CARD OF 'laws.FnExactExpand'. -/
def fnExactExpandUptoCard : Claim7 := { stood := { row := fnExactExpandUptoRow, standIns := [], harness := (true, "0a8e597041e0aeb062f8963d393a3127582e8cd065aece880129edfa5de4a90b"), looks := false }, kinds := [], alts := [], laidByText := true, laidKinds := [.data], laidTests := true, laidLooks := .later }
def FnExactExpandUptoCardSaid : Prop := Claim7.holds Tryd.pinned (.plain (OpenSpec.upto fnExactExpandSpec)) fnExactExpandUptoCard

/-- THE SECOND FORM's CARD OF 'laws.FnExactDerive'. -/
def fnExactDeriveUptoCard : Claim7 := { stood := { row := fnExactDeriveUptoRow, standIns := [], harness := (true, "0a8e597041e0aeb062f8963d393a3127582e8cd065aece880129edfa5de4a90b"), looks := false }, kinds := [], alts := [], laidByText := true, laidKinds := [.data], laidTests := true, laidLooks := .later }
def FnExactDeriveUptoCardSaid : Prop := Claim7.holds Tryd.pinned (.plain (OpenSpec.upto fnExactDeriveSpec)) fnExactDeriveUptoCard

/-- THE SECOND FORM's CARD OF 'laws.FnExactChain'. -/
def fnExactChainUptoCard : Claim7 := { stood := { row := fnExactChainUptoRow, standIns := [], harness := (true, "0a8e597041e0aeb062f8963d393a3127582e8cd065aece880129edfa5de4a90b"), looks := false }, kinds := [], alts := [], laidByText := true, laidKinds := [.data], laidTests := true, laidLooks := .later }
def FnExactChainUptoCardSaid : Prop := Claim7.holds Tryd.pinned (.plain (OpenSpec.upto fnExactChainSpec)) fnExactChainUptoCard
end Rows
end Go.Proofs.YthbaehkdlndgdaaDoor

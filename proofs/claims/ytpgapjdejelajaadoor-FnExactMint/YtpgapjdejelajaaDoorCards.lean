/-
  DERIVED. GIVEN WITH THE SEED: THE CARDS: each row of YtpgapjdejelajaaDoorRows.lean that lists a variable, with what it lists TIED to the program's text (the seventh form; the later family's looks); each row that meets fmt, with fmt's text TOLD by the authors' own Lean function (tested against real Go, not proved from fmt's source: count such statements apart). THE CARD IS WHAT COUNTS. Prove the row's statement (the work); the ties are given (YtpgapjdejelajaaDoorTie.lean); close each card by the builder's one call (the guide's Derived/Test/ToyasCard.lean, 'card_holds'). Laid BY PROGRAM, IN A SANDBOX (cutbox-door.mjs). By AI agents, Wed Nov 11 2026. No macro, syntax, notation, axiom, sorry.
-/
import Derived.Test.YtpgapjdejelajaaDoorRows
import GoSem.ClaimSeven
namespace Go.Proofs.YtpgapjdejelajaaDoor
namespace Rows

/-- THE TIED CARD OF 'laws.FnExactJarNew'. -/
def fnExactJarNewCard : Claim7 := { stood := { row := fnExactJarNewRow, standIns := [], harness := (true, "db13ac4c577b40177c72756baa271d387c46757613f67f2b57176808166e7bda"), looks := false }, kinds := [], alts := [], laidByText := true, laidKinds := [.data], laidTests := true, laidLooks := .later }
def FnExactJarNewCardSaid : Prop := Claim7.holds Tryd.pinned (.plain (OpenSpec.ofChange fnExactJarNewSpec)) fnExactJarNewCard

/-- THE TIED CARD OF 'laws.FnExactMint'. -/
def fnExactMintCard : Claim7 := { stood := { row := fnExactMintRow, standIns := [], harness := (true, "db13ac4c577b40177c72756baa271d387c46757613f67f2b57176808166e7bda"), looks := false }, kinds := [], alts := [], laidByText := true, laidKinds := [.data], laidTests := true, laidLooks := .later }
def FnExactMintCardSaid : Prop := Claim7.holds Tryd.pinned (.plain (OpenSpec.ofChange fnExactMintSpec)) fnExactMintCard

/-- THE SECOND FORM's CARD OF 'laws.FnExactJarNew'. -/
def fnExactJarNewUptoCard : Claim7 := { stood := { row := fnExactJarNewUptoRow, standIns := [], harness := (true, "db13ac4c577b40177c72756baa271d387c46757613f67f2b57176808166e7bda"), looks := false }, kinds := [], alts := [], laidByText := true, laidKinds := [.data], laidTests := true, laidLooks := .later }
def FnExactJarNewUptoCardSaid : Prop := Claim7.holds Tryd.pinned (.plain (OpenSpec.upto fnExactJarNewSpec)) fnExactJarNewUptoCard

/-- THE SECOND FORM's CARD OF 'laws.FnExactMint'. -/
def fnExactMintUptoCard : Claim7 := { stood := { row := fnExactMintUptoRow, standIns := [], harness := (true, "db13ac4c577b40177c72756baa271d387c46757613f67f2b57176808166e7bda"), looks := false }, kinds := [], alts := [], laidByText := true, laidKinds := [.data], laidTests := true, laidLooks := .later }
def FnExactMintUptoCardSaid : Prop := Claim7.holds Tryd.pinned (.plain (OpenSpec.upto fnExactMintSpec)) fnExactMintUptoCard
end Rows
end Go.Proofs.YtpgapjdejelajaaDoor

/-
  DERIVED. GIVEN WITH THE SEED: THE CARDS: each row of YtppckomiobablaaDoorRows.lean that lists a variable, with what it lists TIED to the program's text (the seventh form; the later family's looks); each row that meets fmt, with fmt's text TOLD by the authors' own Lean function (tested against real Go, not proved from fmt's source: count such statements apart). THE CARD IS WHAT COUNTS. Prove the row's statement (the work); the ties are given (YtppckomiobablaaDoorTie.lean); close each card by the builder's one call (the guide's Derived/Test/ToyasCard.lean, 'card_holds'). Laid BY PROGRAM, IN A SANDBOX (cutbox-door.mjs). By AI agents, Wed Nov 11 2026. No macro, syntax, notation, axiom, sorry.
-/
import Derived.Test.YtppckomiobablaaDoorRows
import GoSem.ClaimSeven
namespace Go.Proofs.YtppckomiobablaaDoor
namespace Rows

/-- THE TIED CARD OF 'laws.FnStreams'. -/
def fnStreamsCard : Claim7 := { stood := { row := fnStreamsRow, standIns := [], harness := (true, "3f4adc3bc2f0a8a777fd3c87b8b2dcc06e6a68824309e8d3d3ed98459358ecf4"), looks := false }, kinds := [], alts := [], laidByText := true, laidKinds := [.data], laidTests := true, laidLooks := .later }
def FnStreamsCardSaid : Prop := Claim7.holds Tryd.pinned (.plain (OpenSpec.ofChange fnStreamsSpec)) fnStreamsCard

/-- THE TIED CARD OF 'laws.FnMixes'. -/
def fnMixesCard : Claim7 := { stood := { row := fnMixesRow, standIns := [], harness := (true, "3f4adc3bc2f0a8a777fd3c87b8b2dcc06e6a68824309e8d3d3ed98459358ecf4"), looks := false }, kinds := [], alts := [], laidByText := true, laidKinds := [.data], laidTests := true, laidLooks := .later }
def FnMixesCardSaid : Prop := Claim7.holds Tryd.pinned (.plain (OpenSpec.ofChange fnMixesSpec)) fnMixesCard

/-- THE TIED CARD OF 'laws.FnExactBlockOf'. -/
def fnExactBlockOfCard : Claim7 := { stood := { row := fnExactBlockOfRow, standIns := [], harness := (true, "3f4adc3bc2f0a8a777fd3c87b8b2dcc06e6a68824309e8d3d3ed98459358ecf4"), looks := false }, kinds := [], alts := [], laidByText := true, laidKinds := [.data], laidTests := true, laidLooks := .later }
def FnExactBlockOfCardSaid : Prop := Claim7.holds Tryd.pinned (.plain (OpenSpec.ofChange fnExactBlockOfSpec)) fnExactBlockOfCard

/-- THE TIED CARD OF 'laws.FnExactStream'. -/
def fnExactStreamCard : Claim7 := { stood := { row := fnExactStreamRow, standIns := [], harness := (true, "3f4adc3bc2f0a8a777fd3c87b8b2dcc06e6a68824309e8d3d3ed98459358ecf4"), looks := false }, kinds := [], alts := [], laidByText := true, laidKinds := [.data], laidTests := true, laidLooks := .later }
def FnExactStreamCardSaid : Prop := Claim7.holds Tryd.pinned (.plain (OpenSpec.ofChange fnExactStreamSpec)) fnExactStreamCard

/-- THE TIED CARD OF 'laws.FnExactMix'. -/
def fnExactMixCard : Claim7 := { stood := { row := fnExactMixRow, standIns := [], harness := (true, "3f4adc3bc2f0a8a777fd3c87b8b2dcc06e6a68824309e8d3d3ed98459358ecf4"), looks := false }, kinds := [], alts := [], laidByText := true, laidKinds := [.data], laidTests := true, laidLooks := .later }
def FnExactMixCardSaid : Prop := Claim7.holds Tryd.pinned (.plain (OpenSpec.ofChange fnExactMixSpec)) fnExactMixCard

/-- THE SECOND FORM's CARD OF 'laws.FnStreams'. -/
def fnStreamsUptoCard : Claim7 := { stood := { row := fnStreamsUptoRow, standIns := [], harness := (true, "3f4adc3bc2f0a8a777fd3c87b8b2dcc06e6a68824309e8d3d3ed98459358ecf4"), looks := false }, kinds := [], alts := [], laidByText := true, laidKinds := [.data], laidTests := true, laidLooks := .later }
def FnStreamsUptoCardSaid : Prop := Claim7.holds Tryd.pinned (.plain (OpenSpec.upto fnStreamsSpec)) fnStreamsUptoCard

/-- THE SECOND FORM's CARD OF 'laws.FnMixes'. -/
def fnMixesUptoCard : Claim7 := { stood := { row := fnMixesUptoRow, standIns := [], harness := (true, "3f4adc3bc2f0a8a777fd3c87b8b2dcc06e6a68824309e8d3d3ed98459358ecf4"), looks := false }, kinds := [], alts := [], laidByText := true, laidKinds := [.data], laidTests := true, laidLooks := .later }
def FnMixesUptoCardSaid : Prop := Claim7.holds Tryd.pinned (.plain (OpenSpec.upto fnMixesSpec)) fnMixesUptoCard

/-- THE SECOND FORM's CARD OF 'laws.FnExactBlockOf'. -/
def fnExactBlockOfUptoCard : Claim7 := { stood := { row := fnExactBlockOfUptoRow, standIns := [], harness := (true, "3f4adc3bc2f0a8a777fd3c87b8b2dcc06e6a68824309e8d3d3ed98459358ecf4"), looks := false }, kinds := [], alts := [], laidByText := true, laidKinds := [.data], laidTests := true, laidLooks := .later }
def FnExactBlockOfUptoCardSaid : Prop := Claim7.holds Tryd.pinned (.plain (OpenSpec.upto fnExactBlockOfSpec)) fnExactBlockOfUptoCard

/-- THE SECOND FORM's CARD OF 'laws.FnExactStream'. -/
def fnExactStreamUptoCard : Claim7 := { stood := { row := fnExactStreamUptoRow, standIns := [], harness := (true, "3f4adc3bc2f0a8a777fd3c87b8b2dcc06e6a68824309e8d3d3ed98459358ecf4"), looks := false }, kinds := [], alts := [], laidByText := true, laidKinds := [.data], laidTests := true, laidLooks := .later }
def FnExactStreamUptoCardSaid : Prop := Claim7.holds Tryd.pinned (.plain (OpenSpec.upto fnExactStreamSpec)) fnExactStreamUptoCard

/-- THE SECOND FORM's CARD OF 'laws.FnExactMix'. -/
def fnExactMixUptoCard : Claim7 := { stood := { row := fnExactMixUptoRow, standIns := [], harness := (true, "3f4adc3bc2f0a8a777fd3c87b8b2dcc06e6a68824309e8d3d3ed98459358ecf4"), looks := false }, kinds := [], alts := [], laidByText := true, laidKinds := [.data], laidTests := true, laidLooks := .later }
def FnExactMixUptoCardSaid : Prop := Claim7.holds Tryd.pinned (.plain (OpenSpec.upto fnExactMixSpec)) fnExactMixUptoCard
end Rows
end Go.Proofs.YtppckomiobablaaDoor

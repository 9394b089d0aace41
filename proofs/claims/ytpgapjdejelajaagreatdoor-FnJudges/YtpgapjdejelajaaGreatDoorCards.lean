/-
  DERIVED. GIVEN WITH THE SEED: THE CARDS: each row of YtpgapjdejelajaaGreatDoorRows.lean that lists a variable, with what it lists TIED to the program's text (the seventh form; the later family's looks); each row that meets fmt, with fmt's text TOLD by the authors' own Lean function (tested against real Go, not proved from fmt's source: count such statements apart). THE CARD IS WHAT COUNTS. Prove the row's statement (the work); the ties are given (YtpgapjdejelajaaGreatDoorTie.lean); close each card by the builder's one call (the guide's Derived/Test/ToyasCard.lean, 'card_holds'). Laid BY PROGRAM, IN A SANDBOX (cutbox-door.mjs). By AI agents, Wed Nov 11 2026. No macro, syntax, notation, axiom, sorry.
-/
import Derived.Test.YtpgapjdejelajaaGreatDoorRows
import GoSem.ClaimSeven
namespace Go.Proofs.YtpgapjdejelajaaGreatDoor
namespace Rows

/-- THE TIED CARD OF 'laws.FnCookies'. -/
def fnCookiesCard : Claim7 := { stood := { row := fnCookiesRow, standIns := [], harness := (true, "635c25f3596f61dc68a7a5334adb4e972c34610f8045e6734ea53094edba2542"), looks := false }, kinds := [], alts := [], laidByText := true, laidKinds := [.data], laidTests := true, laidLooks := .later }
def FnCookiesCardSaid : Prop := Claim7.holds Tryz.pinned (.plain (OpenSpec.ofChange fnCookiesSpec)) fnCookiesCard

/-- THE TIED CARD OF 'laws.FnJudges'. -/
def fnJudgesCard : Claim7 := { stood := { row := fnJudgesRow, standIns := [], harness := (true, "635c25f3596f61dc68a7a5334adb4e972c34610f8045e6734ea53094edba2542"), looks := false }, kinds := [], alts := [], laidByText := true, laidKinds := [.data], laidTests := true, laidLooks := .later }
def FnJudgesCardSaid : Prop := Claim7.holds Tryz.pinned (.plain (OpenSpec.ofChange fnJudgesSpec)) fnJudgesCard

/-- THE TIED CARD OF 'laws.FnExactJudge'. -/
def fnExactJudgeCard : Claim7 := { stood := { row := fnExactJudgeRow, standIns := [], harness := (true, "635c25f3596f61dc68a7a5334adb4e972c34610f8045e6734ea53094edba2542"), looks := false }, kinds := [], alts := [], laidByText := true, laidKinds := [.data], laidTests := true, laidLooks := .later }
def FnExactJudgeCardSaid : Prop := Claim7.holds Tryz.pinned (.plain (OpenSpec.ofChange fnExactJudgeSpec)) fnExactJudgeCard

/-- THE SECOND FORM's CARD OF 'laws.FnCookies'. -/
def fnCookiesUptoCard : Claim7 := { stood := { row := fnCookiesUptoRow, standIns := [], harness := (true, "635c25f3596f61dc68a7a5334adb4e972c34610f8045e6734ea53094edba2542"), looks := false }, kinds := [], alts := [], laidByText := true, laidKinds := [.data], laidTests := true, laidLooks := .later }
def FnCookiesUptoCardSaid : Prop := Claim7.holds Tryz.pinned (.plain (OpenSpec.upto fnCookiesSpec)) fnCookiesUptoCard

/-- THE SECOND FORM's CARD OF 'laws.FnJudges'. -/
def fnJudgesUptoCard : Claim7 := { stood := { row := fnJudgesUptoRow, standIns := [], harness := (true, "635c25f3596f61dc68a7a5334adb4e972c34610f8045e6734ea53094edba2542"), looks := false }, kinds := [], alts := [], laidByText := true, laidKinds := [.data], laidTests := true, laidLooks := .later }
def FnJudgesUptoCardSaid : Prop := Claim7.holds Tryz.pinned (.plain (OpenSpec.upto fnJudgesSpec)) fnJudgesUptoCard

/-- THE SECOND FORM's CARD OF 'laws.FnExactJudge'. -/
def fnExactJudgeUptoCard : Claim7 := { stood := { row := fnExactJudgeUptoRow, standIns := [], harness := (true, "635c25f3596f61dc68a7a5334adb4e972c34610f8045e6734ea53094edba2542"), looks := false }, kinds := [], alts := [], laidByText := true, laidKinds := [.data], laidTests := true, laidLooks := .later }
def FnExactJudgeUptoCardSaid : Prop := Claim7.holds Tryz.pinned (.plain (OpenSpec.upto fnExactJudgeSpec)) fnExactJudgeUptoCard
end Rows
end Go.Proofs.YtpgapjdejelajaaGreatDoor

/-
  DERIVED. GIVEN WITH THE SEED: THE CARDS: each row of YtbcbdhjeebcleaaGreatDoorRows.lean that lists a variable, with what it lists TIED to the program's text (the seventh form; the later family's looks); each row that meets fmt, with fmt's text TOLD by the authors' own Lean function (tested against real Go, not proved from fmt's source: count such statements apart). THE CARD IS WHAT COUNTS. Prove the row's statement (the work); the ties are given (YtbcbdhjeebcleaaGreatDoorTie.lean); close each card by the builder's one call (the guide's Derived/Test/ToyasCard.lean, 'card_holds'). Laid BY PROGRAM, IN A SANDBOX (cutbox-door.mjs). By AI agents, Wed Nov 11 2026. No macro, syntax, notation, axiom, sorry.
-/
import Derived.Test.YtbcbdhjeebcleaaGreatDoorRows
import GoSem.ClaimSeven
namespace Go.Proofs.YtbcbdhjeebcleaaGreatDoor
namespace Rows

/-- THE TIED CARD OF 'laws.FnExactJudgeLead'. -/
def fnExactJudgeLeadCard : Claim7 := { stood := { row := fnExactJudgeLeadRow, standIns := [], harness := (true, "996cde9c43d36cc401fc43f7939484ef779fbddeb8aa36fd7e551b8ed5b5d6b8"), looks := true }, kinds := [], alts := [], laidByText := true, laidKinds := [.sentinel, .sentinel], laidTests := true, laidLooks := .later }
def FnExactJudgeLeadCardSaid : Prop := Claim7.holds Tryz.pinned (.plain (OpenSpec.ofChange fnExactJudgeLeadSpec)) fnExactJudgeLeadCard

/-- THE SECOND FORM's CARD OF 'laws.FnExactJudgeLead'. -/
def fnExactJudgeLeadUptoCard : Claim7 := { stood := { row := fnExactJudgeLeadUptoRow, standIns := [], harness := (true, "996cde9c43d36cc401fc43f7939484ef779fbddeb8aa36fd7e551b8ed5b5d6b8"), looks := true }, kinds := [], alts := [], laidByText := true, laidKinds := [.sentinel, .sentinel], laidTests := true, laidLooks := .later }
def FnExactJudgeLeadUptoCardSaid : Prop := Claim7.holds Tryz.pinned (.plain (OpenSpec.upto fnExactJudgeLeadSpec)) fnExactJudgeLeadUptoCard
end Rows
end Go.Proofs.YtbcbdhjeebcleaaGreatDoor

/-
  DERIVED. GIVEN WITH THE SEED: THE CARDS: each row of YtfbbifdfjjkknaaDoorRows.lean that lists a variable, with what it lists TIED to the program's text (the seventh form; the later family's looks); each row that meets fmt, with fmt's text TOLD by the authors' own Lean function (tested against real Go, not proved from fmt's source: count such statements apart). THE CARD IS WHAT COUNTS. Prove the row's statement (the work); the ties are given (YtfbbifdfjjkknaaDoorTie.lean); close each card by the builder's one call (the guide's Derived/Test/ToyasCard.lean, 'card_holds'). Laid BY PROGRAM, IN A SANDBOX (cutbox-door.mjs). By AI agents, Wed Nov 11 2026. No macro, syntax, notation, axiom, sorry.
-/
import Derived.Test.YtfbbifdfjjkknaaDoorRows
import GoSem.ClaimSeven
namespace Go.Proofs.YtfbbifdfjjkknaaDoor
namespace Rows

/-- THE TIED CARD OF 'laws.FnExactNotes'. -/
def fnExactNotesCard : Claim7 := { stood := { row := fnExactNotesRow, standIns := [], harness := (true, "dbefe5ac6dd6bfe224c81d24dd16050e64f34e9c02e9e5550a4f5aab04311d49"), looks := true }, kinds := [], alts := [], laidByText := true, laidKinds := [.handle], laidTests := true, laidLooks := .later }
def FnExactNotesCardSaid : Prop := Claim7.holds Tryd.pinned (.plain (OpenSpec.ofChange fnExactNotesSpec)) fnExactNotesCard

/-- THE SECOND FORM's CARD OF 'laws.FnExactNotes'. -/
def fnExactNotesUptoCard : Claim7 := { stood := { row := fnExactNotesUptoRow, standIns := [], harness := (true, "dbefe5ac6dd6bfe224c81d24dd16050e64f34e9c02e9e5550a4f5aab04311d49"), looks := true }, kinds := [], alts := [], laidByText := true, laidKinds := [.handle], laidTests := true, laidLooks := .later }
def FnExactNotesUptoCardSaid : Prop := Claim7.holds Tryd.pinned (.plain (OpenSpec.upto fnExactNotesSpec)) fnExactNotesUptoCard
end Rows
end Go.Proofs.YtfbbifdfjjkknaaDoor

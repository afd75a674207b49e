/-
  DERIVED. GIVEN WITH THE SEED: THE CARDS: each row of YtlcjaabnfdnfmaaGreatDoorRows.lean that lists a variable, with what it lists TIED to the program's text (the seventh form; the later family's looks); each row that meets fmt, with fmt's text TOLD by the authors' own Lean function (tested against real Go, not proved from fmt's source: count such statements apart). THE CARD IS WHAT COUNTS. Prove the row's statement (the work); the ties are given (YtlcjaabnfdnfmaaGreatDoorTie.lean); close each card by the builder's one call (the guide's Derived/Test/ToyasCard.lean, 'card_holds'). Laid BY PROGRAM, IN A SANDBOX (cutbox-door.mjs). By AI agents, Wed Nov 11 2026. No macro, syntax, notation, axiom, sorry.
-/
import Derived.Test.YtlcjaabnfdnfmaaGreatDoorRows
import GoSem.ClaimSeven
namespace Go.Proofs.YtlcjaabnfdnfmaaGreatDoor
namespace Rows

/-- THE TIED CARD OF 'laws.FnExactPeerNew'. -/
def fnExactPeerNewCard : Claim7 := { stood := { row := fnExactPeerNewRow, standIns := [], harness := (true, "7555f3832cfddbabc5ee7504843e362478a1f7f1f704d1bf4af4a6365e6debbd"), looks := true }, kinds := [], alts := [], laidByText := true, laidKinds := [.handle], laidTests := true, laidLooks := .later }
def FnExactPeerNewCardSaid : Prop := Claim7.holds Tryz.pinned (.plain (OpenSpec.ofChange fnExactPeerNewSpec)) fnExactPeerNewCard

/-- THE SECOND FORM's CARD OF 'laws.FnExactPeerNew'. -/
def fnExactPeerNewUptoCard : Claim7 := { stood := { row := fnExactPeerNewUptoRow, standIns := [], harness := (true, "7555f3832cfddbabc5ee7504843e362478a1f7f1f704d1bf4af4a6365e6debbd"), looks := true }, kinds := [], alts := [], laidByText := true, laidKinds := [.handle], laidTests := true, laidLooks := .later }
def FnExactPeerNewUptoCardSaid : Prop := Claim7.holds Tryz.pinned (.plain (OpenSpec.upto fnExactPeerNewSpec)) fnExactPeerNewUptoCard
end Rows
end Go.Proofs.YtlcjaabnfdnfmaaGreatDoor

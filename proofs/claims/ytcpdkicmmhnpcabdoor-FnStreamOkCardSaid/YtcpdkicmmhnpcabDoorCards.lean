/-
  DERIVED. GIVEN WITH THE SEED: THE CARDS: each row of YtcpdkicmmhnpcabDoorRows.lean that lists a variable, with what it lists TIED to the program's text (the seventh form; the later family's looks); each row that meets fmt, with fmt's text TOLD by the authors' own Lean function (tested against real Go, not proved from fmt's source: count such statements apart). THE CARD IS WHAT COUNTS. Prove the row's statement (the work); the ties are given (YtcpdkicmmhnpcabDoorTie.lean); close each card by the builder's one call (the guide's Derived/Test/ToyasCard.lean, 'card_holds'). Laid BY PROGRAM, IN A SANDBOX (cutbox-door.mjs). By AI agents, Wed Nov 11 2026. No macro, syntax, notation, axiom, sorry.
-/
import Derived.Test.YtcpdkicmmhnpcabDoorRows
import GoSem.ClaimSeven
namespace Go.Proofs.YtcpdkicmmhnpcabDoor
namespace Rows

/-- THE TIED CARD OF 'laws.FnStreamOk'. -/
def fnStreamOkCard : Claim7 := { stood := { row := fnStreamOkRow, standIns := [], harness := (true, "be4da56b91663b1e8fea1642963d75dcd253919b025f0e912abf18140480c4cf"), looks := true }, kinds := [], alts := [], laidByText := true, laidKinds := [.data, .data, .data, .sentinel, .sentinel], laidTests := true, laidLooks := .later }
def FnStreamOkCardSaid : Prop := Claim7.holds Tryd.pinned (.plain (OpenSpec.ofChange fnStreamOkSpec)) fnStreamOkCard

/-- THE SECOND FORM's CARD OF 'laws.FnStreamOk'. -/
def fnStreamOkUptoCard : Claim7 := { stood := { row := fnStreamOkUptoRow, standIns := [], harness := (true, "be4da56b91663b1e8fea1642963d75dcd253919b025f0e912abf18140480c4cf"), looks := true }, kinds := [], alts := [], laidByText := true, laidKinds := [.data, .data, .data, .sentinel, .sentinel], laidTests := true, laidLooks := .later }
def FnStreamOkUptoCardSaid : Prop := Claim7.holds Tryd.pinned (.plain (OpenSpec.upto fnStreamOkSpec)) fnStreamOkUptoCard
end Rows
end Go.Proofs.YtcpdkicmmhnpcabDoor

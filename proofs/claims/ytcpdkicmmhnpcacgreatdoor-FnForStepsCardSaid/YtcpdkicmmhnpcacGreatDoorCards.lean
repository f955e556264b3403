/-
  DERIVED. GIVEN WITH THE SEED: THE CARDS: each row of YtcpdkicmmhnpcacGreatDoorRows.lean that lists a variable, with what it lists TIED to the program's text (the seventh form; the later family's looks); each row that meets fmt, with fmt's text TOLD by the authors' own Lean function (tested against real Go, not proved from fmt's source: count such statements apart). THE CARD IS WHAT COUNTS. Prove the row's statement (the work); the ties are given (YtcpdkicmmhnpcacGreatDoorTie.lean); close each card by the builder's one call (the guide's Derived/Test/ToyasCard.lean, 'card_holds'). Laid BY PROGRAM, IN A SANDBOX (cutbox-door.mjs). By AI agents, Wed Nov 11 2026. No macro, syntax, notation, axiom, sorry.
-/
import Derived.Test.YtcpdkicmmhnpcacGreatDoorRows
import GoSem.ClaimSeven
namespace Go.Proofs.YtcpdkicmmhnpcacGreatDoor
namespace Rows

/-- THE TIED CARD OF 'laws.FnPutHeld'. -/
def fnPutHeldCard : Claim7 := { stood := { row := fnPutHeldRow, standIns := [], harness := (true, "78ef52c6b4c6e10d00faa97d70ba57eba08cc47fff5a35500b246f98bc1facec"), looks := true }, kinds := [], alts := [], laidByText := true, laidKinds := [.data, .data, .data, .sentinel, .sentinel], laidTests := true, laidLooks := .later }
def FnPutHeldCardSaid : Prop := Claim7.holds Tryz.pinned (.plain (OpenSpec.ofChange fnPutHeldSpec)) fnPutHeldCard

/-- THE TIED CARD OF 'laws.FnForSteps'. -/
def fnForStepsCard : Claim7 := { stood := { row := fnForStepsRow, standIns := [], harness := (true, "78ef52c6b4c6e10d00faa97d70ba57eba08cc47fff5a35500b246f98bc1facec"), looks := true }, kinds := [], alts := [], laidByText := true, laidKinds := [.data, .data, .data, .sentinel, .sentinel], laidTests := true, laidLooks := .later }
def FnForStepsCardSaid : Prop := Claim7.holds Tryz.pinned (.plain (OpenSpec.ofChange fnForStepsSpec)) fnForStepsCard

/-- THE TIED CARD OF 'laws.FnPutNone'. -/
def fnPutNoneCard : Claim7 := { stood := { row := fnPutNoneRow, standIns := [], harness := (true, "78ef52c6b4c6e10d00faa97d70ba57eba08cc47fff5a35500b246f98bc1facec"), looks := true }, kinds := [], alts := [], laidByText := true, laidKinds := [.data, .data, .data, .sentinel, .sentinel], laidTests := true, laidLooks := .later }
def FnPutNoneCardSaid : Prop := Claim7.holds Tryz.pinned (.plain (OpenSpec.ofChange fnPutNoneSpec)) fnPutNoneCard

/-- THE SECOND FORM's CARD OF 'laws.FnPutHeld'. -/
def fnPutHeldUptoCard : Claim7 := { stood := { row := fnPutHeldUptoRow, standIns := [], harness := (true, "78ef52c6b4c6e10d00faa97d70ba57eba08cc47fff5a35500b246f98bc1facec"), looks := true }, kinds := [], alts := [], laidByText := true, laidKinds := [.data, .data, .data, .sentinel, .sentinel], laidTests := true, laidLooks := .later }
def FnPutHeldUptoCardSaid : Prop := Claim7.holds Tryz.pinned (.plain (OpenSpec.upto fnPutHeldSpec)) fnPutHeldUptoCard

/-- THE SECOND FORM's CARD OF 'laws.FnForSteps'. -/
def fnForStepsUptoCard : Claim7 := { stood := { row := fnForStepsUptoRow, standIns := [], harness := (true, "78ef52c6b4c6e10d00faa97d70ba57eba08cc47fff5a35500b246f98bc1facec"), looks := true }, kinds := [], alts := [], laidByText := true, laidKinds := [.data, .data, .data, .sentinel, .sentinel], laidTests := true, laidLooks := .later }
def FnForStepsUptoCardSaid : Prop := Claim7.holds Tryz.pinned (.plain (OpenSpec.upto fnForStepsSpec)) fnForStepsUptoCard

/-- THE SECOND FORM's CARD OF 'laws.FnPutNone'. -/
def fnPutNoneUptoCard : Claim7 := { stood := { row := fnPutNoneUptoRow, standIns := [], harness := (true, "78ef52c6b4c6e10d00faa97d70ba57eba08cc47fff5a35500b246f98bc1facec"), looks := true }, kinds := [], alts := [], laidByText := true, laidKinds := [.data, .data, .data, .sentinel, .sentinel], laidTests := true, laidLooks := .later }
def FnPutNoneUptoCardSaid : Prop := Claim7.holds Tryz.pinned (.plain (OpenSpec.upto fnPutNoneSpec)) fnPutNoneUptoCard
end Rows
end Go.Proofs.YtcpdkicmmhnpcacGreatDoor

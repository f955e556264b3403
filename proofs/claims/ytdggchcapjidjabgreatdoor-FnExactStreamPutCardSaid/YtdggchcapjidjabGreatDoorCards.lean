/-
  DERIVED. GIVEN WITH THE SEED: THE CARDS: each row of YtdggchcapjidjabGreatDoorRows.lean that lists a variable, with what it lists TIED to the program's text (the seventh form; the later family's looks); each row that meets fmt, with fmt's text TOLD by the authors' own Lean function (tested against real Go, not proved from fmt's source: count such statements apart). THE CARD IS WHAT COUNTS. Prove the row's statement (the work); the ties are given (YtdggchcapjidjabGreatDoorTie.lean); close each card by the builder's one call (the guide's Derived/Test/ToyasCard.lean, 'card_holds'). Laid BY PROGRAM, IN A SANDBOX (cutbox-door.mjs). By AI agents, Wed Nov 11 2026. No macro, syntax, notation, axiom, sorry.
-/
import Derived.Test.YtdggchcapjidjabGreatDoorRows
import GoSem.ClaimSeven
namespace Go.Proofs.YtdggchcapjidjabGreatDoor
namespace Rows

/-- THE TIED CARD OF 'laws.FnPutHeld'. -/
def fnPutHeldCard : Claim7 := { stood := { row := fnPutHeldRow, standIns := [], harness := (true, "c2f8324d55084863e086939464077cae98b7ec0ff446f4d488e8b08b121cf681"), looks := true }, kinds := [], alts := [], laidByText := true, laidKinds := [.data, .data, .data, .sentinel, .sentinel], laidTests := true, laidLooks := .later }
def FnPutHeldCardSaid : Prop := Claim7.holds Tryz.pinned (.plain (OpenSpec.ofChange fnPutHeldSpec)) fnPutHeldCard

/-- THE TIED CARD OF 'laws.FnPutNone'. -/
def fnPutNoneCard : Claim7 := { stood := { row := fnPutNoneRow, standIns := [], harness := (true, "c2f8324d55084863e086939464077cae98b7ec0ff446f4d488e8b08b121cf681"), looks := true }, kinds := [], alts := [], laidByText := true, laidKinds := [.data, .data, .data, .sentinel, .sentinel], laidTests := true, laidLooks := .later }
def FnPutNoneCardSaid : Prop := Claim7.holds Tryz.pinned (.plain (OpenSpec.ofChange fnPutNoneSpec)) fnPutNoneCard

/-- THE TIED CARD OF 'laws.FnExactStreamPut'. -/
def fnExactStreamPutCard : Claim7 := { stood := { row := fnExactStreamPutRow, standIns := [], harness := (true, "c2f8324d55084863e086939464077cae98b7ec0ff446f4d488e8b08b121cf681"), looks := true }, kinds := [], alts := [], laidByText := true, laidKinds := [.data, .data, .data, .sentinel, .sentinel], laidTests := true, laidLooks := .later }
def FnExactStreamPutCardSaid : Prop := Claim7.holds Tryz.pinned (.plain (OpenSpec.ofChange fnExactStreamPutSpec)) fnExactStreamPutCard

/-- THE SECOND FORM's CARD OF 'laws.FnPutHeld'. -/
def fnPutHeldUptoCard : Claim7 := { stood := { row := fnPutHeldUptoRow, standIns := [], harness := (true, "c2f8324d55084863e086939464077cae98b7ec0ff446f4d488e8b08b121cf681"), looks := true }, kinds := [], alts := [], laidByText := true, laidKinds := [.data, .data, .data, .sentinel, .sentinel], laidTests := true, laidLooks := .later }
def FnPutHeldUptoCardSaid : Prop := Claim7.holds Tryz.pinned (.plain (OpenSpec.upto fnPutHeldSpec)) fnPutHeldUptoCard

/-- THE SECOND FORM's CARD OF 'laws.FnPutNone'. -/
def fnPutNoneUptoCard : Claim7 := { stood := { row := fnPutNoneUptoRow, standIns := [], harness := (true, "c2f8324d55084863e086939464077cae98b7ec0ff446f4d488e8b08b121cf681"), looks := true }, kinds := [], alts := [], laidByText := true, laidKinds := [.data, .data, .data, .sentinel, .sentinel], laidTests := true, laidLooks := .later }
def FnPutNoneUptoCardSaid : Prop := Claim7.holds Tryz.pinned (.plain (OpenSpec.upto fnPutNoneSpec)) fnPutNoneUptoCard

/-- THE SECOND FORM's CARD OF 'laws.FnExactStreamPut'. -/
def fnExactStreamPutUptoCard : Claim7 := { stood := { row := fnExactStreamPutUptoRow, standIns := [], harness := (true, "c2f8324d55084863e086939464077cae98b7ec0ff446f4d488e8b08b121cf681"), looks := true }, kinds := [], alts := [], laidByText := true, laidKinds := [.data, .data, .data, .sentinel, .sentinel], laidTests := true, laidLooks := .later }
def FnExactStreamPutUptoCardSaid : Prop := Claim7.holds Tryz.pinned (.plain (OpenSpec.upto fnExactStreamPutSpec)) fnExactStreamPutUptoCard
end Rows
end Go.Proofs.YtdggchcapjidjabGreatDoor

/-
  DERIVED. GIVEN WITH THE SEED: THE CARDS: each row of YtlejldaennlfaadGreatDoorRows.lean that lists a variable, with what it lists TIED to the program's text (the seventh form; the later family's looks); each row that meets fmt, with fmt's text TOLD by the authors' own Lean function (tested against real Go, not proved from fmt's source: count such statements apart). THE CARD IS WHAT COUNTS. Prove the row's statement (the work); the ties are given (YtlejldaennlfaadGreatDoorTie.lean); close each card by the builder's one call (the guide's Derived/Test/ToyasCard.lean, 'card_holds'). Laid BY PROGRAM, IN A SANDBOX (cutbox-door.mjs). By AI agents, Wed Nov 11 2026. No macro, syntax, notation, axiom, sorry.
-/
import Derived.Test.YtlejldaennlfaadGreatDoorRows
import GoSem.ClaimSeven
namespace Go.Proofs.YtlejldaennlfaadGreatDoor
namespace Rows

/-- THE TIED CARD OF 'laws.FnTextThere'. -/
def fnTextThereCard : Claim7 := { stood := { row := fnTextThereRow, standIns := [], harness := (true, "f6d52a57efb051920febb3284abe982a4fd6220070120497c773401c516a4e79"), looks := true }, kinds := [], alts := [], laidByText := true, laidKinds := [.data, .data, .data, .sentinel, .sentinel], laidTests := true, laidLooks := .later }
def FnTextThereCardSaid : Prop := Claim7.holds Tryz.pinned (.plain (OpenSpec.ofChange fnTextThereSpec)) fnTextThereCard

/-- THE TIED CARD OF 'laws.FnTextHides'. -/
def fnTextHidesCard : Claim7 := { stood := { row := fnTextHidesRow, standIns := [], harness := (true, "f6d52a57efb051920febb3284abe982a4fd6220070120497c773401c516a4e79"), looks := true }, kinds := [], alts := [], laidByText := true, laidKinds := [.data, .data, .data, .sentinel, .sentinel], laidTests := true, laidLooks := .later }
def FnTextHidesCardSaid : Prop := Claim7.holds Tryz.pinned (.plain (OpenSpec.ofChange fnTextHidesSpec)) fnTextHidesCard

/-- THE TIED CARD OF 'laws.FnTextStep'. -/
def fnTextStepCard : Claim7 := { stood := { row := fnTextStepRow, standIns := [], harness := (true, "f6d52a57efb051920febb3284abe982a4fd6220070120497c773401c516a4e79"), looks := true }, kinds := [], alts := [], laidByText := true, laidKinds := [.data, .data, .data, .sentinel, .sentinel], laidTests := true, laidLooks := .later }
def FnTextStepCardSaid : Prop := Claim7.holds Tryz.pinned (.plain (OpenSpec.ofChange fnTextStepSpec)) fnTextStepCard

/-- THE SECOND FORM's CARD OF 'laws.FnTextThere'. -/
def fnTextThereUptoCard : Claim7 := { stood := { row := fnTextThereUptoRow, standIns := [], harness := (true, "f6d52a57efb051920febb3284abe982a4fd6220070120497c773401c516a4e79"), looks := true }, kinds := [], alts := [], laidByText := true, laidKinds := [.data, .data, .data, .sentinel, .sentinel], laidTests := true, laidLooks := .later }
def FnTextThereUptoCardSaid : Prop := Claim7.holds Tryz.pinned (.plain (OpenSpec.upto fnTextThereSpec)) fnTextThereUptoCard

/-- THE SECOND FORM's CARD OF 'laws.FnTextHides'. -/
def fnTextHidesUptoCard : Claim7 := { stood := { row := fnTextHidesUptoRow, standIns := [], harness := (true, "f6d52a57efb051920febb3284abe982a4fd6220070120497c773401c516a4e79"), looks := true }, kinds := [], alts := [], laidByText := true, laidKinds := [.data, .data, .data, .sentinel, .sentinel], laidTests := true, laidLooks := .later }
def FnTextHidesUptoCardSaid : Prop := Claim7.holds Tryz.pinned (.plain (OpenSpec.upto fnTextHidesSpec)) fnTextHidesUptoCard

/-- THE SECOND FORM's CARD OF 'laws.FnTextStep'. -/
def fnTextStepUptoCard : Claim7 := { stood := { row := fnTextStepUptoRow, standIns := [], harness := (true, "f6d52a57efb051920febb3284abe982a4fd6220070120497c773401c516a4e79"), looks := true }, kinds := [], alts := [], laidByText := true, laidKinds := [.data, .data, .data, .sentinel, .sentinel], laidTests := true, laidLooks := .later }
def FnTextStepUptoCardSaid : Prop := Claim7.holds Tryz.pinned (.plain (OpenSpec.upto fnTextStepSpec)) fnTextStepUptoCard
end Rows
end Go.Proofs.YtlejldaennlfaadGreatDoor

/-
  DERIVED. GIVEN WITH THE SEED: THE CARDS: each row of YtnjggammbebpkaaGreatDoorRows.lean that lists a variable, with what it lists TIED to the program's text (the seventh form; the later family's looks); each row that meets fmt, with fmt's text TOLD by the authors' own Lean function (tested against real Go, not proved from fmt's source: count such statements apart). THE CARD IS WHAT COUNTS. Prove the row's statement (the work); the ties are given (YtnjggammbebpkaaGreatDoorTie.lean); close each card by the builder's one call (the guide's Derived/Test/ToyasCard.lean, 'card_holds'). Laid BY PROGRAM, IN A SANDBOX (cutbox-door.mjs). By AI agents, Wed Nov 11 2026. No macro, syntax, notation, axiom, sorry.
-/
import Derived.Test.YtnjggammbebpkaaGreatDoorRows
import GoSem.ClaimSeven
namespace Go.Proofs.YtnjggammbebpkaaGreatDoor
namespace Rows

/-- THE TIED CARD OF 'laws.FnPktBack'. -/
def fnPktBackCard : Claim7 := { stood := { row := fnPktBackRow, standIns := [], harness := (true, "7e6d417452f6dbffdd4362db98da6a628f513d58eb4868b65127566b42894f44"), looks := true }, kinds := [], alts := [], laidByText := true, laidKinds := [.data, .data, .data, .data, .sentinel, .sentinel, .sentinel, .pinned], laidTests := true, laidLooks := .later }
def FnPktBackCardSaid : Prop := Claim7.holds Tryz.pinned (.plain (OpenSpec.ofChange fnPktBackSpec)) fnPktBackCard

/-- THE TIED CARD OF 'laws.FnPktStrict'. -/
def fnPktStrictCard : Claim7 := { stood := { row := fnPktStrictRow, standIns := [], harness := (true, "7e6d417452f6dbffdd4362db98da6a628f513d58eb4868b65127566b42894f44"), looks := true }, kinds := [], alts := [], laidByText := true, laidKinds := [.data, .data, .data, .data, .sentinel, .sentinel, .sentinel, .pinned], laidTests := true, laidLooks := .later }
def FnPktStrictCardSaid : Prop := Claim7.holds Tryz.pinned (.plain (OpenSpec.ofChange fnPktStrictSpec)) fnPktStrictCard

/-- THE TIED CARD OF 'laws.FnPktCut'. -/
def fnPktCutCard : Claim7 := { stood := { row := fnPktCutRow, standIns := [], harness := (true, "7e6d417452f6dbffdd4362db98da6a628f513d58eb4868b65127566b42894f44"), looks := true }, kinds := [], alts := [], laidByText := true, laidKinds := [.data, .data, .data, .data, .sentinel, .sentinel, .sentinel, .pinned], laidTests := true, laidLooks := .later }
def FnPktCutCardSaid : Prop := Claim7.holds Tryz.pinned (.plain (OpenSpec.ofChange fnPktCutSpec)) fnPktCutCard

/-- THE SECOND FORM's CARD OF 'laws.FnPktBack'. -/
def fnPktBackUptoCard : Claim7 := { stood := { row := fnPktBackUptoRow, standIns := [], harness := (true, "7e6d417452f6dbffdd4362db98da6a628f513d58eb4868b65127566b42894f44"), looks := true }, kinds := [], alts := [], laidByText := true, laidKinds := [.data, .data, .data, .data, .sentinel, .sentinel, .sentinel, .pinned], laidTests := true, laidLooks := .later }
def FnPktBackUptoCardSaid : Prop := Claim7.holds Tryz.pinned (.plain (OpenSpec.upto fnPktBackSpec)) fnPktBackUptoCard

/-- THE SECOND FORM's CARD OF 'laws.FnPktStrict'. -/
def fnPktStrictUptoCard : Claim7 := { stood := { row := fnPktStrictUptoRow, standIns := [], harness := (true, "7e6d417452f6dbffdd4362db98da6a628f513d58eb4868b65127566b42894f44"), looks := true }, kinds := [], alts := [], laidByText := true, laidKinds := [.data, .data, .data, .data, .sentinel, .sentinel, .sentinel, .pinned], laidTests := true, laidLooks := .later }
def FnPktStrictUptoCardSaid : Prop := Claim7.holds Tryz.pinned (.plain (OpenSpec.upto fnPktStrictSpec)) fnPktStrictUptoCard

/-- THE SECOND FORM's CARD OF 'laws.FnPktCut'. -/
def fnPktCutUptoCard : Claim7 := { stood := { row := fnPktCutUptoRow, standIns := [], harness := (true, "7e6d417452f6dbffdd4362db98da6a628f513d58eb4868b65127566b42894f44"), looks := true }, kinds := [], alts := [], laidByText := true, laidKinds := [.data, .data, .data, .data, .sentinel, .sentinel, .sentinel, .pinned], laidTests := true, laidLooks := .later }
def FnPktCutUptoCardSaid : Prop := Claim7.holds Tryz.pinned (.plain (OpenSpec.upto fnPktCutSpec)) fnPktCutUptoCard
end Rows
end Go.Proofs.YtnjggammbebpkaaGreatDoor

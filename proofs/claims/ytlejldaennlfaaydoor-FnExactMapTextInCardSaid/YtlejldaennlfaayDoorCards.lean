/-
  DERIVED. GIVEN WITH THE SEED: THE CARDS: each row of YtlejldaennlfaayDoorRows.lean that lists a variable, with what it lists TIED to the program's text (the seventh form; the later family's looks); each row that meets fmt, with fmt's text TOLD by the authors' own Lean function (tested against real Go, not proved from fmt's source: count such statements apart). THE CARD IS WHAT COUNTS. Prove the row's statement (the work); the ties are given (YtlejldaennlfaayDoorTie.lean); close each card by the builder's one call (the guide's Derived/Test/ToyasCard.lean, 'card_holds'). Laid BY PROGRAM, IN A SANDBOX (cutbox-door.mjs). By AI agents, Wed Nov 11 2026. No macro, syntax, notation, axiom, sorry.
-/
import Derived.Test.YtlejldaennlfaayDoorRows
import GoSem.ClaimSeven
namespace Go.Proofs.YtlejldaennlfaayDoor
namespace Rows

/-- THE TIED CARD OF 'laws.FnExactMapTextIn'. -/
def fnExactMapTextInCard : Claim7 := { stood := { row := fnExactMapTextInRow, standIns := [], harness := (true, "57b75d35cd7c667694a18133e1b4332d48317234bed4d88d8e791850420c359a"), looks := true }, kinds := [], alts := [], laidByText := true, laidKinds := [.data, .data, .data, .sentinel, .sentinel], laidTests := true, laidLooks := .later }
def FnExactMapTextInCardSaid : Prop := Claim7.holds Tryd.pinned (.plain (OpenSpec.ofChange fnExactMapTextInSpec)) fnExactMapTextInCard

/-- THE SECOND FORM's CARD OF 'laws.FnExactMapTextIn'. -/
def fnExactMapTextInUptoCard : Claim7 := { stood := { row := fnExactMapTextInUptoRow, standIns := [], harness := (true, "57b75d35cd7c667694a18133e1b4332d48317234bed4d88d8e791850420c359a"), looks := true }, kinds := [], alts := [], laidByText := true, laidKinds := [.data, .data, .data, .sentinel, .sentinel], laidTests := true, laidLooks := .later }
def FnExactMapTextInUptoCardSaid : Prop := Claim7.holds Tryd.pinned (.plain (OpenSpec.upto fnExactMapTextInSpec)) fnExactMapTextInUptoCard
end Rows
end Go.Proofs.YtlejldaennlfaayDoor

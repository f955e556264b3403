/-
  DERIVED. GIVEN WITH THE SEED: THE CARDS: each row of YtlejldaennlfaayGreatDoorRows.lean that lists a variable, with what it lists TIED to the program's text (the seventh form; the later family's looks); each row that meets fmt, with fmt's text TOLD by the authors' own Lean function (tested against real Go, not proved from fmt's source: count such statements apart). THE CARD IS WHAT COUNTS. Prove the row's statement (the work); the ties are given (YtlejldaennlfaayGreatDoorTie.lean); close each card by the builder's one call (the guide's Derived/Test/ToyasCard.lean, 'card_holds'). Laid BY PROGRAM, IN A SANDBOX (cutbox-door.mjs). By AI agents, Wed Nov 11 2026. No macro, syntax, notation, axiom, sorry.
-/
import Derived.Test.YtlejldaennlfaayGreatDoorRows
import GoSem.ClaimSeven
namespace Go.Proofs.YtlejldaennlfaayGreatDoor
namespace Rows

/-- THE TIED CARD OF 'laws.FnExactMapTextOut'. -/
def fnExactMapTextOutCard : Claim7 := { stood := { row := fnExactMapTextOutRow, standIns := [], harness := (true, "0e558b4aa4b9562887826e624bfb95b10357bc00c575643566cf58c215b8f160"), looks := true }, kinds := [], alts := [], laidByText := true, laidKinds := [.data, .data, .data, .sentinel, .sentinel], laidTests := true, laidLooks := .later }
def FnExactMapTextOutCardSaid : Prop := Claim7.holds Tryz.pinned (.plain (OpenSpec.ofChange fnExactMapTextOutSpec)) fnExactMapTextOutCard

/-- THE SECOND FORM's CARD OF 'laws.FnExactMapTextOut'. -/
def fnExactMapTextOutUptoCard : Claim7 := { stood := { row := fnExactMapTextOutUptoRow, standIns := [], harness := (true, "0e558b4aa4b9562887826e624bfb95b10357bc00c575643566cf58c215b8f160"), looks := true }, kinds := [], alts := [], laidByText := true, laidKinds := [.data, .data, .data, .sentinel, .sentinel], laidTests := true, laidLooks := .later }
def FnExactMapTextOutUptoCardSaid : Prop := Claim7.holds Tryz.pinned (.plain (OpenSpec.upto fnExactMapTextOutSpec)) fnExactMapTextOutUptoCard
end Rows
end Go.Proofs.YtlejldaennlfaayGreatDoor

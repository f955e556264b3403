/-
  DERIVED. GIVEN WITH THE SEED: THE CARDS: each row of YtcpdkicmmhnpcadDoorRows.lean that lists a variable, with what it lists TIED to the program's text (the seventh form; the later family's looks); each row that meets fmt, with fmt's text TOLD by the authors' own Lean function (tested against real Go, not proved from fmt's source: count such statements apart). THE CARD IS WHAT COUNTS. Prove the row's statement (the work); the ties are given (YtcpdkicmmhnpcadDoorTie.lean); close each card by the builder's one call (the guide's Derived/Test/ToyasCard.lean, 'card_holds'). Laid BY PROGRAM, IN A SANDBOX (cutbox-door.mjs). By AI agents, Wed Nov 11 2026. No macro, syntax, notation, axiom, sorry.
-/
import Derived.Test.YtcpdkicmmhnpcadDoorRows
import GoSem.ClaimSeven
namespace Go.Proofs.YtcpdkicmmhnpcadDoor
namespace Rows

/-- THE TIED CARD OF 'laws.FnExactStreamBack'. -/
def fnExactStreamBackCard : Claim7 := { stood := { row := fnExactStreamBackRow, standIns := [], harness := (true, "873e925005ec3fb24d344a9c323555f000f096b0a76e9c0dabd72d5521d3aa00"), looks := true }, kinds := [], alts := [], laidByText := true, laidKinds := [.data, .data, .data, .sentinel, .sentinel], laidTests := true, laidLooks := .later }
def FnExactStreamBackCardSaid : Prop := Claim7.holds Tryd.pinned (.plain (OpenSpec.ofChange fnExactStreamBackSpec)) fnExactStreamBackCard

/-- THE SECOND FORM's CARD OF 'laws.FnExactStreamBack'. -/
def fnExactStreamBackUptoCard : Claim7 := { stood := { row := fnExactStreamBackUptoRow, standIns := [], harness := (true, "873e925005ec3fb24d344a9c323555f000f096b0a76e9c0dabd72d5521d3aa00"), looks := true }, kinds := [], alts := [], laidByText := true, laidKinds := [.data, .data, .data, .sentinel, .sentinel], laidTests := true, laidLooks := .later }
def FnExactStreamBackUptoCardSaid : Prop := Claim7.holds Tryd.pinned (.plain (OpenSpec.upto fnExactStreamBackSpec)) fnExactStreamBackUptoCard
end Rows
end Go.Proofs.YtcpdkicmmhnpcadDoor

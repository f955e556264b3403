/-
  DERIVED. GIVEN WITH THE SEED: THE CARDS: each row of YtnjggammbebpkabGreatDoorRows.lean that lists a variable, with what it lists TIED to the program's text (the seventh form; the later family's looks); each row that meets fmt, with fmt's text TOLD by the authors' own Lean function (tested against real Go, not proved from fmt's source: count such statements apart). THE CARD IS WHAT COUNTS. Prove the row's statement (the work); the ties are given (YtnjggammbebpkabGreatDoorTie.lean); close each card by the builder's one call (the guide's Derived/Test/ToyasCard.lean, 'card_holds'). Laid BY PROGRAM, IN A SANDBOX (cutbox-door.mjs). By AI agents, Wed Nov 11 2026. No macro, syntax, notation, axiom, sorry.
-/
import Derived.Test.YtnjggammbebpkabGreatDoorRows
import GoSem.ClaimSeven
namespace Go.Proofs.YtnjggammbebpkabGreatDoor
namespace Rows

/-- THE TIED CARD OF 'laws.FnExactPktRead'. -/
def fnExactPktReadCard : Claim7 := { stood := { row := fnExactPktReadRow, standIns := [], harness := (true, "8f5937383784345010859cf386ec18e53317570483f31e8f46f2488ba01871f6"), looks := true }, kinds := [], alts := [], laidByText := true, laidKinds := [.data, .data, .data, .data, .sentinel, .sentinel, .sentinel, .pinned], laidTests := true, laidLooks := .later }
def FnExactPktReadCardSaid : Prop := Claim7.holds Tryz.pinned (.plain (OpenSpec.ofChange fnExactPktReadSpec)) fnExactPktReadCard

/-- THE SECOND FORM's CARD OF 'laws.FnExactPktRead'. -/
def fnExactPktReadUptoCard : Claim7 := { stood := { row := fnExactPktReadUptoRow, standIns := [], harness := (true, "8f5937383784345010859cf386ec18e53317570483f31e8f46f2488ba01871f6"), looks := true }, kinds := [], alts := [], laidByText := true, laidKinds := [.data, .data, .data, .data, .sentinel, .sentinel, .sentinel, .pinned], laidTests := true, laidLooks := .later }
def FnExactPktReadUptoCardSaid : Prop := Claim7.holds Tryz.pinned (.plain (OpenSpec.upto fnExactPktReadSpec)) fnExactPktReadUptoCard
end Rows
end Go.Proofs.YtnjggammbebpkabGreatDoor

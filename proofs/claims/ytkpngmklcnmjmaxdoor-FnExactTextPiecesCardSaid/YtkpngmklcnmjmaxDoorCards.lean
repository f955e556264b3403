/-
  DERIVED. GIVEN WITH THE SEED: THE CARDS: each row of YtkpngmklcnmjmaxDoorRows.lean that lists a variable, with what it lists TIED to the program's text (the seventh form; the later family's looks); each row that meets fmt, with fmt's text TOLD by the authors' own Lean function (tested against real Go, not proved from fmt's source: count such statements apart). THE CARD IS WHAT COUNTS. Prove the row's statement (the work); the ties are given (YtkpngmklcnmjmaxDoorTie.lean); close each card by the builder's one call (the guide's Derived/Test/ToyasCard.lean, 'card_holds'). Laid BY PROGRAM, IN A SANDBOX (cutbox-door.mjs). By AI agents, Wed Nov 11 2026. No macro, syntax, notation, axiom, sorry.
-/
import Derived.Test.YtkpngmklcnmjmaxDoorRows
import GoSem.ClaimSeven
namespace Go.Proofs.YtkpngmklcnmjmaxDoor
namespace Rows

/-- THE TIED CARD OF 'laws.FnExactTextPieces'. -/
def fnExactTextPiecesCard : Claim7 := { stood := { row := fnExactTextPiecesRow, standIns := [], harness := (true, "874c1b0da84eb22d0a87775e89ed9bfdb9dbe15a677217eb6686956ad11a71d1"), looks := true }, kinds := [], alts := [], laidByText := true, laidKinds := [.data, .data, .data, .sentinel, .sentinel], laidTests := true, laidLooks := .later }
def FnExactTextPiecesCardSaid : Prop := Claim7.holds Tryd.pinned (.plain (OpenSpec.ofChange fnExactTextPiecesSpec)) fnExactTextPiecesCard

/-- THE TIED CARD OF 'laws.FnExactTextNames'. -/
def fnExactTextNamesCard : Claim7 := { stood := { row := fnExactTextNamesRow, standIns := [], harness := (true, "874c1b0da84eb22d0a87775e89ed9bfdb9dbe15a677217eb6686956ad11a71d1"), looks := true }, kinds := [], alts := [], laidByText := true, laidKinds := [.data, .data, .data, .sentinel, .sentinel], laidTests := true, laidLooks := .later }
def FnExactTextNamesCardSaid : Prop := Claim7.holds Tryd.pinned (.plain (OpenSpec.ofChange fnExactTextNamesSpec)) fnExactTextNamesCard

/-- THE SECOND FORM's CARD OF 'laws.FnExactTextPieces'. -/
def fnExactTextPiecesUptoCard : Claim7 := { stood := { row := fnExactTextPiecesUptoRow, standIns := [], harness := (true, "874c1b0da84eb22d0a87775e89ed9bfdb9dbe15a677217eb6686956ad11a71d1"), looks := true }, kinds := [], alts := [], laidByText := true, laidKinds := [.data, .data, .data, .sentinel, .sentinel], laidTests := true, laidLooks := .later }
def FnExactTextPiecesUptoCardSaid : Prop := Claim7.holds Tryd.pinned (.plain (OpenSpec.upto fnExactTextPiecesSpec)) fnExactTextPiecesUptoCard

/-- THE SECOND FORM's CARD OF 'laws.FnExactTextNames'. -/
def fnExactTextNamesUptoCard : Claim7 := { stood := { row := fnExactTextNamesUptoRow, standIns := [], harness := (true, "874c1b0da84eb22d0a87775e89ed9bfdb9dbe15a677217eb6686956ad11a71d1"), looks := true }, kinds := [], alts := [], laidByText := true, laidKinds := [.data, .data, .data, .sentinel, .sentinel], laidTests := true, laidLooks := .later }
def FnExactTextNamesUptoCardSaid : Prop := Claim7.holds Tryd.pinned (.plain (OpenSpec.upto fnExactTextNamesSpec)) fnExactTextNamesUptoCard
end Rows
end Go.Proofs.YtkpngmklcnmjmaxDoor

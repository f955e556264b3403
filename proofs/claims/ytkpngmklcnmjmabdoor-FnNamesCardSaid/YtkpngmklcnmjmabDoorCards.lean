/-
  DERIVED. GIVEN WITH THE SEED: THE CARDS: each row of YtkpngmklcnmjmabDoorRows.lean that lists a variable, with what it lists TIED to the program's text (the seventh form; the later family's looks); each row that meets fmt, with fmt's text TOLD by the authors' own Lean function (tested against real Go, not proved from fmt's source: count such statements apart). THE CARD IS WHAT COUNTS. Prove the row's statement (the work); the ties are given (YtkpngmklcnmjmabDoorTie.lean); close each card by the builder's one call (the guide's Derived/Test/ToyasCard.lean, 'card_holds'). Laid BY PROGRAM, IN A SANDBOX (cutbox-door.mjs). By AI agents, Wed Nov 11 2026. No macro, syntax, notation, axiom, sorry.
-/
import Derived.Test.YtkpngmklcnmjmabDoorRows
import GoSem.ClaimSeven
namespace Go.Proofs.YtkpngmklcnmjmabDoor
namespace Rows

/-- THE TIED CARD OF 'laws.FnPiecesAll'. -/
def fnPiecesAllCard : Claim7 := { stood := { row := fnPiecesAllRow, standIns := [], harness := (true, "36996cdb573a64314771768bca0fb072a43dc52f9a227fab1bc375614de5cf1a"), looks := true }, kinds := [], alts := [], laidByText := true, laidKinds := [.data, .data, .data, .sentinel, .sentinel], laidTests := true, laidLooks := .later }
def FnPiecesAllCardSaid : Prop := Claim7.holds Tryd.pinned (.plain (OpenSpec.ofChange fnPiecesAllSpec)) fnPiecesAllCard

/-- THE TIED CARD OF 'laws.FnPiecesMore'. -/
def fnPiecesMoreCard : Claim7 := { stood := { row := fnPiecesMoreRow, standIns := [], harness := (true, "36996cdb573a64314771768bca0fb072a43dc52f9a227fab1bc375614de5cf1a"), looks := true }, kinds := [], alts := [], laidByText := true, laidKinds := [.data, .data, .data, .sentinel, .sentinel], laidTests := true, laidLooks := .later }
def FnPiecesMoreCardSaid : Prop := Claim7.holds Tryd.pinned (.plain (OpenSpec.ofChange fnPiecesMoreSpec)) fnPiecesMoreCard

/-- THE TIED CARD OF 'laws.FnHeldRest'. -/
def fnHeldRestCard : Claim7 := { stood := { row := fnHeldRestRow, standIns := [], harness := (true, "36996cdb573a64314771768bca0fb072a43dc52f9a227fab1bc375614de5cf1a"), looks := true }, kinds := [], alts := [], laidByText := true, laidKinds := [.data, .data, .data, .sentinel, .sentinel], laidTests := true, laidLooks := .later }
def FnHeldRestCardSaid : Prop := Claim7.holds Tryd.pinned (.plain (OpenSpec.ofChange fnHeldRestSpec)) fnHeldRestCard

/-- THE TIED CARD OF 'laws.FnNames'. -/
def fnNamesCard : Claim7 := { stood := { row := fnNamesRow, standIns := [], harness := (true, "36996cdb573a64314771768bca0fb072a43dc52f9a227fab1bc375614de5cf1a"), looks := true }, kinds := [], alts := [], laidByText := true, laidKinds := [.data, .data, .data, .sentinel, .sentinel], laidTests := true, laidLooks := .later }
def FnNamesCardSaid : Prop := Claim7.holds Tryd.pinned (.plain (OpenSpec.ofChange fnNamesSpec)) fnNamesCard

/-- THE SECOND FORM's CARD OF 'laws.FnPiecesAll'. -/
def fnPiecesAllUptoCard : Claim7 := { stood := { row := fnPiecesAllUptoRow, standIns := [], harness := (true, "36996cdb573a64314771768bca0fb072a43dc52f9a227fab1bc375614de5cf1a"), looks := true }, kinds := [], alts := [], laidByText := true, laidKinds := [.data, .data, .data, .sentinel, .sentinel], laidTests := true, laidLooks := .later }
def FnPiecesAllUptoCardSaid : Prop := Claim7.holds Tryd.pinned (.plain (OpenSpec.upto fnPiecesAllSpec)) fnPiecesAllUptoCard

/-- THE SECOND FORM's CARD OF 'laws.FnPiecesMore'. -/
def fnPiecesMoreUptoCard : Claim7 := { stood := { row := fnPiecesMoreUptoRow, standIns := [], harness := (true, "36996cdb573a64314771768bca0fb072a43dc52f9a227fab1bc375614de5cf1a"), looks := true }, kinds := [], alts := [], laidByText := true, laidKinds := [.data, .data, .data, .sentinel, .sentinel], laidTests := true, laidLooks := .later }
def FnPiecesMoreUptoCardSaid : Prop := Claim7.holds Tryd.pinned (.plain (OpenSpec.upto fnPiecesMoreSpec)) fnPiecesMoreUptoCard

/-- THE SECOND FORM's CARD OF 'laws.FnHeldRest'. -/
def fnHeldRestUptoCard : Claim7 := { stood := { row := fnHeldRestUptoRow, standIns := [], harness := (true, "36996cdb573a64314771768bca0fb072a43dc52f9a227fab1bc375614de5cf1a"), looks := true }, kinds := [], alts := [], laidByText := true, laidKinds := [.data, .data, .data, .sentinel, .sentinel], laidTests := true, laidLooks := .later }
def FnHeldRestUptoCardSaid : Prop := Claim7.holds Tryd.pinned (.plain (OpenSpec.upto fnHeldRestSpec)) fnHeldRestUptoCard

/-- THE SECOND FORM's CARD OF 'laws.FnNames'. -/
def fnNamesUptoCard : Claim7 := { stood := { row := fnNamesUptoRow, standIns := [], harness := (true, "36996cdb573a64314771768bca0fb072a43dc52f9a227fab1bc375614de5cf1a"), looks := true }, kinds := [], alts := [], laidByText := true, laidKinds := [.data, .data, .data, .sentinel, .sentinel], laidTests := true, laidLooks := .later }
def FnNamesUptoCardSaid : Prop := Claim7.holds Tryd.pinned (.plain (OpenSpec.upto fnNamesSpec)) fnNamesUptoCard
end Rows
end Go.Proofs.YtkpngmklcnmjmabDoor

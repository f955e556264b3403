/-
  DERIVED. GIVEN WITH THE SEED: THE CARDS: each row of YtkpngmklcnmjmacDoorRows.lean that lists a variable, with what it lists TIED to the program's text (the seventh form; the later family's looks); each row that meets fmt, with fmt's text TOLD by the authors' own Lean function (tested against real Go, not proved from fmt's source: count such statements apart). THE CARD IS WHAT COUNTS. Prove the row's statement (the work); the ties are given (YtkpngmklcnmjmacDoorTie.lean); close each card by the builder's one call (the guide's Derived/Test/ToyasCard.lean, 'card_holds'). Laid BY PROGRAM, IN A SANDBOX (cutbox-door.mjs). By AI agents, Wed Nov 11 2026. No macro, syntax, notation, axiom, sorry.
-/
import Derived.Test.YtkpngmklcnmjmacDoorRows
import GoSem.ClaimSeven
namespace Go.Proofs.YtkpngmklcnmjmacDoor
namespace Rows

/-- THE TIED CARD OF 'laws.FnNameIn'. -/
def fnNameInCard : Claim7 := { stood := { row := fnNameInRow, standIns := [], harness := (true, "c252df05a122217deedd7831dac595c0d959ecb49fab2ebea41edfd9beb5a934"), looks := true }, kinds := [], alts := [], laidByText := true, laidKinds := [.data, .data, .data, .sentinel, .sentinel], laidTests := true, laidLooks := .later }
def FnNameInCardSaid : Prop := Claim7.holds Tryd.pinned (.plain (OpenSpec.ofChange fnNameInSpec)) fnNameInCard

/-- THE TIED CARD OF 'laws.FnPiecesTwo'. -/
def fnPiecesTwoCard : Claim7 := { stood := { row := fnPiecesTwoRow, standIns := [], harness := (true, "c252df05a122217deedd7831dac595c0d959ecb49fab2ebea41edfd9beb5a934"), looks := true }, kinds := [], alts := [], laidByText := true, laidKinds := [.data, .data, .data, .sentinel, .sentinel], laidTests := true, laidLooks := .later }
def FnPiecesTwoCardSaid : Prop := Claim7.holds Tryd.pinned (.plain (OpenSpec.ofChange fnPiecesTwoSpec)) fnPiecesTwoCard

/-- THE TIED CARD OF 'laws.FnPiecesSize'. -/
def fnPiecesSizeCard : Claim7 := { stood := { row := fnPiecesSizeRow, standIns := [], harness := (true, "c252df05a122217deedd7831dac595c0d959ecb49fab2ebea41edfd9beb5a934"), looks := true }, kinds := [], alts := [], laidByText := true, laidKinds := [.data, .data, .data, .sentinel, .sentinel], laidTests := true, laidLooks := .later }
def FnPiecesSizeCardSaid : Prop := Claim7.holds Tryd.pinned (.plain (OpenSpec.ofChange fnPiecesSizeSpec)) fnPiecesSizeCard

/-- THE TIED CARD OF 'laws.FnTextNamed'. -/
def fnTextNamedCard : Claim7 := { stood := { row := fnTextNamedRow, standIns := [], harness := (true, "c252df05a122217deedd7831dac595c0d959ecb49fab2ebea41edfd9beb5a934"), looks := true }, kinds := [], alts := [], laidByText := true, laidKinds := [.data, .data, .data, .sentinel, .sentinel], laidTests := true, laidLooks := .later }
def FnTextNamedCardSaid : Prop := Claim7.holds Tryd.pinned (.plain (OpenSpec.ofChange fnTextNamedSpec)) fnTextNamedCard

/-- THE SECOND FORM's CARD OF 'laws.FnNameIn'. -/
def fnNameInUptoCard : Claim7 := { stood := { row := fnNameInUptoRow, standIns := [], harness := (true, "c252df05a122217deedd7831dac595c0d959ecb49fab2ebea41edfd9beb5a934"), looks := true }, kinds := [], alts := [], laidByText := true, laidKinds := [.data, .data, .data, .sentinel, .sentinel], laidTests := true, laidLooks := .later }
def FnNameInUptoCardSaid : Prop := Claim7.holds Tryd.pinned (.plain (OpenSpec.upto fnNameInSpec)) fnNameInUptoCard

/-- THE SECOND FORM's CARD OF 'laws.FnPiecesTwo'. -/
def fnPiecesTwoUptoCard : Claim7 := { stood := { row := fnPiecesTwoUptoRow, standIns := [], harness := (true, "c252df05a122217deedd7831dac595c0d959ecb49fab2ebea41edfd9beb5a934"), looks := true }, kinds := [], alts := [], laidByText := true, laidKinds := [.data, .data, .data, .sentinel, .sentinel], laidTests := true, laidLooks := .later }
def FnPiecesTwoUptoCardSaid : Prop := Claim7.holds Tryd.pinned (.plain (OpenSpec.upto fnPiecesTwoSpec)) fnPiecesTwoUptoCard

/-- THE SECOND FORM's CARD OF 'laws.FnPiecesSize'. -/
def fnPiecesSizeUptoCard : Claim7 := { stood := { row := fnPiecesSizeUptoRow, standIns := [], harness := (true, "c252df05a122217deedd7831dac595c0d959ecb49fab2ebea41edfd9beb5a934"), looks := true }, kinds := [], alts := [], laidByText := true, laidKinds := [.data, .data, .data, .sentinel, .sentinel], laidTests := true, laidLooks := .later }
def FnPiecesSizeUptoCardSaid : Prop := Claim7.holds Tryd.pinned (.plain (OpenSpec.upto fnPiecesSizeSpec)) fnPiecesSizeUptoCard

/-- THE SECOND FORM's CARD OF 'laws.FnTextNamed'. -/
def fnTextNamedUptoCard : Claim7 := { stood := { row := fnTextNamedUptoRow, standIns := [], harness := (true, "c252df05a122217deedd7831dac595c0d959ecb49fab2ebea41edfd9beb5a934"), looks := true }, kinds := [], alts := [], laidByText := true, laidKinds := [.data, .data, .data, .sentinel, .sentinel], laidTests := true, laidLooks := .later }
def FnTextNamedUptoCardSaid : Prop := Claim7.holds Tryd.pinned (.plain (OpenSpec.upto fnTextNamedSpec)) fnTextNamedUptoCard
end Rows
end Go.Proofs.YtkpngmklcnmjmacDoor

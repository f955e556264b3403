/-
  DERIVED. GIVEN WITH THE SEED: THE CARDS: each row of YtcpdkicmmhnpcabGreatDoorRows.lean that lists a variable, with what it lists TIED to the program's text (the seventh form; the later family's looks); each row that meets fmt, with fmt's text TOLD by the authors' own Lean function (tested against real Go, not proved from fmt's source: count such statements apart). THE CARD IS WHAT COUNTS. Prove the row's statement (the work); the ties are given (YtcpdkicmmhnpcabGreatDoorTie.lean); close each card by the builder's one call (the guide's Derived/Test/ToyasCard.lean, 'card_holds'). Laid BY PROGRAM, IN A SANDBOX (cutbox-door.mjs). By AI agents, Wed Nov 11 2026. No macro, syntax, notation, axiom, sorry.
-/
import Derived.Test.YtcpdkicmmhnpcabGreatDoorRows
import GoSem.ClaimSeven
namespace Go.Proofs.YtcpdkicmmhnpcabGreatDoor
namespace Rows

/-- THE TIED CARD OF 'laws.FnStreamBack'. -/
def fnStreamBackCard : Claim7 := { stood := { row := fnStreamBackRow, standIns := [], harness := (true, "516cadda3e41c4ec883172ad4d8945b49a243c3c077d8e06e7a205076c2cd03e"), looks := true }, kinds := [], alts := [], laidByText := true, laidKinds := [.data, .data, .data, .sentinel, .sentinel], laidTests := true, laidLooks := .later }
def FnStreamBackCardSaid : Prop := Claim7.holds Tryz.pinned (.plain (OpenSpec.ofChange fnStreamBackSpec)) fnStreamBackCard

/-- THE TIED CARD OF 'laws.FnStreamBoth'. -/
def fnStreamBothCard : Claim7 := { stood := { row := fnStreamBothRow, standIns := [], harness := (true, "516cadda3e41c4ec883172ad4d8945b49a243c3c077d8e06e7a205076c2cd03e"), looks := true }, kinds := [], alts := [], laidByText := true, laidKinds := [.data, .data, .data, .sentinel, .sentinel], laidTests := true, laidLooks := .later }
def FnStreamBothCardSaid : Prop := Claim7.holds Tryz.pinned (.plain (OpenSpec.ofChange fnStreamBothSpec)) fnStreamBothCard

/-- THE TIED CARD OF 'laws.FnStreamOut'. -/
def fnStreamOutCard : Claim7 := { stood := { row := fnStreamOutRow, standIns := [], harness := (true, "516cadda3e41c4ec883172ad4d8945b49a243c3c077d8e06e7a205076c2cd03e"), looks := true }, kinds := [], alts := [], laidByText := true, laidKinds := [.data, .data, .data, .sentinel, .sentinel], laidTests := true, laidLooks := .later }
def FnStreamOutCardSaid : Prop := Claim7.holds Tryz.pinned (.plain (OpenSpec.ofChange fnStreamOutSpec)) fnStreamOutCard

/-- THE TIED CARD OF 'laws.FnPutGap'. -/
def fnPutGapCard : Claim7 := { stood := { row := fnPutGapRow, standIns := [], harness := (true, "516cadda3e41c4ec883172ad4d8945b49a243c3c077d8e06e7a205076c2cd03e"), looks := true }, kinds := [], alts := [], laidByText := true, laidKinds := [.data, .data, .data, .sentinel, .sentinel], laidTests := true, laidLooks := .later }
def FnPutGapCardSaid : Prop := Claim7.holds Tryz.pinned (.plain (OpenSpec.ofChange fnPutGapSpec)) fnPutGapCard

/-- THE TIED CARD OF 'laws.FnPutIn'. -/
def fnPutInCard : Claim7 := { stood := { row := fnPutInRow, standIns := [], harness := (true, "516cadda3e41c4ec883172ad4d8945b49a243c3c077d8e06e7a205076c2cd03e"), looks := true }, kinds := [], alts := [], laidByText := true, laidKinds := [.data, .data, .data, .sentinel, .sentinel], laidTests := true, laidLooks := .later }
def FnPutInCardSaid : Prop := Claim7.holds Tryz.pinned (.plain (OpenSpec.ofChange fnPutInSpec)) fnPutInCard

/-- THE SECOND FORM's CARD OF 'laws.FnStreamBack'. -/
def fnStreamBackUptoCard : Claim7 := { stood := { row := fnStreamBackUptoRow, standIns := [], harness := (true, "516cadda3e41c4ec883172ad4d8945b49a243c3c077d8e06e7a205076c2cd03e"), looks := true }, kinds := [], alts := [], laidByText := true, laidKinds := [.data, .data, .data, .sentinel, .sentinel], laidTests := true, laidLooks := .later }
def FnStreamBackUptoCardSaid : Prop := Claim7.holds Tryz.pinned (.plain (OpenSpec.upto fnStreamBackSpec)) fnStreamBackUptoCard

/-- THE SECOND FORM's CARD OF 'laws.FnStreamBoth'. -/
def fnStreamBothUptoCard : Claim7 := { stood := { row := fnStreamBothUptoRow, standIns := [], harness := (true, "516cadda3e41c4ec883172ad4d8945b49a243c3c077d8e06e7a205076c2cd03e"), looks := true }, kinds := [], alts := [], laidByText := true, laidKinds := [.data, .data, .data, .sentinel, .sentinel], laidTests := true, laidLooks := .later }
def FnStreamBothUptoCardSaid : Prop := Claim7.holds Tryz.pinned (.plain (OpenSpec.upto fnStreamBothSpec)) fnStreamBothUptoCard

/-- THE SECOND FORM's CARD OF 'laws.FnStreamOut'. -/
def fnStreamOutUptoCard : Claim7 := { stood := { row := fnStreamOutUptoRow, standIns := [], harness := (true, "516cadda3e41c4ec883172ad4d8945b49a243c3c077d8e06e7a205076c2cd03e"), looks := true }, kinds := [], alts := [], laidByText := true, laidKinds := [.data, .data, .data, .sentinel, .sentinel], laidTests := true, laidLooks := .later }
def FnStreamOutUptoCardSaid : Prop := Claim7.holds Tryz.pinned (.plain (OpenSpec.upto fnStreamOutSpec)) fnStreamOutUptoCard

/-- THE SECOND FORM's CARD OF 'laws.FnPutGap'. -/
def fnPutGapUptoCard : Claim7 := { stood := { row := fnPutGapUptoRow, standIns := [], harness := (true, "516cadda3e41c4ec883172ad4d8945b49a243c3c077d8e06e7a205076c2cd03e"), looks := true }, kinds := [], alts := [], laidByText := true, laidKinds := [.data, .data, .data, .sentinel, .sentinel], laidTests := true, laidLooks := .later }
def FnPutGapUptoCardSaid : Prop := Claim7.holds Tryz.pinned (.plain (OpenSpec.upto fnPutGapSpec)) fnPutGapUptoCard

/-- THE SECOND FORM's CARD OF 'laws.FnPutIn'. -/
def fnPutInUptoCard : Claim7 := { stood := { row := fnPutInUptoRow, standIns := [], harness := (true, "516cadda3e41c4ec883172ad4d8945b49a243c3c077d8e06e7a205076c2cd03e"), looks := true }, kinds := [], alts := [], laidByText := true, laidKinds := [.data, .data, .data, .sentinel, .sentinel], laidTests := true, laidLooks := .later }
def FnPutInUptoCardSaid : Prop := Claim7.holds Tryz.pinned (.plain (OpenSpec.upto fnPutInSpec)) fnPutInUptoCard
end Rows
end Go.Proofs.YtcpdkicmmhnpcabGreatDoor

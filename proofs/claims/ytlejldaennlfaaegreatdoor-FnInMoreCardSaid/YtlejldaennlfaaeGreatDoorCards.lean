/-
  DERIVED. GIVEN WITH THE SEED: THE CARDS: each row of YtlejldaennlfaaeGreatDoorRows.lean that lists a variable, with what it lists TIED to the program's text (the seventh form; the later family's looks); each row that meets fmt, with fmt's text TOLD by the authors' own Lean function (tested against real Go, not proved from fmt's source: count such statements apart). THE CARD IS WHAT COUNTS. Prove the row's statement (the work); the ties are given (YtlejldaennlfaaeGreatDoorTie.lean); close each card by the builder's one call (the guide's Derived/Test/ToyasCard.lean, 'card_holds'). Laid BY PROGRAM, IN A SANDBOX (cutbox-door.mjs). By AI agents, Wed Nov 11 2026. No macro, syntax, notation, axiom, sorry.
-/
import Derived.Test.YtlejldaennlfaaeGreatDoorRows
import GoSem.ClaimSeven
namespace Go.Proofs.YtlejldaennlfaaeGreatDoor
namespace Rows

/-- THE TIED CARD OF 'laws.FnTextPlain'. -/
def fnTextPlainCard : Claim7 := { stood := { row := fnTextPlainRow, standIns := [], harness := (true, "5d8851a89071e557c91d3df4130602d7a9cc005edf6e4a985bc8f534492d3540"), looks := true }, kinds := [], alts := [], laidByText := true, laidKinds := [.data, .data, .data, .sentinel, .sentinel], laidTests := true, laidLooks := .later }
def FnTextPlainCardSaid : Prop := Claim7.holds Tryz.pinned (.plain (OpenSpec.ofChange fnTextPlainSpec)) fnTextPlainCard

/-- THE TIED CARD OF 'laws.FnTextIn'. -/
def fnTextInCard : Claim7 := { stood := { row := fnTextInRow, standIns := [], harness := (true, "5d8851a89071e557c91d3df4130602d7a9cc005edf6e4a985bc8f534492d3540"), looks := true }, kinds := [], alts := [], laidByText := true, laidKinds := [.data, .data, .data, .sentinel, .sentinel], laidTests := true, laidLooks := .later }
def FnTextInCardSaid : Prop := Claim7.holds Tryz.pinned (.plain (OpenSpec.ofChange fnTextInSpec)) fnTextInCard

/-- THE TIED CARD OF 'laws.FnOutTwice'. -/
def fnOutTwiceCard : Claim7 := { stood := { row := fnOutTwiceRow, standIns := [], harness := (true, "5d8851a89071e557c91d3df4130602d7a9cc005edf6e4a985bc8f534492d3540"), looks := true }, kinds := [], alts := [], laidByText := true, laidKinds := [.data, .data, .data, .sentinel, .sentinel], laidTests := true, laidLooks := .later }
def FnOutTwiceCardSaid : Prop := Claim7.holds Tryz.pinned (.plain (OpenSpec.ofChange fnOutTwiceSpec)) fnOutTwiceCard

/-- THE TIED CARD OF 'laws.FnOutAgain'. -/
def fnOutAgainCard : Claim7 := { stood := { row := fnOutAgainRow, standIns := [], harness := (true, "5d8851a89071e557c91d3df4130602d7a9cc005edf6e4a985bc8f534492d3540"), looks := true }, kinds := [], alts := [], laidByText := true, laidKinds := [.data, .data, .data, .sentinel, .sentinel], laidTests := true, laidLooks := .later }
def FnOutAgainCardSaid : Prop := Claim7.holds Tryz.pinned (.plain (OpenSpec.ofChange fnOutAgainSpec)) fnOutAgainCard

/-- THE TIED CARD OF 'laws.FnOutLong'. -/
def fnOutLongCard : Claim7 := { stood := { row := fnOutLongRow, standIns := [], harness := (true, "5d8851a89071e557c91d3df4130602d7a9cc005edf6e4a985bc8f534492d3540"), looks := true }, kinds := [], alts := [], laidByText := true, laidKinds := [.data, .data, .data, .sentinel, .sentinel], laidTests := true, laidLooks := .later }
def FnOutLongCardSaid : Prop := Claim7.holds Tryz.pinned (.plain (OpenSpec.ofChange fnOutLongSpec)) fnOutLongCard

/-- THE TIED CARD OF 'laws.FnInMore'. -/
def fnInMoreCard : Claim7 := { stood := { row := fnInMoreRow, standIns := [], harness := (true, "5d8851a89071e557c91d3df4130602d7a9cc005edf6e4a985bc8f534492d3540"), looks := true }, kinds := [], alts := [], laidByText := true, laidKinds := [.data, .data, .data, .sentinel, .sentinel], laidTests := true, laidLooks := .later }
def FnInMoreCardSaid : Prop := Claim7.holds Tryz.pinned (.plain (OpenSpec.ofChange fnInMoreSpec)) fnInMoreCard

/-- THE SECOND FORM's CARD OF 'laws.FnTextPlain'. -/
def fnTextPlainUptoCard : Claim7 := { stood := { row := fnTextPlainUptoRow, standIns := [], harness := (true, "5d8851a89071e557c91d3df4130602d7a9cc005edf6e4a985bc8f534492d3540"), looks := true }, kinds := [], alts := [], laidByText := true, laidKinds := [.data, .data, .data, .sentinel, .sentinel], laidTests := true, laidLooks := .later }
def FnTextPlainUptoCardSaid : Prop := Claim7.holds Tryz.pinned (.plain (OpenSpec.upto fnTextPlainSpec)) fnTextPlainUptoCard

/-- THE SECOND FORM's CARD OF 'laws.FnTextIn'. -/
def fnTextInUptoCard : Claim7 := { stood := { row := fnTextInUptoRow, standIns := [], harness := (true, "5d8851a89071e557c91d3df4130602d7a9cc005edf6e4a985bc8f534492d3540"), looks := true }, kinds := [], alts := [], laidByText := true, laidKinds := [.data, .data, .data, .sentinel, .sentinel], laidTests := true, laidLooks := .later }
def FnTextInUptoCardSaid : Prop := Claim7.holds Tryz.pinned (.plain (OpenSpec.upto fnTextInSpec)) fnTextInUptoCard

/-- THE SECOND FORM's CARD OF 'laws.FnOutTwice'. -/
def fnOutTwiceUptoCard : Claim7 := { stood := { row := fnOutTwiceUptoRow, standIns := [], harness := (true, "5d8851a89071e557c91d3df4130602d7a9cc005edf6e4a985bc8f534492d3540"), looks := true }, kinds := [], alts := [], laidByText := true, laidKinds := [.data, .data, .data, .sentinel, .sentinel], laidTests := true, laidLooks := .later }
def FnOutTwiceUptoCardSaid : Prop := Claim7.holds Tryz.pinned (.plain (OpenSpec.upto fnOutTwiceSpec)) fnOutTwiceUptoCard

/-- THE SECOND FORM's CARD OF 'laws.FnOutAgain'. -/
def fnOutAgainUptoCard : Claim7 := { stood := { row := fnOutAgainUptoRow, standIns := [], harness := (true, "5d8851a89071e557c91d3df4130602d7a9cc005edf6e4a985bc8f534492d3540"), looks := true }, kinds := [], alts := [], laidByText := true, laidKinds := [.data, .data, .data, .sentinel, .sentinel], laidTests := true, laidLooks := .later }
def FnOutAgainUptoCardSaid : Prop := Claim7.holds Tryz.pinned (.plain (OpenSpec.upto fnOutAgainSpec)) fnOutAgainUptoCard

/-- THE SECOND FORM's CARD OF 'laws.FnOutLong'. -/
def fnOutLongUptoCard : Claim7 := { stood := { row := fnOutLongUptoRow, standIns := [], harness := (true, "5d8851a89071e557c91d3df4130602d7a9cc005edf6e4a985bc8f534492d3540"), looks := true }, kinds := [], alts := [], laidByText := true, laidKinds := [.data, .data, .data, .sentinel, .sentinel], laidTests := true, laidLooks := .later }
def FnOutLongUptoCardSaid : Prop := Claim7.holds Tryz.pinned (.plain (OpenSpec.upto fnOutLongSpec)) fnOutLongUptoCard

/-- THE SECOND FORM's CARD OF 'laws.FnInMore'. -/
def fnInMoreUptoCard : Claim7 := { stood := { row := fnInMoreUptoRow, standIns := [], harness := (true, "5d8851a89071e557c91d3df4130602d7a9cc005edf6e4a985bc8f534492d3540"), looks := true }, kinds := [], alts := [], laidByText := true, laidKinds := [.data, .data, .data, .sentinel, .sentinel], laidTests := true, laidLooks := .later }
def FnInMoreUptoCardSaid : Prop := Claim7.holds Tryz.pinned (.plain (OpenSpec.upto fnInMoreSpec)) fnInMoreUptoCard
end Rows
end Go.Proofs.YtlejldaennlfaaeGreatDoor

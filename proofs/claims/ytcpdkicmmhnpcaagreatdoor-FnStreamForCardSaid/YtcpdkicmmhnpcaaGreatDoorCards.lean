/-
  DERIVED. GIVEN WITH THE SEED: THE CARDS: each row of YtcpdkicmmhnpcaaGreatDoorRows.lean that lists a variable, with what it lists TIED to the program's text (the seventh form; the later family's looks); each row that meets fmt, with fmt's text TOLD by the authors' own Lean function (tested against real Go, not proved from fmt's source: count such statements apart). THE CARD IS WHAT COUNTS. Prove the row's statement (the work); the ties are given (YtcpdkicmmhnpcaaGreatDoorTie.lean); close each card by the builder's one call (the guide's Derived/Test/ToyasCard.lean, 'card_holds'). Laid BY PROGRAM, IN A SANDBOX (cutbox-door.mjs). By AI agents, Wed Nov 11 2026. No macro, syntax, notation, axiom, sorry.
-/
import Derived.Test.YtcpdkicmmhnpcaaGreatDoorRows
import GoSem.ClaimSeven
namespace Go.Proofs.YtcpdkicmmhnpcaaGreatDoor
namespace Rows

/-- THE TIED CARD OF 'laws.FnPutMore'. -/
def fnPutMoreCard : Claim7 := { stood := { row := fnPutMoreRow, standIns := [], harness := (true, "033a0ffd9eae979904308ad506baa1c039ee2d58af4e3024e9a4428a052ea173"), looks := true }, kinds := [], alts := [], laidByText := true, laidKinds := [.data, .data, .data, .sentinel, .sentinel], laidTests := true, laidLooks := .later }
def FnPutMoreCardSaid : Prop := Claim7.holds Tryz.pinned (.plain (OpenSpec.ofChange fnPutMoreSpec)) fnPutMoreCard

/-- THE TIED CARD OF 'laws.FnPutTwice'. -/
def fnPutTwiceCard : Claim7 := { stood := { row := fnPutTwiceRow, standIns := [], harness := (true, "033a0ffd9eae979904308ad506baa1c039ee2d58af4e3024e9a4428a052ea173"), looks := true }, kinds := [], alts := [], laidByText := true, laidKinds := [.data, .data, .data, .sentinel, .sentinel], laidTests := true, laidLooks := .later }
def FnPutTwiceCardSaid : Prop := Claim7.holds Tryz.pinned (.plain (OpenSpec.ofChange fnPutTwiceSpec)) fnPutTwiceCard

/-- THE TIED CARD OF 'laws.FnPutParts'. -/
def fnPutPartsCard : Claim7 := { stood := { row := fnPutPartsRow, standIns := [], harness := (true, "033a0ffd9eae979904308ad506baa1c039ee2d58af4e3024e9a4428a052ea173"), looks := true }, kinds := [], alts := [], laidByText := true, laidKinds := [.data, .data, .data, .sentinel, .sentinel], laidTests := true, laidLooks := .later }
def FnPutPartsCardSaid : Prop := Claim7.holds Tryz.pinned (.plain (OpenSpec.ofChange fnPutPartsSpec)) fnPutPartsCard

/-- THE TIED CARD OF 'laws.FnPutText'. -/
def fnPutTextCard : Claim7 := { stood := { row := fnPutTextRow, standIns := [], harness := (true, "033a0ffd9eae979904308ad506baa1c039ee2d58af4e3024e9a4428a052ea173"), looks := true }, kinds := [], alts := [], laidByText := true, laidKinds := [.data, .data, .data, .sentinel, .sentinel], laidTests := true, laidLooks := .later }
def FnPutTextCardSaid : Prop := Claim7.holds Tryz.pinned (.plain (OpenSpec.ofChange fnPutTextSpec)) fnPutTextCard

/-- THE TIED CARD OF 'laws.FnStreamFor'. -/
def fnStreamForCard : Claim7 := { stood := { row := fnStreamForRow, standIns := [], harness := (true, "033a0ffd9eae979904308ad506baa1c039ee2d58af4e3024e9a4428a052ea173"), looks := true }, kinds := [], alts := [], laidByText := true, laidKinds := [.data, .data, .data, .sentinel, .sentinel], laidTests := true, laidLooks := .later }
def FnStreamForCardSaid : Prop := Claim7.holds Tryz.pinned (.plain (OpenSpec.ofChange fnStreamForSpec)) fnStreamForCard

/-- THE SECOND FORM's CARD OF 'laws.FnPutMore'. -/
def fnPutMoreUptoCard : Claim7 := { stood := { row := fnPutMoreUptoRow, standIns := [], harness := (true, "033a0ffd9eae979904308ad506baa1c039ee2d58af4e3024e9a4428a052ea173"), looks := true }, kinds := [], alts := [], laidByText := true, laidKinds := [.data, .data, .data, .sentinel, .sentinel], laidTests := true, laidLooks := .later }
def FnPutMoreUptoCardSaid : Prop := Claim7.holds Tryz.pinned (.plain (OpenSpec.upto fnPutMoreSpec)) fnPutMoreUptoCard

/-- THE SECOND FORM's CARD OF 'laws.FnPutTwice'. -/
def fnPutTwiceUptoCard : Claim7 := { stood := { row := fnPutTwiceUptoRow, standIns := [], harness := (true, "033a0ffd9eae979904308ad506baa1c039ee2d58af4e3024e9a4428a052ea173"), looks := true }, kinds := [], alts := [], laidByText := true, laidKinds := [.data, .data, .data, .sentinel, .sentinel], laidTests := true, laidLooks := .later }
def FnPutTwiceUptoCardSaid : Prop := Claim7.holds Tryz.pinned (.plain (OpenSpec.upto fnPutTwiceSpec)) fnPutTwiceUptoCard

/-- THE SECOND FORM's CARD OF 'laws.FnPutParts'. -/
def fnPutPartsUptoCard : Claim7 := { stood := { row := fnPutPartsUptoRow, standIns := [], harness := (true, "033a0ffd9eae979904308ad506baa1c039ee2d58af4e3024e9a4428a052ea173"), looks := true }, kinds := [], alts := [], laidByText := true, laidKinds := [.data, .data, .data, .sentinel, .sentinel], laidTests := true, laidLooks := .later }
def FnPutPartsUptoCardSaid : Prop := Claim7.holds Tryz.pinned (.plain (OpenSpec.upto fnPutPartsSpec)) fnPutPartsUptoCard

/-- THE SECOND FORM's CARD OF 'laws.FnPutText'. -/
def fnPutTextUptoCard : Claim7 := { stood := { row := fnPutTextUptoRow, standIns := [], harness := (true, "033a0ffd9eae979904308ad506baa1c039ee2d58af4e3024e9a4428a052ea173"), looks := true }, kinds := [], alts := [], laidByText := true, laidKinds := [.data, .data, .data, .sentinel, .sentinel], laidTests := true, laidLooks := .later }
def FnPutTextUptoCardSaid : Prop := Claim7.holds Tryz.pinned (.plain (OpenSpec.upto fnPutTextSpec)) fnPutTextUptoCard

/-- THE SECOND FORM's CARD OF 'laws.FnStreamFor'. -/
def fnStreamForUptoCard : Claim7 := { stood := { row := fnStreamForUptoRow, standIns := [], harness := (true, "033a0ffd9eae979904308ad506baa1c039ee2d58af4e3024e9a4428a052ea173"), looks := true }, kinds := [], alts := [], laidByText := true, laidKinds := [.data, .data, .data, .sentinel, .sentinel], laidTests := true, laidLooks := .later }
def FnStreamForUptoCardSaid : Prop := Claim7.holds Tryz.pinned (.plain (OpenSpec.upto fnStreamForSpec)) fnStreamForUptoCard
end Rows
end Go.Proofs.YtcpdkicmmhnpcaaGreatDoor

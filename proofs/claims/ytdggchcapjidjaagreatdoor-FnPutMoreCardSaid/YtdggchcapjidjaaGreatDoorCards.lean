/-
  DERIVED. GIVEN WITH THE SEED: THE CARDS: each row of YtdggchcapjidjaaGreatDoorRows.lean that lists a variable, with what it lists TIED to the program's text (the seventh form; the later family's looks); each row that meets fmt, with fmt's text TOLD by the authors' own Lean function (tested against real Go, not proved from fmt's source: count such statements apart). THE CARD IS WHAT COUNTS. Prove the row's statement (the work); the ties are given (YtdggchcapjidjaaGreatDoorTie.lean); close each card by the builder's one call (the guide's Derived/Test/ToyasCard.lean, 'card_holds'). Laid BY PROGRAM, IN A SANDBOX (cutbox-door.mjs). By AI agents, Wed Nov 11 2026. No macro, syntax, notation, axiom, sorry.
-/
import Derived.Test.YtdggchcapjidjaaGreatDoorRows
import GoSem.ClaimSeven
namespace Go.Proofs.YtdggchcapjidjaaGreatDoor
namespace Rows

/-- THE TIED CARD OF 'laws.FnPutMore'. -/
def fnPutMoreCard : Claim7 := { stood := { row := fnPutMoreRow, standIns := [], harness := (true, "eafe446d8da12cdfc3065a426fc5a04a43af1ce2bbd441e2afde2ccea35f49d6"), looks := true }, kinds := [], alts := [], laidByText := true, laidKinds := [.data, .data, .data, .sentinel, .sentinel], laidTests := true, laidLooks := .later }
def FnPutMoreCardSaid : Prop := Claim7.holds Tryz.pinned (.plain (OpenSpec.ofChange fnPutMoreSpec)) fnPutMoreCard

/-- THE TIED CARD OF 'laws.FnPutTwice'. -/
def fnPutTwiceCard : Claim7 := { stood := { row := fnPutTwiceRow, standIns := [], harness := (true, "eafe446d8da12cdfc3065a426fc5a04a43af1ce2bbd441e2afde2ccea35f49d6"), looks := true }, kinds := [], alts := [], laidByText := true, laidKinds := [.data, .data, .data, .sentinel, .sentinel], laidTests := true, laidLooks := .later }
def FnPutTwiceCardSaid : Prop := Claim7.holds Tryz.pinned (.plain (OpenSpec.ofChange fnPutTwiceSpec)) fnPutTwiceCard

/-- THE TIED CARD OF 'laws.FnPutParts'. -/
def fnPutPartsCard : Claim7 := { stood := { row := fnPutPartsRow, standIns := [], harness := (true, "eafe446d8da12cdfc3065a426fc5a04a43af1ce2bbd441e2afde2ccea35f49d6"), looks := true }, kinds := [], alts := [], laidByText := true, laidKinds := [.data, .data, .data, .sentinel, .sentinel], laidTests := true, laidLooks := .later }
def FnPutPartsCardSaid : Prop := Claim7.holds Tryz.pinned (.plain (OpenSpec.ofChange fnPutPartsSpec)) fnPutPartsCard

/-- THE TIED CARD OF 'laws.FnPutText'. -/
def fnPutTextCard : Claim7 := { stood := { row := fnPutTextRow, standIns := [], harness := (true, "eafe446d8da12cdfc3065a426fc5a04a43af1ce2bbd441e2afde2ccea35f49d6"), looks := true }, kinds := [], alts := [], laidByText := true, laidKinds := [.data, .data, .data, .sentinel, .sentinel], laidTests := true, laidLooks := .later }
def FnPutTextCardSaid : Prop := Claim7.holds Tryz.pinned (.plain (OpenSpec.ofChange fnPutTextSpec)) fnPutTextCard

/-- THE TIED CARD OF 'laws.FnPutGap'. -/
def fnPutGapCard : Claim7 := { stood := { row := fnPutGapRow, standIns := [], harness := (true, "eafe446d8da12cdfc3065a426fc5a04a43af1ce2bbd441e2afde2ccea35f49d6"), looks := true }, kinds := [], alts := [], laidByText := true, laidKinds := [.data, .data, .data, .sentinel, .sentinel], laidTests := true, laidLooks := .later }
def FnPutGapCardSaid : Prop := Claim7.holds Tryz.pinned (.plain (OpenSpec.ofChange fnPutGapSpec)) fnPutGapCard

/-- THE TIED CARD OF 'laws.FnPutIn'. -/
def fnPutInCard : Claim7 := { stood := { row := fnPutInRow, standIns := [], harness := (true, "eafe446d8da12cdfc3065a426fc5a04a43af1ce2bbd441e2afde2ccea35f49d6"), looks := true }, kinds := [], alts := [], laidByText := true, laidKinds := [.data, .data, .data, .sentinel, .sentinel], laidTests := true, laidLooks := .later }
def FnPutInCardSaid : Prop := Claim7.holds Tryz.pinned (.plain (OpenSpec.ofChange fnPutInSpec)) fnPutInCard

/-- THE SECOND FORM's CARD OF 'laws.FnPutMore'. -/
def fnPutMoreUptoCard : Claim7 := { stood := { row := fnPutMoreUptoRow, standIns := [], harness := (true, "eafe446d8da12cdfc3065a426fc5a04a43af1ce2bbd441e2afde2ccea35f49d6"), looks := true }, kinds := [], alts := [], laidByText := true, laidKinds := [.data, .data, .data, .sentinel, .sentinel], laidTests := true, laidLooks := .later }
def FnPutMoreUptoCardSaid : Prop := Claim7.holds Tryz.pinned (.plain (OpenSpec.upto fnPutMoreSpec)) fnPutMoreUptoCard

/-- THE SECOND FORM's CARD OF 'laws.FnPutTwice'. -/
def fnPutTwiceUptoCard : Claim7 := { stood := { row := fnPutTwiceUptoRow, standIns := [], harness := (true, "eafe446d8da12cdfc3065a426fc5a04a43af1ce2bbd441e2afde2ccea35f49d6"), looks := true }, kinds := [], alts := [], laidByText := true, laidKinds := [.data, .data, .data, .sentinel, .sentinel], laidTests := true, laidLooks := .later }
def FnPutTwiceUptoCardSaid : Prop := Claim7.holds Tryz.pinned (.plain (OpenSpec.upto fnPutTwiceSpec)) fnPutTwiceUptoCard

/-- THE SECOND FORM's CARD OF 'laws.FnPutParts'. -/
def fnPutPartsUptoCard : Claim7 := { stood := { row := fnPutPartsUptoRow, standIns := [], harness := (true, "eafe446d8da12cdfc3065a426fc5a04a43af1ce2bbd441e2afde2ccea35f49d6"), looks := true }, kinds := [], alts := [], laidByText := true, laidKinds := [.data, .data, .data, .sentinel, .sentinel], laidTests := true, laidLooks := .later }
def FnPutPartsUptoCardSaid : Prop := Claim7.holds Tryz.pinned (.plain (OpenSpec.upto fnPutPartsSpec)) fnPutPartsUptoCard

/-- THE SECOND FORM's CARD OF 'laws.FnPutText'. -/
def fnPutTextUptoCard : Claim7 := { stood := { row := fnPutTextUptoRow, standIns := [], harness := (true, "eafe446d8da12cdfc3065a426fc5a04a43af1ce2bbd441e2afde2ccea35f49d6"), looks := true }, kinds := [], alts := [], laidByText := true, laidKinds := [.data, .data, .data, .sentinel, .sentinel], laidTests := true, laidLooks := .later }
def FnPutTextUptoCardSaid : Prop := Claim7.holds Tryz.pinned (.plain (OpenSpec.upto fnPutTextSpec)) fnPutTextUptoCard

/-- THE SECOND FORM's CARD OF 'laws.FnPutGap'. -/
def fnPutGapUptoCard : Claim7 := { stood := { row := fnPutGapUptoRow, standIns := [], harness := (true, "eafe446d8da12cdfc3065a426fc5a04a43af1ce2bbd441e2afde2ccea35f49d6"), looks := true }, kinds := [], alts := [], laidByText := true, laidKinds := [.data, .data, .data, .sentinel, .sentinel], laidTests := true, laidLooks := .later }
def FnPutGapUptoCardSaid : Prop := Claim7.holds Tryz.pinned (.plain (OpenSpec.upto fnPutGapSpec)) fnPutGapUptoCard

/-- THE SECOND FORM's CARD OF 'laws.FnPutIn'. -/
def fnPutInUptoCard : Claim7 := { stood := { row := fnPutInUptoRow, standIns := [], harness := (true, "eafe446d8da12cdfc3065a426fc5a04a43af1ce2bbd441e2afde2ccea35f49d6"), looks := true }, kinds := [], alts := [], laidByText := true, laidKinds := [.data, .data, .data, .sentinel, .sentinel], laidTests := true, laidLooks := .later }
def FnPutInUptoCardSaid : Prop := Claim7.holds Tryz.pinned (.plain (OpenSpec.upto fnPutInSpec)) fnPutInUptoCard
end Rows
end Go.Proofs.YtdggchcapjidjaaGreatDoor

/-
  DERIVED. GIVEN WITH THE SEED: THE CARDS: each row of YtfmjhbdbgcgoiaaGreatDoorRows.lean that lists a variable, with what it lists TIED to the program's text (the seventh form; the later family's looks); each row that meets fmt, with fmt's text TOLD by the authors' own Lean function (tested against real Go, not proved from fmt's source: count such statements apart). THE CARD IS WHAT COUNTS. Prove the row's statement (the work); the ties are given (YtfmjhbdbgcgoiaaGreatDoorTie.lean); close each card by the builder's one call (the guide's Derived/Test/ToyasCard.lean, 'card_holds'). Laid BY PROGRAM, IN A SANDBOX (cutbox-door.mjs). By AI agents, Wed Nov 11 2026. No macro, syntax, notation, axiom, sorry.
-/
import Derived.Test.YtfmjhbdbgcgoiaaGreatDoorRows
import GoSem.ClaimSeven
namespace Go.Proofs.YtfmjhbdbgcgoiaaGreatDoor
namespace Rows

/-- THE TIED CARD OF 'laws.FnExactDoorOk'. -/
def fnExactDoorOkCard : Claim7 := { stood := { row := fnExactDoorOkRow, standIns := [], harness := (true, "8dc70ff7ff9a172f02736b6e4e23ce123e25179a3091c05a372d7aad0b16f119"), looks := true }, kinds := [], alts := [], laidByText := true, laidKinds := [.data, .data, .data, .sentinel, .sentinel], laidTests := true, laidLooks := .later }
def FnExactDoorOkCardSaid : Prop := Claim7.holds Tryz.pinned (.plain (OpenSpec.ofChange fnExactDoorOkSpec)) fnExactDoorOkCard

/-- THE TIED CARD OF 'laws.FnExactDoorOut'. -/
def fnExactDoorOutCard : Claim7 := { stood := { row := fnExactDoorOutRow, standIns := [], harness := (true, "8dc70ff7ff9a172f02736b6e4e23ce123e25179a3091c05a372d7aad0b16f119"), looks := true }, kinds := [], alts := [], laidByText := true, laidKinds := [.data, .data, .data, .sentinel, .sentinel], laidTests := true, laidLooks := .later }
def FnExactDoorOutCardSaid : Prop := Claim7.holds Tryz.pinned (.plain (OpenSpec.ofChange fnExactDoorOutSpec)) fnExactDoorOutCard

/-- THE TIED CARD OF 'laws.FnExactDoorIn'. -/
def fnExactDoorInCard : Claim7 := { stood := { row := fnExactDoorInRow, standIns := [], harness := (true, "8dc70ff7ff9a172f02736b6e4e23ce123e25179a3091c05a372d7aad0b16f119"), looks := true }, kinds := [], alts := [], laidByText := true, laidKinds := [.data, .data, .data, .sentinel, .sentinel], laidTests := true, laidLooks := .later }
def FnExactDoorInCardSaid : Prop := Claim7.holds Tryz.pinned (.plain (OpenSpec.ofChange fnExactDoorInSpec)) fnExactDoorInCard

/-- THE TIED CARD OF 'laws.FnExactDoorPass'. -/
def fnExactDoorPassCard : Claim7 := { stood := { row := fnExactDoorPassRow, standIns := [], harness := (true, "8dc70ff7ff9a172f02736b6e4e23ce123e25179a3091c05a372d7aad0b16f119"), looks := true }, kinds := [], alts := [], laidByText := true, laidKinds := [.data, .data, .data, .sentinel, .sentinel], laidTests := true, laidLooks := .later }
def FnExactDoorPassCardSaid : Prop := Claim7.holds Tryz.pinned (.plain (OpenSpec.ofChange fnExactDoorPassSpec)) fnExactDoorPassCard

/-- THE SECOND FORM's CARD OF 'laws.FnExactDoorOk'. -/
def fnExactDoorOkUptoCard : Claim7 := { stood := { row := fnExactDoorOkUptoRow, standIns := [], harness := (true, "8dc70ff7ff9a172f02736b6e4e23ce123e25179a3091c05a372d7aad0b16f119"), looks := true }, kinds := [], alts := [], laidByText := true, laidKinds := [.data, .data, .data, .sentinel, .sentinel], laidTests := true, laidLooks := .later }
def FnExactDoorOkUptoCardSaid : Prop := Claim7.holds Tryz.pinned (.plain (OpenSpec.upto fnExactDoorOkSpec)) fnExactDoorOkUptoCard

/-- THE SECOND FORM's CARD OF 'laws.FnExactDoorOut'. -/
def fnExactDoorOutUptoCard : Claim7 := { stood := { row := fnExactDoorOutUptoRow, standIns := [], harness := (true, "8dc70ff7ff9a172f02736b6e4e23ce123e25179a3091c05a372d7aad0b16f119"), looks := true }, kinds := [], alts := [], laidByText := true, laidKinds := [.data, .data, .data, .sentinel, .sentinel], laidTests := true, laidLooks := .later }
def FnExactDoorOutUptoCardSaid : Prop := Claim7.holds Tryz.pinned (.plain (OpenSpec.upto fnExactDoorOutSpec)) fnExactDoorOutUptoCard

/-- THE SECOND FORM's CARD OF 'laws.FnExactDoorIn'. -/
def fnExactDoorInUptoCard : Claim7 := { stood := { row := fnExactDoorInUptoRow, standIns := [], harness := (true, "8dc70ff7ff9a172f02736b6e4e23ce123e25179a3091c05a372d7aad0b16f119"), looks := true }, kinds := [], alts := [], laidByText := true, laidKinds := [.data, .data, .data, .sentinel, .sentinel], laidTests := true, laidLooks := .later }
def FnExactDoorInUptoCardSaid : Prop := Claim7.holds Tryz.pinned (.plain (OpenSpec.upto fnExactDoorInSpec)) fnExactDoorInUptoCard

/-- THE SECOND FORM's CARD OF 'laws.FnExactDoorPass'. -/
def fnExactDoorPassUptoCard : Claim7 := { stood := { row := fnExactDoorPassUptoRow, standIns := [], harness := (true, "8dc70ff7ff9a172f02736b6e4e23ce123e25179a3091c05a372d7aad0b16f119"), looks := true }, kinds := [], alts := [], laidByText := true, laidKinds := [.data, .data, .data, .sentinel, .sentinel], laidTests := true, laidLooks := .later }
def FnExactDoorPassUptoCardSaid : Prop := Claim7.holds Tryz.pinned (.plain (OpenSpec.upto fnExactDoorPassSpec)) fnExactDoorPassUptoCard
end Rows
end Go.Proofs.YtfmjhbdbgcgoiaaGreatDoor

/-
  DERIVED. GIVEN WITH THE SEED: THE CARDS: each row of YtcpdkicmmhnpcacDoorRows.lean that lists a variable, with what it lists TIED to the program's text (the seventh form; the later family's looks); each row that meets fmt, with fmt's text TOLD by the authors' own Lean function (tested against real Go, not proved from fmt's source: count such statements apart). THE CARD IS WHAT COUNTS. Prove the row's statement (the work); the ties are given (YtcpdkicmmhnpcacDoorTie.lean); close each card by the builder's one call (the guide's Derived/Test/ToyasCard.lean, 'card_holds'). Laid BY PROGRAM, IN A SANDBOX (cutbox-door.mjs). By AI agents, Wed Nov 11 2026. No macro, syntax, notation, axiom, sorry.
-/
import Derived.Test.YtcpdkicmmhnpcacDoorRows
import GoSem.ClaimSeven
namespace Go.Proofs.YtcpdkicmmhnpcacDoor
namespace Rows

/-- THE TIED CARD OF 'laws.FnExactStreamOk'. -/
def fnExactStreamOkCard : Claim7 := { stood := { row := fnExactStreamOkRow, standIns := [], harness := (true, "c2324387d6fc364a74387b97751b89336d92d5417980a60110fc55d9518a0651"), looks := true }, kinds := [], alts := [], laidByText := true, laidKinds := [.data, .data, .data, .sentinel, .sentinel], laidTests := true, laidLooks := .later }
def FnExactStreamOkCardSaid : Prop := Claim7.holds Tryd.pinned (.plain (OpenSpec.ofChange fnExactStreamOkSpec)) fnExactStreamOkCard

/-- THE TIED CARD OF 'laws.FnExactStreamOut'. -/
def fnExactStreamOutCard : Claim7 := { stood := { row := fnExactStreamOutRow, standIns := [], harness := (true, "c2324387d6fc364a74387b97751b89336d92d5417980a60110fc55d9518a0651"), looks := true }, kinds := [], alts := [], laidByText := true, laidKinds := [.data, .data, .data, .sentinel, .sentinel], laidTests := true, laidLooks := .later }
def FnExactStreamOutCardSaid : Prop := Claim7.holds Tryd.pinned (.plain (OpenSpec.ofChange fnExactStreamOutSpec)) fnExactStreamOutCard

/-- THE TIED CARD OF 'laws.FnExactStreamFor'. -/
def fnExactStreamForCard : Claim7 := { stood := { row := fnExactStreamForRow, standIns := [], harness := (true, "c2324387d6fc364a74387b97751b89336d92d5417980a60110fc55d9518a0651"), looks := true }, kinds := [], alts := [], laidByText := true, laidKinds := [.data, .data, .data, .sentinel, .sentinel], laidTests := true, laidLooks := .later }
def FnExactStreamForCardSaid : Prop := Claim7.holds Tryd.pinned (.plain (OpenSpec.ofChange fnExactStreamForSpec)) fnExactStreamForCard

/-- THE SECOND FORM's CARD OF 'laws.FnExactStreamOk'. -/
def fnExactStreamOkUptoCard : Claim7 := { stood := { row := fnExactStreamOkUptoRow, standIns := [], harness := (true, "c2324387d6fc364a74387b97751b89336d92d5417980a60110fc55d9518a0651"), looks := true }, kinds := [], alts := [], laidByText := true, laidKinds := [.data, .data, .data, .sentinel, .sentinel], laidTests := true, laidLooks := .later }
def FnExactStreamOkUptoCardSaid : Prop := Claim7.holds Tryd.pinned (.plain (OpenSpec.upto fnExactStreamOkSpec)) fnExactStreamOkUptoCard

/-- THE SECOND FORM's CARD OF 'laws.FnExactStreamOut'. -/
def fnExactStreamOutUptoCard : Claim7 := { stood := { row := fnExactStreamOutUptoRow, standIns := [], harness := (true, "c2324387d6fc364a74387b97751b89336d92d5417980a60110fc55d9518a0651"), looks := true }, kinds := [], alts := [], laidByText := true, laidKinds := [.data, .data, .data, .sentinel, .sentinel], laidTests := true, laidLooks := .later }
def FnExactStreamOutUptoCardSaid : Prop := Claim7.holds Tryd.pinned (.plain (OpenSpec.upto fnExactStreamOutSpec)) fnExactStreamOutUptoCard

/-- THE SECOND FORM's CARD OF 'laws.FnExactStreamFor'. -/
def fnExactStreamForUptoCard : Claim7 := { stood := { row := fnExactStreamForUptoRow, standIns := [], harness := (true, "c2324387d6fc364a74387b97751b89336d92d5417980a60110fc55d9518a0651"), looks := true }, kinds := [], alts := [], laidByText := true, laidKinds := [.data, .data, .data, .sentinel, .sentinel], laidTests := true, laidLooks := .later }
def FnExactStreamForUptoCardSaid : Prop := Claim7.holds Tryd.pinned (.plain (OpenSpec.upto fnExactStreamForSpec)) fnExactStreamForUptoCard
end Rows
end Go.Proofs.YtcpdkicmmhnpcacDoor

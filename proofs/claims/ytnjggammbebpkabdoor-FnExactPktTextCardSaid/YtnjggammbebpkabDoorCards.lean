/-
  DERIVED. GIVEN WITH THE SEED: THE CARDS: each row of YtnjggammbebpkabDoorRows.lean that lists a variable, with what it lists TIED to the program's text (the seventh form; the later family's looks); each row that meets fmt, with fmt's text TOLD by the authors' own Lean function (tested against real Go, not proved from fmt's source: count such statements apart). THE CARD IS WHAT COUNTS. Prove the row's statement (the work); the ties are given (YtnjggammbebpkabDoorTie.lean); close each card by the builder's one call (the guide's Derived/Test/ToyasCard.lean, 'card_holds'). Laid BY PROGRAM, IN A SANDBOX (cutbox-door.mjs). By AI agents, Wed Nov 11 2026. No macro, syntax, notation, axiom, sorry.
-/
import Derived.Test.YtnjggammbebpkabDoorRows
import GoSem.ClaimSeven
namespace Go.Proofs.YtnjggammbebpkabDoor
namespace Rows

/-- THE TIED CARD OF 'laws.FnExactPktText'. -/
def fnExactPktTextCard : Claim7 := { stood := { row := fnExactPktTextRow, standIns := [], harness := (true, "1814b94042faf7b54f9cfb9ee4eb3eadc151c07345c14596773b6980d74eec30"), looks := true }, kinds := [], alts := [], laidByText := true, laidKinds := [.data, .data, .data], laidTests := true, laidLooks := .later }
def FnExactPktTextCardSaid : Prop := Claim7.holds Tryd.pinned (.plain (OpenSpec.ofChange fnExactPktTextSpec)) fnExactPktTextCard

/-- THE SECOND FORM's CARD OF 'laws.FnExactPktText'. -/
def fnExactPktTextUptoCard : Claim7 := { stood := { row := fnExactPktTextUptoRow, standIns := [], harness := (true, "1814b94042faf7b54f9cfb9ee4eb3eadc151c07345c14596773b6980d74eec30"), looks := true }, kinds := [], alts := [], laidByText := true, laidKinds := [.data, .data, .data], laidTests := true, laidLooks := .later }
def FnExactPktTextUptoCardSaid : Prop := Claim7.holds Tryd.pinned (.plain (OpenSpec.upto fnExactPktTextSpec)) fnExactPktTextUptoCard
end Rows
end Go.Proofs.YtnjggammbebpkabDoor

/-
  DERIVED. GIVEN WITH THE SEED: THE CARDS: each row of YtcpdkicmmhnpcaaDoorRows.lean that lists a variable, with what it lists TIED to the program's text (the seventh form; the later family's looks); each row that meets fmt, with fmt's text TOLD by the authors' own Lean function (tested against real Go, not proved from fmt's source: count such statements apart). THE CARD IS WHAT COUNTS. Prove the row's statement (the work); the ties are given (YtcpdkicmmhnpcaaDoorTie.lean); close each card by the builder's one call (the guide's Derived/Test/ToyasCard.lean, 'card_holds'). Laid BY PROGRAM, IN A SANDBOX (cutbox-door.mjs). By AI agents, Wed Nov 11 2026. No macro, syntax, notation, axiom, sorry.
-/
import Derived.Test.YtcpdkicmmhnpcaaDoorRows
import GoSem.ClaimSeven
namespace Go.Proofs.YtcpdkicmmhnpcaaDoor
namespace Rows

/-- THE TIED CARD OF 'laws.FnPiecesAll'. -/
def fnPiecesAllCard : Claim7 := { stood := { row := fnPiecesAllRow, standIns := [], harness := (true, "857838acd081f0d25d30c313c7f9180c7d363bdd45a945f32a1f11cff7ab27b9"), looks := true }, kinds := [], alts := [], laidByText := true, laidKinds := [.data, .data, .data, .sentinel, .sentinel], laidTests := true, laidLooks := .later }
def FnPiecesAllCardSaid : Prop := Claim7.holds Tryd.pinned (.plain (OpenSpec.ofChange fnPiecesAllSpec)) fnPiecesAllCard

/-- THE SECOND FORM's CARD OF 'laws.FnPiecesAll'. -/
def fnPiecesAllUptoCard : Claim7 := { stood := { row := fnPiecesAllUptoRow, standIns := [], harness := (true, "857838acd081f0d25d30c313c7f9180c7d363bdd45a945f32a1f11cff7ab27b9"), looks := true }, kinds := [], alts := [], laidByText := true, laidKinds := [.data, .data, .data, .sentinel, .sentinel], laidTests := true, laidLooks := .later }
def FnPiecesAllUptoCardSaid : Prop := Claim7.holds Tryd.pinned (.plain (OpenSpec.upto fnPiecesAllSpec)) fnPiecesAllUptoCard
end Rows
end Go.Proofs.YtcpdkicmmhnpcaaDoor

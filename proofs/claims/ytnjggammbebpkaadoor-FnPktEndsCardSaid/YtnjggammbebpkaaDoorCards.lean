/-
  DERIVED. GIVEN WITH THE SEED: THE CARDS: each row of YtnjggammbebpkaaDoorRows.lean that lists a variable, with what it lists TIED to the program's text (the seventh form; the later family's looks); each row that meets fmt, with fmt's text TOLD by the authors' own Lean function (tested against real Go, not proved from fmt's source: count such statements apart). THE CARD IS WHAT COUNTS. Prove the row's statement (the work); the ties are given (YtnjggammbebpkaaDoorTie.lean); close each card by the builder's one call (the guide's Derived/Test/ToyasCard.lean, 'card_holds'). Laid BY PROGRAM, IN A SANDBOX (cutbox-door.mjs). By AI agents, Wed Nov 11 2026. No macro, syntax, notation, axiom, sorry.
-/
import Derived.Test.YtnjggammbebpkaaDoorRows
import GoSem.ClaimSeven
namespace Go.Proofs.YtnjggammbebpkaaDoor
namespace Rows

/-- THE TIED CARD OF 'laws.FnPktOne'. -/
def fnPktOneCard : Claim7 := { stood := { row := fnPktOneRow, standIns := [], harness := (true, "1da444d5b545594fa6eb78ee6a9d630d05d8dc6b33b5312a29af61d105dd78c2"), looks := true }, kinds := [], alts := [], laidByText := true, laidKinds := [.data, .data, .data], laidTests := true, laidLooks := .later }
def FnPktOneCardSaid : Prop := Claim7.holds Tryd.pinned (.plain (OpenSpec.ofChange fnPktOneSpec)) fnPktOneCard

/-- THE TIED CARD OF 'laws.FnPktEnds'. -/
def fnPktEndsCard : Claim7 := { stood := { row := fnPktEndsRow, standIns := [], harness := (true, "1da444d5b545594fa6eb78ee6a9d630d05d8dc6b33b5312a29af61d105dd78c2"), looks := true }, kinds := [], alts := [], laidByText := true, laidKinds := [.data, .data, .data], laidTests := true, laidLooks := .later }
def FnPktEndsCardSaid : Prop := Claim7.holds Tryd.pinned (.plain (OpenSpec.ofChange fnPktEndsSpec)) fnPktEndsCard

/-- THE SECOND FORM's CARD OF 'laws.FnPktOne'. -/
def fnPktOneUptoCard : Claim7 := { stood := { row := fnPktOneUptoRow, standIns := [], harness := (true, "1da444d5b545594fa6eb78ee6a9d630d05d8dc6b33b5312a29af61d105dd78c2"), looks := true }, kinds := [], alts := [], laidByText := true, laidKinds := [.data, .data, .data], laidTests := true, laidLooks := .later }
def FnPktOneUptoCardSaid : Prop := Claim7.holds Tryd.pinned (.plain (OpenSpec.upto fnPktOneSpec)) fnPktOneUptoCard

/-- THE SECOND FORM's CARD OF 'laws.FnPktEnds'. -/
def fnPktEndsUptoCard : Claim7 := { stood := { row := fnPktEndsUptoRow, standIns := [], harness := (true, "1da444d5b545594fa6eb78ee6a9d630d05d8dc6b33b5312a29af61d105dd78c2"), looks := true }, kinds := [], alts := [], laidByText := true, laidKinds := [.data, .data, .data], laidTests := true, laidLooks := .later }
def FnPktEndsUptoCardSaid : Prop := Claim7.holds Tryd.pinned (.plain (OpenSpec.upto fnPktEndsSpec)) fnPktEndsUptoCard
end Rows
end Go.Proofs.YtnjggammbebpkaaDoor

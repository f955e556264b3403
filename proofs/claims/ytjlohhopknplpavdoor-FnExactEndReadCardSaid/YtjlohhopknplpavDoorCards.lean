/-
  DERIVED. GIVEN WITH THE SEED: THE CARDS: each row of YtjlohhopknplpavDoorRows.lean that lists a variable, with what it lists TIED to the program's text (the seventh form; the later family's looks); each row that meets fmt, with fmt's text TOLD by the authors' own Lean function (tested against real Go, not proved from fmt's source: count such statements apart). THE CARD IS WHAT COUNTS. Prove the row's statement (the work); the ties are given (YtjlohhopknplpavDoorTie.lean); close each card by the builder's one call (the guide's Derived/Test/ToyasCard.lean, 'card_holds'). Laid BY PROGRAM, IN A SANDBOX (cutbox-door.mjs). By AI agents, Wed Nov 11 2026. No macro, syntax, notation, axiom, sorry.
-/
import Derived.Test.YtjlohhopknplpavDoorRows
import GoSem.ClaimSeven
namespace Go.Proofs.YtjlohhopknplpavDoor
namespace Rows

/-- THE TIED CARD OF 'laws.FnExactEndText'. -/
def fnExactEndTextCard : Claim7 := { stood := { row := fnExactEndTextRow, standIns := [], harness := (true, "1509a633394ce40b2884df7c674c865f63788a3de674b7471baa4b9aabfedfe2"), looks := true }, kinds := [], alts := [], laidByText := true, laidKinds := [.data, .data, .data], laidTests := true, laidLooks := .later }
def FnExactEndTextCardSaid : Prop := Claim7.holds Tryd.pinned (.plain (OpenSpec.ofChange fnExactEndTextSpec)) fnExactEndTextCard

/-- THE TIED CARD OF 'laws.FnExactEndRead'. -/
def fnExactEndReadCard : Claim7 := { stood := { row := fnExactEndReadRow, standIns := [], harness := (true, "1509a633394ce40b2884df7c674c865f63788a3de674b7471baa4b9aabfedfe2"), looks := true }, kinds := [], alts := [], laidByText := true, laidKinds := [.data, .data, .data, .sentinel, .sentinel], laidTests := true, laidLooks := .later }
def FnExactEndReadCardSaid : Prop := Claim7.holds Tryd.pinned (.plain (OpenSpec.ofChange fnExactEndReadSpec)) fnExactEndReadCard

/-- THE SECOND FORM's CARD OF 'laws.FnExactEndText'. -/
def fnExactEndTextUptoCard : Claim7 := { stood := { row := fnExactEndTextUptoRow, standIns := [], harness := (true, "1509a633394ce40b2884df7c674c865f63788a3de674b7471baa4b9aabfedfe2"), looks := true }, kinds := [], alts := [], laidByText := true, laidKinds := [.data, .data, .data], laidTests := true, laidLooks := .later }
def FnExactEndTextUptoCardSaid : Prop := Claim7.holds Tryd.pinned (.plain (OpenSpec.upto fnExactEndTextSpec)) fnExactEndTextUptoCard

/-- THE SECOND FORM's CARD OF 'laws.FnExactEndRead'. -/
def fnExactEndReadUptoCard : Claim7 := { stood := { row := fnExactEndReadUptoRow, standIns := [], harness := (true, "1509a633394ce40b2884df7c674c865f63788a3de674b7471baa4b9aabfedfe2"), looks := true }, kinds := [], alts := [], laidByText := true, laidKinds := [.data, .data, .data, .sentinel, .sentinel], laidTests := true, laidLooks := .later }
def FnExactEndReadUptoCardSaid : Prop := Claim7.holds Tryd.pinned (.plain (OpenSpec.upto fnExactEndReadSpec)) fnExactEndReadUptoCard
end Rows
end Go.Proofs.YtjlohhopknplpavDoor

/-
  DERIVED. GIVEN WITH THE SEED: THE CARDS: each row of YtjlohhopknplpaaDoorRows.lean that lists a variable, with what it lists TIED to the program's text (the seventh form; the later family's looks); each row that meets fmt, with fmt's text TOLD by the authors' own Lean function (tested against real Go, not proved from fmt's source: count such statements apart). THE CARD IS WHAT COUNTS. Prove the row's statement (the work); the ties are given (YtjlohhopknplpaaDoorTie.lean); close each card by the builder's one call (the guide's Derived/Test/ToyasCard.lean, 'card_holds'). Laid BY PROGRAM, IN A SANDBOX (cutbox-door.mjs). By AI agents, Wed Nov 11 2026. No macro, syntax, notation, axiom, sorry.
-/
import Derived.Test.YtjlohhopknplpaaDoorRows
import GoSem.ClaimSeven
namespace Go.Proofs.YtjlohhopknplpaaDoor
namespace Rows

/-- THE TIED CARD OF 'laws.FnEndSides'. -/
def fnEndSidesCard : Claim7 := { stood := { row := fnEndSidesRow, standIns := [], harness := (true, "b8103be615b6388041e60a9b7bf7792a47c8d9429cc51bc8c7b6a406d45dbc2a"), looks := true }, kinds := [], alts := [], laidByText := true, laidKinds := [.data, .data, .data], laidTests := true, laidLooks := .later }
def FnEndSidesCardSaid : Prop := Claim7.holds Tryd.pinned (.plain (OpenSpec.ofChange fnEndSidesSpec)) fnEndSidesCard

/-- THE TIED CARD OF 'laws.FnEndBack'. -/
def fnEndBackCard : Claim7 := { stood := { row := fnEndBackRow, standIns := [], harness := (true, "b8103be615b6388041e60a9b7bf7792a47c8d9429cc51bc8c7b6a406d45dbc2a"), looks := true }, kinds := [], alts := [], laidByText := true, laidKinds := [.data, .data, .data, .sentinel, .sentinel], laidTests := true, laidLooks := .later }
def FnEndBackCardSaid : Prop := Claim7.holds Tryd.pinned (.plain (OpenSpec.ofChange fnEndBackSpec)) fnEndBackCard

/-- THE TIED CARD OF 'laws.FnEndStrict'. -/
def fnEndStrictCard : Claim7 := { stood := { row := fnEndStrictRow, standIns := [], harness := (true, "b8103be615b6388041e60a9b7bf7792a47c8d9429cc51bc8c7b6a406d45dbc2a"), looks := true }, kinds := [], alts := [], laidByText := true, laidKinds := [.data, .data, .data, .sentinel, .sentinel], laidTests := true, laidLooks := .later }
def FnEndStrictCardSaid : Prop := Claim7.holds Tryd.pinned (.plain (OpenSpec.ofChange fnEndStrictSpec)) fnEndStrictCard

/-- THE TIED CARD OF 'laws.FnEndCut'. -/
def fnEndCutCard : Claim7 := { stood := { row := fnEndCutRow, standIns := [], harness := (true, "b8103be615b6388041e60a9b7bf7792a47c8d9429cc51bc8c7b6a406d45dbc2a"), looks := true }, kinds := [], alts := [], laidByText := true, laidKinds := [.data, .data, .data, .sentinel, .sentinel], laidTests := true, laidLooks := .later }
def FnEndCutCardSaid : Prop := Claim7.holds Tryd.pinned (.plain (OpenSpec.ofChange fnEndCutSpec)) fnEndCutCard

/-- THE TIED CARD OF 'laws.FnEndOther'. -/
def fnEndOtherCard : Claim7 := { stood := { row := fnEndOtherRow, standIns := [], harness := (true, "b8103be615b6388041e60a9b7bf7792a47c8d9429cc51bc8c7b6a406d45dbc2a"), looks := true }, kinds := [], alts := [], laidByText := true, laidKinds := [.data, .data, .data], laidTests := true, laidLooks := .later }
def FnEndOtherCardSaid : Prop := Claim7.holds Tryd.pinned (.plain (OpenSpec.ofChange fnEndOtherSpec)) fnEndOtherCard

/-- THE SECOND FORM's CARD OF 'laws.FnEndSides'. -/
def fnEndSidesUptoCard : Claim7 := { stood := { row := fnEndSidesUptoRow, standIns := [], harness := (true, "b8103be615b6388041e60a9b7bf7792a47c8d9429cc51bc8c7b6a406d45dbc2a"), looks := true }, kinds := [], alts := [], laidByText := true, laidKinds := [.data, .data, .data], laidTests := true, laidLooks := .later }
def FnEndSidesUptoCardSaid : Prop := Claim7.holds Tryd.pinned (.plain (OpenSpec.upto fnEndSidesSpec)) fnEndSidesUptoCard

/-- THE SECOND FORM's CARD OF 'laws.FnEndBack'. -/
def fnEndBackUptoCard : Claim7 := { stood := { row := fnEndBackUptoRow, standIns := [], harness := (true, "b8103be615b6388041e60a9b7bf7792a47c8d9429cc51bc8c7b6a406d45dbc2a"), looks := true }, kinds := [], alts := [], laidByText := true, laidKinds := [.data, .data, .data, .sentinel, .sentinel], laidTests := true, laidLooks := .later }
def FnEndBackUptoCardSaid : Prop := Claim7.holds Tryd.pinned (.plain (OpenSpec.upto fnEndBackSpec)) fnEndBackUptoCard

/-- THE SECOND FORM's CARD OF 'laws.FnEndStrict'. -/
def fnEndStrictUptoCard : Claim7 := { stood := { row := fnEndStrictUptoRow, standIns := [], harness := (true, "b8103be615b6388041e60a9b7bf7792a47c8d9429cc51bc8c7b6a406d45dbc2a"), looks := true }, kinds := [], alts := [], laidByText := true, laidKinds := [.data, .data, .data, .sentinel, .sentinel], laidTests := true, laidLooks := .later }
def FnEndStrictUptoCardSaid : Prop := Claim7.holds Tryd.pinned (.plain (OpenSpec.upto fnEndStrictSpec)) fnEndStrictUptoCard

/-- THE SECOND FORM's CARD OF 'laws.FnEndCut'. -/
def fnEndCutUptoCard : Claim7 := { stood := { row := fnEndCutUptoRow, standIns := [], harness := (true, "b8103be615b6388041e60a9b7bf7792a47c8d9429cc51bc8c7b6a406d45dbc2a"), looks := true }, kinds := [], alts := [], laidByText := true, laidKinds := [.data, .data, .data, .sentinel, .sentinel], laidTests := true, laidLooks := .later }
def FnEndCutUptoCardSaid : Prop := Claim7.holds Tryd.pinned (.plain (OpenSpec.upto fnEndCutSpec)) fnEndCutUptoCard

/-- THE SECOND FORM's CARD OF 'laws.FnEndOther'. -/
def fnEndOtherUptoCard : Claim7 := { stood := { row := fnEndOtherUptoRow, standIns := [], harness := (true, "b8103be615b6388041e60a9b7bf7792a47c8d9429cc51bc8c7b6a406d45dbc2a"), looks := true }, kinds := [], alts := [], laidByText := true, laidKinds := [.data, .data, .data], laidTests := true, laidLooks := .later }
def FnEndOtherUptoCardSaid : Prop := Claim7.holds Tryd.pinned (.plain (OpenSpec.upto fnEndOtherSpec)) fnEndOtherUptoCard
end Rows
end Go.Proofs.YtjlohhopknplpaaDoor

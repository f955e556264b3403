/-
  No cell of these rows narrows 'for every input' (looked for: loops, veiled, ifaces, maps, wideKeys, modest, calm, conditions, laid).
  DERIVED. THE GIVEN ROWS OF THIS SEAT. 5 by the template 'for every input the law returns true; each argument reads behind the call as it read before'; 0 by the template 'total and deterministic' (their statements: YtjlohhopknplpauTotals.lean).
  GIVEN WITH THE SEED: the statements are not yours to turn. If you find one false, say at which input.
  Laid BY PROGRAM, IN A SANDBOX (cutbox-rows.mjs): the forced cells as the released guide's own fill.sh prints them over the translation 7cb6d55dd1d2848f… (all of the seat's roots in one cut). By AI agents, Wed Nov 11 2026. No macro, syntax, notation, axiom, sorry.
-/
import Derived.Test.YtjlohhopknplpauChecked
import GoSem.Claim
import GoSem.ClaimJoined
import GoSem.ClaimMapViews
import Derived.JoinedTies
import Derived.KernelRfl
namespace Go.Proofs.Ytjlohhopknplpau
/- THE CELL 'sum', in the pinned program and in every row, IS THE sha256 OF THE DUMP (.gsa) THAT YtjlohhopknplpauProg.lean LOADS. Nothing in Lean hashes anything: it is a label: what it is worth is what the hold of that sum in a sandbox is worth. -/
noncomputable def Try.pinned : Pinned := { name := "ytjlohhopknplpau", sum := "7cb6d55dd1d2848fe06418cc8f5ae997363b4194a2e787771345c93db05390ad", checked := Try.checked }
namespace Rows
def none {H : Type} : Left H := { results := [], args := [] }

/-- 'laws.FnExactDoorOut': WHATEVER THE INPUT: true; the input reads as it did. -/
def fnExactDoorOutSpec : ChangeSpec := { name := "fnExactDoorOut", fn := fun _ => fun
  | [d1, d2] => { results := [.lit (.bool true)], args := [d1, d2] }
  | _ => none }
def fnExactDoorOutRow : OpenClaim := { program := "ytjlohhopknplpau", sum := "7cb6d55dd1d2848fe06418cc8f5ae997363b4194a2e787771345c93db05390ad", func := "loop.example/ostiary/laws.FnExactDoorOut", spec := "fnExactDoorOut", recurses := true, apart := false }
def FnExactDoorOutSaid : Prop := fnExactDoorOutRow.holds Try.pinned (OpenSpec.ofChange fnExactDoorOutSpec)

/-- ITS FALSE NEIGHBOUR: 'it returns false'. Refute it at one input. -/
def fnExactDoorOutWrong : ChangeSpec := { name := "fnExactDoorOut", fn := fun _ => fun
  | [d1, d2] => { results := [.lit (.bool false)], args := [d1, d2] }
  | _ => none }
def FnExactDoorOutWrongFalsely : Prop := fnExactDoorOutRow.holds Try.pinned (OpenSpec.ofChange fnExactDoorOutWrong)

/-- 'laws.FnExactDoorIn': WHATEVER THE INPUT: true; the input reads as it did. -/
def fnExactDoorInSpec : ChangeSpec := { name := "fnExactDoorIn", fn := fun _ => fun
  | [d1, d2] => { results := [.lit (.bool true)], args := [d1, d2] }
  | _ => none }
def fnExactDoorInRow : OpenClaim := { program := "ytjlohhopknplpau", sum := "7cb6d55dd1d2848fe06418cc8f5ae997363b4194a2e787771345c93db05390ad", func := "loop.example/ostiary/laws.FnExactDoorIn", spec := "fnExactDoorIn", recurses := true, apart := false }
def FnExactDoorInSaid : Prop := fnExactDoorInRow.holds Try.pinned (OpenSpec.ofChange fnExactDoorInSpec)

/-- ITS FALSE NEIGHBOUR: 'it returns false'. Refute it at one input. -/
def fnExactDoorInWrong : ChangeSpec := { name := "fnExactDoorIn", fn := fun _ => fun
  | [d1, d2] => { results := [.lit (.bool false)], args := [d1, d2] }
  | _ => none }
def FnExactDoorInWrongFalsely : Prop := fnExactDoorInRow.holds Try.pinned (OpenSpec.ofChange fnExactDoorInWrong)

/-- 'laws.FnExactDoorPass': WHATEVER THE INPUT: true; the input reads as it did. -/
def fnExactDoorPassSpec : ChangeSpec := { name := "fnExactDoorPass", fn := fun _ => fun
  | [d1, d2] => { results := [.lit (.bool true)], args := [d1, d2] }
  | _ => none }
def fnExactDoorPassRow : OpenClaim := { program := "ytjlohhopknplpau", sum := "7cb6d55dd1d2848fe06418cc8f5ae997363b4194a2e787771345c93db05390ad", func := "loop.example/ostiary/laws.FnExactDoorPass", spec := "fnExactDoorPass", recurses := true, apart := false }
def FnExactDoorPassSaid : Prop := fnExactDoorPassRow.holds Try.pinned (OpenSpec.ofChange fnExactDoorPassSpec)

/-- ITS FALSE NEIGHBOUR: 'it returns false'. Refute it at one input. -/
def fnExactDoorPassWrong : ChangeSpec := { name := "fnExactDoorPass", fn := fun _ => fun
  | [d1, d2] => { results := [.lit (.bool false)], args := [d1, d2] }
  | _ => none }
def FnExactDoorPassWrongFalsely : Prop := fnExactDoorPassRow.holds Try.pinned (OpenSpec.ofChange fnExactDoorPassWrong)

/-- 'laws.FnExactEndInside': WHATEVER THE INPUT: true; the input reads as it did. -/
def fnExactEndInsideSpec : ChangeSpec := { name := "fnExactEndInside", fn := fun _ => fun
  | [d] => { results := [.lit (.bool true)], args := [d] }
  | _ => none }
def fnExactEndInsideRow : OpenClaim := { program := "ytjlohhopknplpau", sum := "7cb6d55dd1d2848fe06418cc8f5ae997363b4194a2e787771345c93db05390ad", func := "loop.example/ostiary/laws.FnExactEndInside", spec := "fnExactEndInside", unfollowed := true, recurses := true, apart := false }
def FnExactEndInsideSaid : Prop := fnExactEndInsideRow.holds Try.pinned (OpenSpec.ofChange fnExactEndInsideSpec)

/-- ITS FALSE NEIGHBOUR: 'it returns false'. Refute it at one input. -/
def fnExactEndInsideWrong : ChangeSpec := { name := "fnExactEndInside", fn := fun _ => fun
  | [d] => { results := [.lit (.bool false)], args := [d] }
  | _ => none }
def FnExactEndInsideWrongFalsely : Prop := fnExactEndInsideRow.holds Try.pinned (OpenSpec.ofChange fnExactEndInsideWrong)

/-- 'laws.FnExactEndOutside': WHATEVER THE INPUT: true; the input reads as it did. -/
def fnExactEndOutsideSpec : ChangeSpec := { name := "fnExactEndOutside", fn := fun _ => fun
  | [d] => { results := [.lit (.bool true)], args := [d] }
  | _ => none }
def fnExactEndOutsideRow : OpenClaim := { program := "ytjlohhopknplpau", sum := "7cb6d55dd1d2848fe06418cc8f5ae997363b4194a2e787771345c93db05390ad", func := "loop.example/ostiary/laws.FnExactEndOutside", spec := "fnExactEndOutside", unfollowed := true, recurses := true, apart := false }
def FnExactEndOutsideSaid : Prop := fnExactEndOutsideRow.holds Try.pinned (OpenSpec.ofChange fnExactEndOutsideSpec)

/-- ITS FALSE NEIGHBOUR: 'it returns false'. Refute it at one input. -/
def fnExactEndOutsideWrong : ChangeSpec := { name := "fnExactEndOutside", fn := fun _ => fun
  | [d] => { results := [.lit (.bool false)], args := [d] }
  | _ => none }
def FnExactEndOutsideWrongFalsely : Prop := fnExactEndOutsideRow.holds Try.pinned (OpenSpec.ofChange fnExactEndOutsideWrong)

/- THE SECOND FORM. 'bulk': how many values and letters a reading holds, each counted each time it is reached (what is shared counts as often as it is met; a slice's spare places count too). A statement '..UptoSaid' is the law's where the arguments, and the package variables that the reading takes, are together of bulk at most 1048576: NARROWER than '..Said'. Prove '..Said' where nothing that the law and all that it calls make is longer than what came in: it says more and counts as full. Else prove '..UptoSaid'. A law counts once. -/
mutual
def uptoBulk {H : Type} : DataW H → Nat
  | .lit (.string bytes) => bytes.length + 1
  | .lit _ => 1
  | .nil => 1
  | .ptr d => uptoBulk d + 1
  | .slice elems spare => uptoBulkAll elems + uptoBulkAll spare + 1
  | .agg parts => uptoBulkAll parts + 1
  | .iface _ d => uptoBulk d + 1
  | .map entries => uptoBulkEntries entries + 1
  | .held _ => 1
def uptoBulkAll {H : Type} : List (DataW H) → Nat
  | [] => 0
  | d :: r => uptoBulk d + uptoBulkAll r
def uptoBulkEntries {H : Type} : List (Lit × DataW H) → Nat
  | [] => 0
  | x :: r => uptoBulkEntry x + uptoBulkEntries r
def uptoBulkEntry {H : Type} : Lit × DataW H → Nat
  | (.string bytes, d) => bytes.length + uptoBulk d + 1
  | (_, d) => uptoBulk d + 1
 end
def uptoSmall : (H : Type) → List (DataW H) → Bool := fun _ ds => decide (uptoBulkAll ds ≤ 1048576)
def OpenSpec.upto (s : _root_.Go.ChangeSpec) : _root_.Go.OpenSpec := { _root_.Go.OpenSpec.ofChange s with cond := some uptoSmall }

/-- 'laws.FnExactDoorOut', WHERE WHAT IT READS IS OF BULK AT MOST 1048576: true; the input reads as it did. -/
def fnExactDoorOutUptoRow : OpenClaim := { program := "ytjlohhopknplpau", sum := "7cb6d55dd1d2848fe06418cc8f5ae997363b4194a2e787771345c93db05390ad", func := "loop.example/ostiary/laws.FnExactDoorOut", spec := "fnExactDoorOut", recurses := true, apart := false, narrowed := true }
def FnExactDoorOutUptoSaid : Prop := fnExactDoorOutUptoRow.holds Try.pinned (OpenSpec.upto fnExactDoorOutSpec)

/-- 'laws.FnExactDoorIn', WHERE WHAT IT READS IS OF BULK AT MOST 1048576: true; the input reads as it did. -/
def fnExactDoorInUptoRow : OpenClaim := { program := "ytjlohhopknplpau", sum := "7cb6d55dd1d2848fe06418cc8f5ae997363b4194a2e787771345c93db05390ad", func := "loop.example/ostiary/laws.FnExactDoorIn", spec := "fnExactDoorIn", recurses := true, apart := false, narrowed := true }
def FnExactDoorInUptoSaid : Prop := fnExactDoorInUptoRow.holds Try.pinned (OpenSpec.upto fnExactDoorInSpec)

/-- 'laws.FnExactDoorPass', WHERE WHAT IT READS IS OF BULK AT MOST 1048576: true; the input reads as it did. -/
def fnExactDoorPassUptoRow : OpenClaim := { program := "ytjlohhopknplpau", sum := "7cb6d55dd1d2848fe06418cc8f5ae997363b4194a2e787771345c93db05390ad", func := "loop.example/ostiary/laws.FnExactDoorPass", spec := "fnExactDoorPass", recurses := true, apart := false, narrowed := true }
def FnExactDoorPassUptoSaid : Prop := fnExactDoorPassUptoRow.holds Try.pinned (OpenSpec.upto fnExactDoorPassSpec)

/-- 'laws.FnExactEndInside', WHERE WHAT IT READS IS OF BULK AT MOST 1048576: true; the input reads as it did. -/
def fnExactEndInsideUptoRow : OpenClaim := { program := "ytjlohhopknplpau", sum := "7cb6d55dd1d2848fe06418cc8f5ae997363b4194a2e787771345c93db05390ad", func := "loop.example/ostiary/laws.FnExactEndInside", spec := "fnExactEndInside", unfollowed := true, recurses := true, apart := false, narrowed := true }
def FnExactEndInsideUptoSaid : Prop := fnExactEndInsideUptoRow.holds Try.pinned (OpenSpec.upto fnExactEndInsideSpec)

/-- 'laws.FnExactEndOutside', WHERE WHAT IT READS IS OF BULK AT MOST 1048576: true; the input reads as it did. -/
def fnExactEndOutsideUptoRow : OpenClaim := { program := "ytjlohhopknplpau", sum := "7cb6d55dd1d2848fe06418cc8f5ae997363b4194a2e787771345c93db05390ad", func := "loop.example/ostiary/laws.FnExactEndOutside", spec := "fnExactEndOutside", unfollowed := true, recurses := true, apart := false, narrowed := true }
def FnExactEndOutsideUptoSaid : Prop := fnExactEndOutsideUptoRow.holds Try.pinned (OpenSpec.upto fnExactEndOutsideSpec)

end Rows
end Go.Proofs.Ytjlohhopknplpau

/-
  No cell of these rows narrows 'for every input' (looked for: loops, veiled, ifaces, maps, wideKeys, modest, calm, conditions, laid).
  DERIVED. THE GIVEN ROWS OF THIS SEAT. 4 by the template 'for every input the law returns true; each argument reads behind the call as it read before'; 0 by the template 'total and deterministic' (their statements: YtjlohhopknplpavTotals.lean).
  GIVEN WITH THE SEED: the statements are not yours to turn. If you find one false, say at which input.
  Laid BY PROGRAM, IN A SANDBOX (cutbox-rows.mjs): the forced cells as the released guide's own fill.sh prints them over the translation 97666f69ae141a0c… (all of the seat's roots in one cut). By AI agents, Wed Nov 11 2026. No macro, syntax, notation, axiom, sorry.
-/
import Derived.Test.YtjlohhopknplpavChecked
import GoSem.Claim
import GoSem.ClaimJoined
import GoSem.ClaimMapViews
import Derived.JoinedTies
import Derived.KernelRfl
namespace Go.Proofs.Ytjlohhopknplpav
/- THE CELL 'sum', in the pinned program and in every row, IS THE sha256 OF THE DUMP (.gsa) THAT YtjlohhopknplpavProg.lean LOADS. Nothing in Lean hashes anything: it is a label: what it is worth is what the hold of that sum in a sandbox is worth. -/
noncomputable def Try.pinned : Pinned := { name := "ytjlohhopknplpav", sum := "97666f69ae141a0c77e08361793e8358960ce87fd3705d9a259e149c4b0d3caf", checked := Try.checked }
namespace Rows
def none {H : Type} : Left H := { results := [], args := [] }

/-- 'laws.FnExactEndDoor': WHATEVER THE INPUT: true; the input reads as it did. -/
def fnExactEndDoorSpec : ChangeSpec := { name := "fnExactEndDoor", fn := fun _ => fun
  | [d] => { results := [.lit (.bool true)], args := [d] }
  | _ => none }
def fnExactEndDoorRow : OpenClaim := { program := "ytjlohhopknplpav", sum := "97666f69ae141a0c77e08361793e8358960ce87fd3705d9a259e149c4b0d3caf", func := "loop.example/ostiary/laws.FnExactEndDoor", spec := "fnExactEndDoor", unfollowed := true, recurses := true, apart := false }
def FnExactEndDoorSaid : Prop := fnExactEndDoorRow.holds Try.pinned (OpenSpec.ofChange fnExactEndDoorSpec)

/-- ITS FALSE NEIGHBOUR: 'it returns false'. Refute it at one input. -/
def fnExactEndDoorWrong : ChangeSpec := { name := "fnExactEndDoor", fn := fun _ => fun
  | [d] => { results := [.lit (.bool false)], args := [d] }
  | _ => none }
def FnExactEndDoorWrongFalsely : Prop := fnExactEndDoorRow.holds Try.pinned (OpenSpec.ofChange fnExactEndDoorWrong)

/-- 'laws.FnExactConvNew': WHATEVER THE INPUT: true; the input reads as it did. -/
def fnExactConvNewSpec : ChangeSpec := { name := "fnExactConvNew", fn := fun _ => fun
  | [d1, d2, d3, d4] => { results := [.lit (.bool true)], args := [d1, d2, d3, d4] }
  | _ => none }
def fnExactConvNewRow : OpenClaim := { program := "ytjlohhopknplpav", sum := "97666f69ae141a0c77e08361793e8358960ce87fd3705d9a259e149c4b0d3caf", func := "loop.example/ostiary/laws.FnExactConvNew", spec := "fnExactConvNew", recurses := true, apart := false }
def FnExactConvNewSaid : Prop := fnExactConvNewRow.holds Try.pinned (OpenSpec.ofChange fnExactConvNewSpec)

/-- ITS FALSE NEIGHBOUR: 'it returns false'. Refute it at one input. -/
def fnExactConvNewWrong : ChangeSpec := { name := "fnExactConvNew", fn := fun _ => fun
  | [d1, d2, d3, d4] => { results := [.lit (.bool false)], args := [d1, d2, d3, d4] }
  | _ => none }
def FnExactConvNewWrongFalsely : Prop := fnExactConvNewRow.holds Try.pinned (OpenSpec.ofChange fnExactConvNewWrong)

/-- 'laws.FnExactConvOk': WHATEVER THE INPUT: true; the input reads as it did. -/
def fnExactConvOkSpec : ChangeSpec := { name := "fnExactConvOk", fn := fun _ => fun
  | [d] => { results := [.lit (.bool true)], args := [d] }
  | _ => none }
def fnExactConvOkRow : OpenClaim := { program := "ytjlohhopknplpav", sum := "97666f69ae141a0c77e08361793e8358960ce87fd3705d9a259e149c4b0d3caf", func := "loop.example/ostiary/laws.FnExactConvOk", spec := "fnExactConvOk", recurses := true, apart := false }
def FnExactConvOkSaid : Prop := fnExactConvOkRow.holds Try.pinned (OpenSpec.ofChange fnExactConvOkSpec)

/-- ITS FALSE NEIGHBOUR: 'it returns false'. Refute it at one input. -/
def fnExactConvOkWrong : ChangeSpec := { name := "fnExactConvOk", fn := fun _ => fun
  | [d] => { results := [.lit (.bool false)], args := [d] }
  | _ => none }
def FnExactConvOkWrongFalsely : Prop := fnExactConvOkRow.holds Try.pinned (OpenSpec.ofChange fnExactConvOkWrong)

/-- 'laws.FnExactConvSay': WHATEVER THE INPUT: true; the input reads as it did. -/
def fnExactConvSaySpec : ChangeSpec := { name := "fnExactConvSay", fn := fun _ => fun
  | [d1, d2, d3, d4, d5] => { results := [.lit (.bool true)], args := [d1, d2, d3, d4, d5] }
  | _ => none }
def fnExactConvSayRow : OpenClaim := { program := "ytjlohhopknplpav", sum := "97666f69ae141a0c77e08361793e8358960ce87fd3705d9a259e149c4b0d3caf", func := "loop.example/ostiary/laws.FnExactConvSay", spec := "fnExactConvSay", recurses := true, apart := false }
def FnExactConvSaySaid : Prop := fnExactConvSayRow.holds Try.pinned (OpenSpec.ofChange fnExactConvSaySpec)

/-- ITS FALSE NEIGHBOUR: 'it returns false'. Refute it at one input. -/
def fnExactConvSayWrong : ChangeSpec := { name := "fnExactConvSay", fn := fun _ => fun
  | [d1, d2, d3, d4, d5] => { results := [.lit (.bool false)], args := [d1, d2, d3, d4, d5] }
  | _ => none }
def FnExactConvSayWrongFalsely : Prop := fnExactConvSayRow.holds Try.pinned (OpenSpec.ofChange fnExactConvSayWrong)

/- THE SECOND FORM. 'bulk': how many values and letters a reading holds, each counted each time it is reached (what is shared counts as often as it is met; a slice's spare places count too). A statement '..UptoSaid' is the law's where the arguments, and the package variables that the reading takes, are together of bulk at most 1048576: NARROWER than '..Said'. Prove '..Said' where nothing that the law and all that it calls make is longer than what came in: it says more and counts as full. Else prove '..UptoSaid'. A law counts once. -/
mutual
def uptoBulk {H : Type} : DataW H → Nat
  | .lit (.string bytes) => bytes.length + 1
  | .lit _ => 1
  | .nil => 1
  | .ptr d => uptoBulk d + 1
  | .slice elems spare => uptoBulkAll elems + uptoBulkAll spare + 1
  | .agg parts => uptoBulkAll parts + 1
  | .iface _ d => uptoBulk d + 1
  | .map entries => uptoBulkEntries entries + 1
  | .held _ => 1
def uptoBulkAll {H : Type} : List (DataW H) → Nat
  | [] => 0
  | d :: r => uptoBulk d + uptoBulkAll r
def uptoBulkEntries {H : Type} : List (Lit × DataW H) → Nat
  | [] => 0
  | x :: r => uptoBulkEntry x + uptoBulkEntries r
def uptoBulkEntry {H : Type} : Lit × DataW H → Nat
  | (.string bytes, d) => bytes.length + uptoBulk d + 1
  | (_, d) => uptoBulk d + 1
 end
def uptoSmall : (H : Type) → List (DataW H) → Bool := fun _ ds => decide (uptoBulkAll ds ≤ 1048576)
def OpenSpec.upto (s : _root_.Go.ChangeSpec) : _root_.Go.OpenSpec := { _root_.Go.OpenSpec.ofChange s with cond := some uptoSmall }

/-- 'laws.FnExactEndDoor', WHERE WHAT IT READS IS OF BULK AT MOST 1048576: true; the input reads as it did. -/
def fnExactEndDoorUptoRow : OpenClaim := { program := "ytjlohhopknplpav", sum := "97666f69ae141a0c77e08361793e8358960ce87fd3705d9a259e149c4b0d3caf", func := "loop.example/ostiary/laws.FnExactEndDoor", spec := "fnExactEndDoor", unfollowed := true, recurses := true, apart := false, narrowed := true }
def FnExactEndDoorUptoSaid : Prop := fnExactEndDoorUptoRow.holds Try.pinned (OpenSpec.upto fnExactEndDoorSpec)

/-- 'laws.FnExactConvNew', WHERE WHAT IT READS IS OF BULK AT MOST 1048576: true; the input reads as it did. -/
def fnExactConvNewUptoRow : OpenClaim := { program := "ytjlohhopknplpav", sum := "97666f69ae141a0c77e08361793e8358960ce87fd3705d9a259e149c4b0d3caf", func := "loop.example/ostiary/laws.FnExactConvNew", spec := "fnExactConvNew", recurses := true, apart := false, narrowed := true }
def FnExactConvNewUptoSaid : Prop := fnExactConvNewUptoRow.holds Try.pinned (OpenSpec.upto fnExactConvNewSpec)

/-- 'laws.FnExactConvOk', WHERE WHAT IT READS IS OF BULK AT MOST 1048576: true; the input reads as it did. -/
def fnExactConvOkUptoRow : OpenClaim := { program := "ytjlohhopknplpav", sum := "97666f69ae141a0c77e08361793e8358960ce87fd3705d9a259e149c4b0d3caf", func := "loop.example/ostiary/laws.FnExactConvOk", spec := "fnExactConvOk", recurses := true, apart := false, narrowed := true }
def FnExactConvOkUptoSaid : Prop := fnExactConvOkUptoRow.holds Try.pinned (OpenSpec.upto fnExactConvOkSpec)

/-- 'laws.FnExactConvSay', WHERE WHAT IT READS IS OF BULK AT MOST 1048576: true; the input reads as it did. -/
def fnExactConvSayUptoRow : OpenClaim := { program := "ytjlohhopknplpav", sum := "97666f69ae141a0c77e08361793e8358960ce87fd3705d9a259e149c4b0d3caf", func := "loop.example/ostiary/laws.FnExactConvSay", spec := "fnExactConvSay", recurses := true, apart := false, narrowed := true }
def FnExactConvSayUptoSaid : Prop := fnExactConvSayUptoRow.holds Try.pinned (OpenSpec.upto fnExactConvSaySpec)

end Rows
end Go.Proofs.Ytjlohhopknplpav

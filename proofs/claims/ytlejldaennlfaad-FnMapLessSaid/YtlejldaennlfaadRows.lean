/-
  No cell of these rows narrows 'for every input' (looked for: loops, veiled, ifaces, maps, wideKeys, modest, calm, conditions, laid).
  DERIVED. THE GIVEN ROWS OF THIS SEAT. 3 by the template 'for every input the law returns true; each argument reads behind the call as it read before'; 0 by the template 'total and deterministic' (their statements: YtlejldaennlfaadTotals.lean).
  GIVEN WITH THE SEED: the statements are not yours to turn. If you find one false, say at which input.
  Laid BY PROGRAM, IN A SANDBOX (cutbox-rows.mjs): the forced cells as the released guide's own fill.sh prints them over the translation 47506f379fcacdf8… (all of the seat's roots in one cut). By AI agents, Wed Nov 11 2026. No macro, syntax, notation, axiom, sorry.
-/
import Derived.Test.YtlejldaennlfaadChecked
import GoSem.Claim
import GoSem.ClaimJoined
import GoSem.ClaimMapViews
import Derived.JoinedTies
import Derived.KernelRfl
namespace Go.Proofs.Ytlejldaennlfaad
/- THE CELL 'sum', in the pinned program and in every row, IS THE sha256 OF THE DUMP (.gsa) THAT YtlejldaennlfaadProg.lean LOADS. Nothing in Lean hashes anything: it is a label: what it is worth is what the hold of that sum in a sandbox is worth. -/
noncomputable def Try.pinned : Pinned := { name := "ytlejldaennlfaad", sum := "47506f379fcacdf82eb2151ec7ec04b1c91d5b22c285c5c836e8095d3d91b837", checked := Try.checked }
namespace Rows
def none {H : Type} : Left H := { results := [], args := [] }

/-- 'laws.FnMapFull': WHATEVER THE INPUT: true; the input reads as it did. -/
def fnMapFullSpec : ChangeSpec := { name := "fnMapFull", fn := fun _ => fun
  | [d] => { results := [.lit (.bool true)], args := [d] }
  | _ => none }
def fnMapFullRow : OpenClaim := { program := "ytlejldaennlfaad", sum := "47506f379fcacdf82eb2151ec7ec04b1c91d5b22c285c5c836e8095d3d91b837", func := "loop.example/ostiary/laws.FnMapFull", spec := "fnMapFull", unfollowed := true, recurses := true, plainKeys := false, apart := false }
def FnMapFullSaid : Prop := fnMapFullRow.holds Try.pinned (OpenSpec.ofChange fnMapFullSpec)

/-- ITS FALSE NEIGHBOUR: 'it returns false'. Refute it at one input. -/
def fnMapFullWrong : ChangeSpec := { name := "fnMapFull", fn := fun _ => fun
  | [d] => { results := [.lit (.bool false)], args := [d] }
  | _ => none }
def FnMapFullWrongFalsely : Prop := fnMapFullRow.holds Try.pinned (OpenSpec.ofChange fnMapFullWrong)

/-- 'laws.FnMapIn': WHATEVER THE INPUT: true; the input reads as it did. -/
def fnMapInSpec : ChangeSpec := { name := "fnMapIn", fn := fun _ => fun
  | [d] => { results := [.lit (.bool true)], args := [d] }
  | _ => none }
def fnMapInRow : OpenClaim := { program := "ytlejldaennlfaad", sum := "47506f379fcacdf82eb2151ec7ec04b1c91d5b22c285c5c836e8095d3d91b837", func := "loop.example/ostiary/laws.FnMapIn", spec := "fnMapIn", unfollowed := true, recurses := true, plainKeys := false, apart := false }
def FnMapInSaid : Prop := fnMapInRow.holds Try.pinned (OpenSpec.ofChange fnMapInSpec)

/-- ITS FALSE NEIGHBOUR: 'it returns false'. Refute it at one input. -/
def fnMapInWrong : ChangeSpec := { name := "fnMapIn", fn := fun _ => fun
  | [d] => { results := [.lit (.bool false)], args := [d] }
  | _ => none }
def FnMapInWrongFalsely : Prop := fnMapInRow.holds Try.pinned (OpenSpec.ofChange fnMapInWrong)

/-- 'laws.FnMapLess': WHATEVER THE INPUT: true; the input reads as it did. -/
def fnMapLessSpec : ChangeSpec := { name := "fnMapLess", fn := fun _ => fun
  | [d1, d2] => { results := [.lit (.bool true)], args := [d1, d2] }
  | _ => none }
def fnMapLessRow : OpenClaim := { program := "ytlejldaennlfaad", sum := "47506f379fcacdf82eb2151ec7ec04b1c91d5b22c285c5c836e8095d3d91b837", func := "loop.example/ostiary/laws.FnMapLess", spec := "fnMapLess", unfollowed := true, recurses := true, plainKeys := false, apart := false }
def FnMapLessSaid : Prop := fnMapLessRow.holds Try.pinned (OpenSpec.ofChange fnMapLessSpec)

/-- ITS FALSE NEIGHBOUR: 'it returns false'. Refute it at one input. -/
def fnMapLessWrong : ChangeSpec := { name := "fnMapLess", fn := fun _ => fun
  | [d1, d2] => { results := [.lit (.bool false)], args := [d1, d2] }
  | _ => none }
def FnMapLessWrongFalsely : Prop := fnMapLessRow.holds Try.pinned (OpenSpec.ofChange fnMapLessWrong)

/- THE SECOND FORM. 'bulk': how many values and letters a reading holds, each counted each time it is reached (what is shared counts as often as it is met; a slice's spare places count too). A statement '..UptoSaid' is the law's where the arguments, and the package variables that the reading takes, are together of bulk at most 1048576: NARROWER than '..Said'. Prove '..Said' where nothing that the law and all that it calls make is longer than what came in: it says more and counts as full. Else prove '..UptoSaid'. A law counts once. -/
mutual
def uptoBulk {H : Type} : DataW H → Nat
  | .lit (.string bytes) => bytes.length + 1
  | .lit _ => 1
  | .nil => 1
  | .ptr d => uptoBulk d + 1
  | .slice elems spare => uptoBulkAll elems + uptoBulkAll spare + 1
  | .agg parts => uptoBulkAll parts + 1
  | .iface _ d => uptoBulk d + 1
  | .map entries => uptoBulkEntries entries + 1
  | .held _ => 1
def uptoBulkAll {H : Type} : List (DataW H) → Nat
  | [] => 0
  | d :: r => uptoBulk d + uptoBulkAll r
def uptoBulkEntries {H : Type} : List (Lit × DataW H) → Nat
  | [] => 0
  | x :: r => uptoBulkEntry x + uptoBulkEntries r
def uptoBulkEntry {H : Type} : Lit × DataW H → Nat
  | (.string bytes, d) => bytes.length + uptoBulk d + 1
  | (_, d) => uptoBulk d + 1
 end
def uptoSmall : (H : Type) → List (DataW H) → Bool := fun _ ds => decide (uptoBulkAll ds ≤ 1048576)
def OpenSpec.upto (s : _root_.Go.ChangeSpec) : _root_.Go.OpenSpec := { _root_.Go.OpenSpec.ofChange s with cond := some uptoSmall }

/-- 'laws.FnMapFull', WHERE WHAT IT READS IS OF BULK AT MOST 1048576: true; the input reads as it did. -/
def fnMapFullUptoRow : OpenClaim := { program := "ytlejldaennlfaad", sum := "47506f379fcacdf82eb2151ec7ec04b1c91d5b22c285c5c836e8095d3d91b837", func := "loop.example/ostiary/laws.FnMapFull", spec := "fnMapFull", unfollowed := true, recurses := true, plainKeys := false, apart := false, narrowed := true }
def FnMapFullUptoSaid : Prop := fnMapFullUptoRow.holds Try.pinned (OpenSpec.upto fnMapFullSpec)

/-- 'laws.FnMapIn', WHERE WHAT IT READS IS OF BULK AT MOST 1048576: true; the input reads as it did. -/
def fnMapInUptoRow : OpenClaim := { program := "ytlejldaennlfaad", sum := "47506f379fcacdf82eb2151ec7ec04b1c91d5b22c285c5c836e8095d3d91b837", func := "loop.example/ostiary/laws.FnMapIn", spec := "fnMapIn", unfollowed := true, recurses := true, plainKeys := false, apart := false, narrowed := true }
def FnMapInUptoSaid : Prop := fnMapInUptoRow.holds Try.pinned (OpenSpec.upto fnMapInSpec)

/-- 'laws.FnMapLess', WHERE WHAT IT READS IS OF BULK AT MOST 1048576: true; the input reads as it did. -/
def fnMapLessUptoRow : OpenClaim := { program := "ytlejldaennlfaad", sum := "47506f379fcacdf82eb2151ec7ec04b1c91d5b22c285c5c836e8095d3d91b837", func := "loop.example/ostiary/laws.FnMapLess", spec := "fnMapLess", unfollowed := true, recurses := true, plainKeys := false, apart := false, narrowed := true }
def FnMapLessUptoSaid : Prop := fnMapLessUptoRow.holds Try.pinned (OpenSpec.upto fnMapLessSpec)

end Rows
end Go.Proofs.Ytlejldaennlfaad

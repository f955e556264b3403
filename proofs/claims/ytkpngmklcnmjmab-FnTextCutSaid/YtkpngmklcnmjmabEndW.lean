/- Walks of the ends' own functions: which side an end is on. -/
import Derived.Test.YtkpngmklcnmjmabRows
import Derived.WalkKit
import Derived.ProofKit
import Derived.WalkLawsBesides
import Derived.WalkSpells
import Derived.Below
namespace Go.Proofs.Ytkpngmklcnmjmab.EndW
open Go.RowKit

/-- which side an end is on: 0 none, 1 inside, 2 outside, 3 the door -/
def sideZ (a p : Int) : Int :=
  if 1 ≤ a ∧ a ≤ 3 ∧ 1 ≤ p ∧ p ≤ 9 then 1
  else if 4 ≤ a ∧ a ≤ 6 ∧ 1 ≤ p ∧ p ≤ 9 then 2
  else if a = 9 ∧ 10 ≤ p ∧ p ≤ 17 then 3 else 0

abbrev endV (a p : Int) : Value := .agg #[.int .i64 a, .int .i64 p]

/-- a port of a host -/
def hostB (p : Int) : Bool := decide (1 ≤ p) && decide (p ≤ 9)

/-- a port of the door -/
def doorB (p : Int) : Bool := decide (10 ≤ p) && decide (p ≤ 17)

end Go.Proofs.Ytkpngmklcnmjmab.EndW

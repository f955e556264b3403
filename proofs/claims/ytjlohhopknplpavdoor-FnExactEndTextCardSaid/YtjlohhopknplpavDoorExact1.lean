/- Walks: the mirror of an end, and the exact laws on which side an end is on. -/
import Derived.Test.YtjlohhopknplpavDoorEndV
import Derived.Test.YtjlohhopknplpavDoorKit
namespace Go.Proofs.YtjlohhopknplpavDoor.Exact
open Go.RowKit Go.Proofs.YtjlohhopknplpavDoor.Kit
open Go.Proofs.YtjlohhopknplpavDoor.EndW

set_option maxHeartbeats 400000 in
theorem toEnd_any (a p : Int) (w : World) :
    Calls Tryd.prog 6 #[endV a p] w fun e w' => e = .returned (endV a p) ∧ Below w.heap.size w w' := by
  go_enter Tryd.func6, Tryd.ntmps6
  go_wp2
  refine bodyPost_ret (v := endV a p) ?_ rfl ?_
  · simp [results, Tryd.results6, go_sem]
  · exact ⟨rfl, (((Below.refl _ _).alloc (Nat.le_refl _) _).alloc (by simp) _).alloc (by simp; omega) _⟩




end Go.Proofs.YtjlohhopknplpavDoor.Exact

/- Walks: the mirror of an end, and the exact laws on which side an end is on. -/
import Derived.Test.YtnjggammbebpkabDoorEndV
import Derived.Test.YtnjggammbebpkabDoorKit
namespace Go.Proofs.YtnjggammbebpkabDoor.Exact
open Go.RowKit Go.Proofs.YtnjggammbebpkabDoor.Kit
open Go.Proofs.YtnjggammbebpkabDoor.EndW

set_option maxHeartbeats 400000 in
theorem toEnd_any (a p : Int) (w : World) :
    Calls Tryd.prog 11 #[endV a p] w fun e w' => e = .returned (endV a p) ∧ Below w.heap.size w w' := by
  go_enter Tryd.func11, Tryd.ntmps11
  go_wp2
  refine bodyPost_ret (v := endV a p) ?_ rfl ?_
  · simp [results, Tryd.results11, go_sem]
  · exact ⟨rfl, (((Below.refl _ _).alloc (Nat.le_refl _) _).alloc (by simp) _).alloc (by simp; omega) _⟩




end Go.Proofs.YtnjggammbebpkabDoor.Exact

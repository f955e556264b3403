/- Walks: the mirror of an end, and the exact laws on which side an end is on. -/
import Derived.Test.YtnjggammbebpkabEndV
import Derived.Test.YtnjggammbebpkabKit
namespace Go.Proofs.Ytnjggammbebpkab.Exact
open Go.RowKit Go.Proofs.Ytnjggammbebpkab.Kit
open Go.Proofs.Ytnjggammbebpkab.EndW

set_option maxHeartbeats 400000 in
theorem toEnd_any (a p : Int) (w : World) :
    Calls Try.prog 18 #[endV a p] w fun e w' => e = .returned (endV a p) ∧ Below w.heap.size w w' := by
  go_enter Try.func18, Try.ntmps18
  go_wp2
  refine bodyPost_ret (v := endV a p) ?_ rfl ?_
  · simp [results, Try.results18, go_sem]
  · exact ⟨rfl, (((Below.refl _ _).alloc (Nat.le_refl _) _).alloc (by simp) _).alloc (by simp; omega) _⟩




end Go.Proofs.Ytnjggammbebpkab.Exact

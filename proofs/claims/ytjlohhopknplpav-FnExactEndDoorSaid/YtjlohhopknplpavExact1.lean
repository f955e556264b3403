/- Walks: the mirror of an end, and the exact laws on which side an end is on. -/
import Derived.Test.YtjlohhopknplpavEndV
import Derived.Test.YtjlohhopknplpavKit
namespace Go.Proofs.Ytjlohhopknplpav.Exact
open Go.RowKit Go.Proofs.Ytjlohhopknplpav.Kit
open Go.Proofs.Ytjlohhopknplpav.EndW

set_option maxHeartbeats 400000 in
theorem toEnd_any (a p : Int) (w : World) :
    Calls Try.prog 8 #[endV a p] w fun e w' => e = .returned (endV a p) ∧ Below w.heap.size w w' := by
  go_enter Try.func8, Try.ntmps8
  go_wp2
  refine bodyPost_ret (v := endV a p) ?_ rfl ?_
  · simp [results, Try.results8, go_sem]
  · exact ⟨rfl, (((Below.refl _ _).alloc (Nat.le_refl _) _).alloc (by simp) _).alloc (by simp; omega) _⟩



set_option maxHeartbeats 1000000 in
theorem exactEndDoor (a p : Int) (w : World) :
    Calls Try.prog 3 #[endV a p] w fun e w' => e = .returned (.bool true) ∧ Below w.heap.size w w' := by
  go_enter Try.func3, Try.ntmps3
  go_wp2_with fail
  refine (toEnd_any _ _ _).mono ?_
  rintro e w1 ⟨rfl, k1⟩
  have z1 := k1.size
  simp at z1
  have c1 := keepc k1 w.heap.size (by first | omega | (simp; done) | (simp; omega))
  go_wp2_with fail
  refine (spec3 _ _ _).mono ?_
  rintro e w2 ⟨rfl, k2⟩
  have z2 := k2.size
  have c2 := fun j => (keepc k2 w.heap.size (by first | omega | (simp; done) | (simp; omega)) j).trans (c1 j)
  go_wp2_with fail
  refine (toEnd_any _ _ _).mono ?_
  rintro e w3 ⟨rfl, k3⟩
  have z3 := k3.size
  go_wp2_with fail
  refine (impl3 _ _ _).mono ?_
  rintro e w4 ⟨rfl, k4⟩
  cases hb : isB 3 a p
  all_goals
    go_wp2
    go_ret
    exact ⟨rfl, (((((Below.refl _ _).alloc (Nat.le_refl _) _).trans (k1.mono (by first | omega | (simp; done) | (simp; omega)))).trans (k2.mono (by first | omega | (simp; done) | (simp; omega)))).trans (k3.mono (by first | omega | (simp; done) | (simp; omega)))).trans (k4.mono (by first | omega | (simp; done) | (simp; omega)))⟩

end Go.Proofs.Ytjlohhopknplpav.Exact

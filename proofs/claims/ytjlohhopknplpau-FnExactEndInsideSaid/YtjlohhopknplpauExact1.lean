/- Walks: the mirror of an end, and the exact laws on which side an end is on. -/
import Derived.Test.YtjlohhopknplpauEndV
import Derived.Test.YtjlohhopknplpauKit
namespace Go.Proofs.Ytjlohhopknplpau.Exact
open Go.RowKit Go.Proofs.Ytjlohhopknplpau.Kit
open Go.Proofs.Ytjlohhopknplpau.EndW

set_option maxHeartbeats 400000 in
theorem toEnd_any (a p : Int) (w : World) :
    Calls Try.prog 23 #[endV a p] w fun e w' => e = .returned (endV a p) ∧ Below w.heap.size w w' := by
  go_enter Try.func23, Try.ntmps23
  go_wp2
  refine bodyPost_ret (v := endV a p) ?_ rfl ?_
  · simp [results, Try.results23, go_sem]
  · exact ⟨rfl, (((Below.refl _ _).alloc (Nat.le_refl _) _).alloc (by simp) _).alloc (by simp; omega) _⟩

set_option maxHeartbeats 1000000 in
theorem exactEndInside (a p : Int) (w : World) :
    Calls Try.prog 6 #[endV a p] w fun e w' => e = .returned (.bool true) ∧ Below w.heap.size w w' := by
  go_enter Try.func6, Try.ntmps6
  go_wp2_with fail
  refine (toEnd_any _ _ _).mono ?_
  rintro e w1 ⟨rfl, k1⟩
  have z1 := k1.size
  simp at z1
  have c1 := keepc k1 w.heap.size (by first | omega | (simp; done) | (simp; omega))
  go_wp2_with fail
  refine (spec1 _ _ _).mono ?_
  rintro e w2 ⟨rfl, k2⟩
  have z2 := k2.size
  have c2 := fun j => (keepc k2 w.heap.size (by first | omega | (simp; done) | (simp; omega)) j).trans (c1 j)
  go_wp2_with fail
  refine (toEnd_any _ _ _).mono ?_
  rintro e w3 ⟨rfl, k3⟩
  have z3 := k3.size
  go_wp2_with fail
  refine (impl1 _ _ _).mono ?_
  rintro e w4 ⟨rfl, k4⟩
  cases hb : isB 1 a p
  all_goals
    go_wp2
    go_ret
    exact ⟨rfl, (((((Below.refl _ _).alloc (Nat.le_refl _) _).trans (k1.mono (by first | omega | (simp; done) | (simp; omega)))).trans (k2.mono (by first | omega | (simp; done) | (simp; omega)))).trans (k3.mono (by first | omega | (simp; done) | (simp; omega)))).trans (k4.mono (by first | omega | (simp; done) | (simp; omega)))⟩

set_option maxHeartbeats 1000000 in
theorem exactEndOutside (a p : Int) (w : World) :
    Calls Try.prog 7 #[endV a p] w fun e w' => e = .returned (.bool true) ∧ Below w.heap.size w w' := by
  go_enter Try.func7, Try.ntmps7
  go_wp2_with fail
  refine (toEnd_any _ _ _).mono ?_
  rintro e w1 ⟨rfl, k1⟩
  have z1 := k1.size
  simp at z1
  have c1 := keepc k1 w.heap.size (by first | omega | (simp; done) | (simp; omega))
  go_wp2_with fail
  refine (spec2 _ _ _).mono ?_
  rintro e w2 ⟨rfl, k2⟩
  have z2 := k2.size
  have c2 := fun j => (keepc k2 w.heap.size (by first | omega | (simp; done) | (simp; omega)) j).trans (c1 j)
  go_wp2_with fail
  refine (toEnd_any _ _ _).mono ?_
  rintro e w3 ⟨rfl, k3⟩
  have z3 := k3.size
  go_wp2_with fail
  refine (impl2 _ _ _).mono ?_
  rintro e w4 ⟨rfl, k4⟩
  cases hb : isB 2 a p
  all_goals
    go_wp2
    go_ret
    exact ⟨rfl, (((((Below.refl _ _).alloc (Nat.le_refl _) _).trans (k1.mono (by first | omega | (simp; done) | (simp; omega)))).trans (k2.mono (by first | omega | (simp; done) | (simp; omega)))).trans (k3.mono (by first | omega | (simp; done) | (simp; omega)))).trans (k4.mono (by first | omega | (simp; done) | (simp; omega)))⟩


end Go.Proofs.Ytjlohhopknplpau.Exact

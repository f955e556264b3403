/- Walks: the exact law on the text of an end. -/
import Derived.Test.YtjlohhopknplpavDoorExact1
import Derived.Test.YtjlohhopknplpavDoorText
namespace Go.Proofs.YtjlohhopknplpavDoor.Exact
open Go.RowKit Go.Proofs.YtjlohhopknplpavDoor.Kit
open Go.Proofs.YtjlohhopknplpavDoor.EndW (endV)
open Go.Proofs.YtjlohhopknplpavDoor.Text (txt implText specText)

set_option maxHeartbeats 1000000 in
theorem exactEndText (a p : Int) (w : World) :
    Calls Tryd.prog 3 #[endV a p] w fun e w' => e = .returned (.bool true) ∧ Below w.heap.size w w' := by
  go_enter Tryd.func3, Tryd.ntmps3
  go_wp2_with fail
  refine (toEnd_any _ _ _).mono ?_
  rintro e w1 ⟨rfl, k1⟩
  have z1 := k1.size
  simp at z1
  have c1 := keepc k1 w.heap.size (by first | omega | (simp; done) | (simp; omega))
  go_wp2_with fail
  refine (specText _ _ _).mono ?_
  rintro e w2 ⟨rfl, k2⟩
  have z2 := k2.size
  have c2 := fun j => (keepc k2 w.heap.size (by first | omega | (simp; done) | (simp; omega)) j).trans (c1 j)
  go_wp2_with fail
  refine (toEnd_any _ _ _).mono ?_
  rintro e w3 ⟨rfl, k3⟩
  have z3 := k3.size
  go_wp2_with fail
  refine (implText _ _ _).mono ?_
  rintro e w4 ⟨rfl, k4⟩
  go_wp2
  go_ret
  exact ⟨rfl, (((((Below.refl _ _).alloc (Nat.le_refl _) _).trans (k1.mono (by first | omega | (simp; done) | (simp; omega)))).trans (k2.mono (by first | omega | (simp; done) | (simp; omega)))).trans (k3.mono (by first | omega | (simp; done) | (simp; omega)))).trans (k4.mono (by first | omega | (simp; done) | (simp; omega)))⟩
end Go.Proofs.YtjlohhopknplpavDoor.Exact

/- Walks: the exact law on reading an end. -/
import Derived.Test.YtjlohhopknplpavDoorLaid
import Derived.Test.YtjlohhopknplpavDoorSRead4
namespace Go.Proofs.YtjlohhopknplpavDoor.ExactR
open Go.RowKit Go.Proofs.YtjlohhopknplpavDoor.Kit
open Go.Proofs.YtjlohhopknplpavDoor.EndW (sideZ endV)
open Go.Proofs.YtjlohhopknplpavDoor.Read (Errs Told read_any sread_any told_one)

set_option maxHeartbeats 400000 in
theorem eqEnd_same (a p : Int) (w : World) :
    Calls Tryd.prog 10 #[endV a p, endV a p] w fun e w' => e = .returned (.bool true) ∧ Below w.heap.size w w' := by
  go_enter Tryd.func10, Tryd.ntmps10
  go_wp2
  go_ret
  exact ⟨rfl, ((Below.refl _ _).alloc (Nat.le_refl _) _).alloc (by simp) _⟩

set_option maxHeartbeats 400000 in
theorem long (s : ByteArray) (w : World) (h : (1048576 : Int) < (s.size : Int)) :
    Calls Tryd.prog 4 #[.string s] w fun e w' => e = .returned (.bool true) ∧ Below w.heap.size w w' := by
  go_enter Tryd.func4, Tryd.ntmps4
  go_wp2
  go_ret
  exact ⟨rfl, Below.refl _ _⟩

set_option maxHeartbeats 2000000 in
theorem short (s : ByteArray) (w : World) (h : (s.size : Int) ≤ 1048576) (herr : Errs w) :
    Calls Tryd.prog 4 #[.string s] w fun e w' => e = .returned (.bool true) ∧ Below w.heap.size w w' := by
  have hl0 : decide ((1048576 : Int) < (s.size : Int)) = false := by simp; omega
  go_enter Tryd.func4, Tryd.ntmps4
  go_wp2_with fail
  refine (sread_any _ _).mono ?_
  rintro e w2 ⟨x, y, b, rfl, k2, ht⟩
  have z2 := k2.size
  have al : Below w2.heap.size w2 (w2.alloc (.cells #[.int .i64 x, .int .i64 y] 25)) := (Below.refl _ _).alloc (Nat.le_refl _) _
  have e2 := (herr.below k2).below al
  go_wp2_with fail
  refine (read_any _ _ (by omega) e2).mono ?_
  rintro e w3 ⟨u, v, c, rfl, k3, hu⟩
  obtain ⟨rfl, rfl, rfl⟩ := told_one ht hu
  clear hu ht e2
  have z3 := k3.size
  simp at z3
  have hlt : w2.heap.size < w3.heap.size := by omega
  have c3 := keepc k3 w2.heap.size (by first | omega | (simp; done) | (simp; omega))
  have bel3 := (k2.trans (al.mono (by first | omega | (simp; done) | (simp; omega)))).trans (k3.mono (by first | omega | (simp; done) | (simp; omega)))
  clear k3 al k2
  go_wp2_with fail
  refine (eqEnd_same _ _ _).mono ?_
  rintro e w4 ⟨rfl, k4⟩
  go_wp2
  go_ret
  exact ⟨rfl, (bel3.alloc (by omega) _).trans (k4.mono (by first | omega | (simp; done) | (simp; omega)))⟩
end Go.Proofs.YtjlohhopknplpavDoor.ExactR

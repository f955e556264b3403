/- Walks: the three questions of which side an end is on, of the program and of its model, answer alike. -/
import Derived.Test.YtfmjhbdbgcgoiaaGreatDoorEndW
namespace Go.Proofs.YtfmjhbdbgcgoiaaGreatDoor.EndW
open Go.RowKit

/-- whether an end is on a side -/
def isB (k a p : Int) : Bool := sideZ a p == k
theorem isB_in (a p : Int) : isB 1 a p = (decide (1 ≤ a) && decide (a ≤ 3) && hostB p) := by
  unfold isB sideZ hostB
  rw [Bool.eq_iff_iff]; simp only [beq_iff_eq, Bool.and_eq_true, decide_eq_true_eq]
  split <;> (try split) <;> (try split) <;> omega
theorem isB_out (a p : Int) : isB 2 a p = (decide (4 ≤ a) && decide (a ≤ 6) && hostB p) := by
  unfold isB sideZ hostB
  rw [Bool.eq_iff_iff]; simp only [beq_iff_eq, Bool.and_eq_true, decide_eq_true_eq]
  split <;> (try split) <;> (try split) <;> omega
theorem isB_door (a p : Int) : isB 3 a p = (decide (a = 9) && doorB p) := by
  unfold isB sideZ doorB
  rw [Bool.eq_iff_iff]; simp only [beq_iff_eq, Bool.and_eq_true, decide_eq_true_eq]
  split <;> (try split) <;> (try split) <;> omega

set_option maxHeartbeats 400000 in
theorem impl1 (a p : Int) (w : World) :
    Calls Tryz.prog 76 #[endV a p] w fun e w' => e = .returned (.bool (isB 1 a p)) ∧ Below w.heap.size w w' := by
  go_enter Tryz.func76, Tryz.ntmps76
  go_wp2_with (go_at_call 106; refine (side_any _ _ _).mono ?_; rintro e w1 ⟨rfl, hb1⟩)
  go_ret
  exact ⟨rfl, ((Below.refl _ _).alloc (Nat.le_refl _) _).trans (hb1.mono (by simp))⟩

set_option maxHeartbeats 400000 in
theorem impl2 (a p : Int) (w : World) :
    Calls Tryz.prog 77 #[endV a p] w fun e w' => e = .returned (.bool (isB 2 a p)) ∧ Below w.heap.size w w' := by
  go_enter Tryz.func77, Tryz.ntmps77
  go_wp2_with (go_at_call 106; refine (side_any _ _ _).mono ?_; rintro e w1 ⟨rfl, hb1⟩)
  go_ret
  exact ⟨rfl, ((Below.refl _ _).alloc (Nat.le_refl _) _).trans (hb1.mono (by simp))⟩

set_option maxHeartbeats 400000 in
theorem impl3 (a p : Int) (w : World) :
    Calls Tryz.prog 87 #[endV a p] w fun e w' => e = .returned (.bool (isB 3 a p)) ∧ Below w.heap.size w w' := by
  go_enter Tryz.func87, Tryz.ntmps87
  go_wp2_with (go_at_call 106; refine (side_any _ _ _).mono ?_; rintro e w1 ⟨rfl, hb1⟩)
  go_ret
  exact ⟨rfl, ((Below.refl _ _).alloc (Nat.le_refl _) _).trans (hb1.mono (by simp))⟩

/-- from low to high -/
def inB (n lo hi : Int) : Bool := decide (lo ≤ n) && decide (n ≤ hi)
set_option maxHeartbeats 400000 in
theorem l6in_any (n lo hi : Int) (w : World) :
    Calls Tryz.prog 55 #[.int .i64 n, .int .i64 lo, .int .i64 hi] w fun e w' => e = .returned (.bool (inB n lo hi)) ∧ w' = w := by
  by_cases h1 : lo ≤ n
  · by_cases h2 : n ≤ hi
    all_goals
      go_enter Tryz.func55, Tryz.ntmps55
      go_wp2
      go_ret
      exact ⟨by simp [inB, h1, h2], rfl⟩
  · go_enter Tryz.func55, Tryz.ntmps55
    go_wp2
    go_ret
    exact ⟨by simp [inB]; omega, rfl⟩

set_option maxHeartbeats 400000 in
theorem l1host_any (a p : Int) (w : World) :
    Calls Tryz.prog 56 #[endV a p] w fun e w' => e = .returned (.bool (hostB p)) ∧ Below w.heap.size w w' := by
  go_enter Tryz.func56, Tryz.ntmps56
  go_wp2_with (go_at_call 55; refine (l6in_any _ _ _ _).mono ?_; rintro e w1 ⟨rfl, rfl⟩)
  go_ret
  exact ⟨rfl, (Below.refl _ _).alloc (Nat.le_refl _) _⟩

set_option maxHeartbeats 400000 in
theorem spec1 (a p : Int) (w : World) :
    Calls Tryz.prog 36 #[endV a p] w fun e w' => e = .returned (.bool (isB 1 a p)) ∧ Below w.heap.size w w' := by
  cases hi : inB a 1 3
  · have e0 : isB 1 a p = false := by rw [isB_in]; simp [inB] at hi; simp; omega
    rw [e0]; clear e0
    go_enter Tryz.func36, Tryz.ntmps36
    go_wp2_with (go_at_call 55; refine (l6in_any _ _ _ _).mono ?_; rintro e w1 ⟨rfl, rfl⟩)
    go_ret
    exact ⟨rfl, (Below.refl _ _).alloc (Nat.le_refl _) _⟩
  · have e0 : isB 1 a p = hostB p := by rw [isB_in]; simp [inB] at hi; simp [hi]
    rw [e0]; clear e0
    go_enter Tryz.func36, Tryz.ntmps36
    go_wp2_with (first | (go_at_call 55; refine (l6in_any _ _ _ _).mono ?_; rintro e w1 ⟨rfl, rfl⟩) | (go_at_call 56; refine (l1host_any _ _ _).mono ?_; rintro e w1 ⟨rfl, hb1⟩))
    go_ret
    exact ⟨rfl, ((Below.refl _ _).alloc (Nat.le_refl _) _).trans (hb1.mono (by simp))⟩

set_option maxHeartbeats 400000 in
theorem spec2 (a p : Int) (w : World) :
    Calls Tryz.prog 26 #[endV a p] w fun e w' => e = .returned (.bool (isB 2 a p)) ∧ Below w.heap.size w w' := by
  cases hi : inB a 4 6
  · have e0 : isB 2 a p = false := by rw [isB_out]; simp [inB] at hi; simp; omega
    rw [e0]; clear e0
    go_enter Tryz.func26, Tryz.ntmps26
    go_wp2_with (go_at_call 55; refine (l6in_any _ _ _ _).mono ?_; rintro e w1 ⟨rfl, rfl⟩)
    go_ret
    exact ⟨rfl, (Below.refl _ _).alloc (Nat.le_refl _) _⟩
  · have e0 : isB 2 a p = hostB p := by rw [isB_out]; simp [inB] at hi; simp [hi]
    rw [e0]; clear e0
    go_enter Tryz.func26, Tryz.ntmps26
    go_wp2_with (first | (go_at_call 55; refine (l6in_any _ _ _ _).mono ?_; rintro e w1 ⟨rfl, rfl⟩) | (go_at_call 56; refine (l1host_any _ _ _).mono ?_; rintro e w1 ⟨rfl, hb1⟩))
    go_ret
    exact ⟨rfl, ((Below.refl _ _).alloc (Nat.le_refl _) _).trans (hb1.mono (by simp))⟩

set_option maxHeartbeats 400000 in
theorem spec3 (a p : Int) (w : World) :
    Calls Tryz.prog 48 #[endV a p] w fun e w' => e = .returned (.bool (isB 3 a p)) ∧ Below w.heap.size w w' := by
  by_cases h9 : a = 9
  · subst h9
    have e0 : isB 3 9 p = doorB p := by rw [isB_door]; simp
    rw [e0]; clear e0
    go_enter Tryz.func48, Tryz.ntmps48
    go_wp2_with (go_at_call 55; refine (l6in_any _ _ _ _).mono ?_; rintro e w1 ⟨rfl, rfl⟩)
    go_ret
    exact ⟨rfl, (Below.refl _ _).alloc (Nat.le_refl _) _⟩
  · have e0 : isB 3 a p = false := by rw [isB_door]; simp [h9]
    rw [e0]; clear e0
    have hb : (a == 9) = false := by simpa using h9
    go_enter Tryz.func48, Tryz.ntmps48
    go_wp2
    go_ret
    exact ⟨rfl, (Below.refl _ _).alloc (Nat.le_refl _) _⟩

end Go.Proofs.YtfmjhbdbgcgoiaaGreatDoor.EndW

/- Walks of the ends' own functions: which side an end is on. -/
import Derived.Test.YtfmjhbdbgcgoiaaGreatDoorRows
import Derived.WalkKit
import Derived.ProofKit
import Derived.WalkLawsBesides
import Derived.WalkSpells
import Derived.Below
namespace Go.Proofs.YtfmjhbdbgcgoiaaGreatDoor.EndW
open Go.RowKit

/-- which side an end is on: 0 none, 1 inside, 2 outside, 3 the door -/
def sideZ (a p : Int) : Int :=
  if 1 ≤ a ∧ a ≤ 3 ∧ 1 ≤ p ∧ p ≤ 9 then 1
  else if 4 ≤ a ∧ a ≤ 6 ∧ 1 ≤ p ∧ p ≤ 9 then 2
  else if a = 9 ∧ 10 ≤ p ∧ p ≤ 17 then 3 else 0

abbrev endV (a p : Int) : Value := .agg #[.int .i64 a, .int .i64 p]

set_option maxHeartbeats 400000 in
theorem owner1 (a p : Int) (w : World) (h1 : 1 ≤ a) (h2 : a ≤ 3) :
    Calls Tryz.prog 124 #[endV a p] w fun e w' => e = .returned (.iface 178 (endV a p)) ∧ Below w.heap.size w w' := by
  go_enter Tryz.func124, Tryz.ntmps124
  go_wp2
  go_ret
  exact ⟨rfl, (Below.refl _ _).alloc (Nat.le_refl _) _⟩

set_option maxHeartbeats 400000 in
theorem owner2 (a p : Int) (w : World) (h1 : 4 ≤ a) (h2 : a ≤ 6) :
    Calls Tryz.prog 124 #[endV a p] w fun e w' => e = .returned (.iface 179 (endV a p)) ∧ Below w.heap.size w w' := by
  go_enter Tryz.func124, Tryz.ntmps124
  go_wp2
  go_ret
  exact ⟨rfl, (Below.refl _ _).alloc (Nat.le_refl _) _⟩

set_option maxHeartbeats 400000 in
theorem owner3 (p : Int) (w : World) :
    Calls Tryz.prog 124 #[endV 9 p] w fun e w' => e = .returned (.iface 180 (endV 9 p)) ∧ Below w.heap.size w w' := by
  go_enter Tryz.func124, Tryz.ntmps124
  go_wp2
  go_ret
  exact ⟨rfl, (Below.refl _ _).alloc (Nat.le_refl _) _⟩

set_option maxHeartbeats 400000 in
theorem owner0 (a p : Int) (w : World) (h : a < 1 ∨ 6 < a) (h9 : (a == 9) = false) :
    Calls Tryz.prog 124 #[endV a p] w fun e w' => e = .returned .nilIface ∧ Below w.heap.size w w' := by
  rcases h with h | h
  all_goals
    go_enter Tryz.func124, Tryz.ntmps124
    go_wp2
    go_ret
    exact ⟨rfl, (Below.refl _ _).alloc (Nat.le_refl _) _⟩

/-- a port of a host -/
def hostB (p : Int) : Bool := decide (1 ≤ p) && decide (p ≤ 9)

set_option maxHeartbeats 400000 in
theorem host_any (p : Int) (w : World) :
    Calls Tryz.prog 219 #[.int .i64 p] w fun e w' => e = .returned (.bool (hostB p)) ∧ w' = w := by
  by_cases h1 : 1 ≤ p
  · by_cases h2 : p ≤ 9
    all_goals
      go_enter Tryz.func219, Tryz.ntmps219
      go_wp2
      go_ret
      exact ⟨by simp [hostB, h1, h2], rfl⟩
  · go_enter Tryz.func219, Tryz.ntmps219
    go_wp2
    go_ret
    exact ⟨by simp [hostB]; omega, rfl⟩

set_option maxHeartbeats 400000 in
theorem owns1 (a p : Int) (w : World) :
    Calls Tryz.prog 218 #[endV a p] w fun e w' => e = .returned (.bool (hostB p)) ∧ Below w.heap.size w w' := by
  go_enter Tryz.func218, Tryz.ntmps218
  go_wp2_with (go_at_call 219; refine (host_any _ _).mono ?_; rintro e w' ⟨rfl, rfl⟩)
  go_ret
  exact ⟨rfl, (Below.refl _ _).alloc (Nat.le_refl _) _⟩

set_option maxHeartbeats 400000 in
theorem owns2 (a p : Int) (w : World) :
    Calls Tryz.prog 220 #[endV a p] w fun e w' => e = .returned (.bool (hostB p)) ∧ Below w.heap.size w w' := by
  go_enter Tryz.func220, Tryz.ntmps220
  go_wp2_with (go_at_call 219; refine (host_any _ _).mono ?_; rintro e w' ⟨rfl, rfl⟩)
  go_ret
  exact ⟨rfl, (Below.refl _ _).alloc (Nat.le_refl _) _⟩

/-- a port of the door -/
def doorB (p : Int) : Bool := decide (10 ≤ p) && decide (p ≤ 17)

set_option maxHeartbeats 400000 in
theorem owns3 (a p : Int) (w : World) :
    Calls Tryz.prog 221 #[endV a p] w fun e w' => e = .returned (.bool (doorB p)) ∧ Below w.heap.size w w' := by
  by_cases h1 : 10 ≤ p
  · by_cases h2 : p ≤ 17
    all_goals
      go_enter Tryz.func221, Tryz.ntmps221
      go_wp2
      go_ret
      exact ⟨by simp [doorB, h1, h2], (Below.refl _ _).alloc (Nat.le_refl _) _⟩
  · go_enter Tryz.func221, Tryz.ntmps221
    go_wp2
    go_ret
    exact ⟨by simp [doorB]; omega, (Below.refl _ _).alloc (Nat.le_refl _) _⟩

theorem meth1 (a p : Int) (w : World) : (method 382 178 (endV a p) "loop.example/ostiary/impl.ownsPort").run Tryz.prog w = .ok (218, endV a p) w := by kernel_rfl
theorem meth2 (a p : Int) (w : World) : (method 382 179 (endV a p) "loop.example/ostiary/impl.ownsPort").run Tryz.prog w = .ok (220, endV a p) w := by kernel_rfl
theorem meth3 (a p : Int) (w : World) : (method 382 180 (endV a p) "loop.example/ostiary/impl.ownsPort").run Tryz.prog w = .ok (221, endV a p) w := by kernel_rfl

theorem as11 (a p : Int) (w : World) : (Instr.typeAssert (.iface 178 (endV a p)) 176 178 true).run Tryz.prog w = .ok (.tuple #[endV a p, .bool true]) w := by kernel_rfl
theorem as12 (a p : Int) (w : World) : (Instr.typeAssert (.iface 178 (endV a p)) 176 179 true).run Tryz.prog w = .ok (.tuple #[endV 0 0, .bool false]) w := by kernel_rfl
theorem as13 (a p : Int) (w : World) : (Instr.typeAssert (.iface 178 (endV a p)) 176 180 true).run Tryz.prog w = .ok (.tuple #[endV 0 0, .bool false]) w := by kernel_rfl
theorem as21 (a p : Int) (w : World) : (Instr.typeAssert (.iface 179 (endV a p)) 176 178 true).run Tryz.prog w = .ok (.tuple #[endV 0 0, .bool false]) w := by kernel_rfl
theorem as22 (a p : Int) (w : World) : (Instr.typeAssert (.iface 179 (endV a p)) 176 179 true).run Tryz.prog w = .ok (.tuple #[endV a p, .bool true]) w := by kernel_rfl
theorem as23 (a p : Int) (w : World) : (Instr.typeAssert (.iface 179 (endV a p)) 176 180 true).run Tryz.prog w = .ok (.tuple #[endV 0 0, .bool false]) w := by kernel_rfl
theorem as31 (a p : Int) (w : World) : (Instr.typeAssert (.iface 180 (endV a p)) 176 178 true).run Tryz.prog w = .ok (.tuple #[endV 0 0, .bool false]) w := by kernel_rfl
theorem as32 (a p : Int) (w : World) : (Instr.typeAssert (.iface 180 (endV a p)) 176 179 true).run Tryz.prog w = .ok (.tuple #[endV 0 0, .bool false]) w := by kernel_rfl
theorem as33 (a p : Int) (w : World) : (Instr.typeAssert (.iface 180 (endV a p)) 176 180 true).run Tryz.prog w = .ok (.tuple #[endV a p, .bool true]) w := by kernel_rfl

set_option maxHeartbeats 400000 in
theorem side1 (a p : Int) (w : World) (h1 : 1 ≤ a) (h2 : a ≤ 3) (hp : hostB p = true) :
    Calls Tryz.prog 106 #[endV a p] w fun e w' => e = .returned (.int .i64 1) ∧ Below w.heap.size w w' := by
  have hm := meth1 a p
  have t1 := as11 a p
  have t2 := as12 a p
  have t3 := as13 a p
  go_enter Tryz.func106, Tryz.ntmps106
  go_wp2_with (first | (go_at_call 124; refine (owner1 _ _ _ h1 h2).mono ?_; rintro e w1 ⟨rfl, hb1⟩) | (go_at_call 218; refine (owns1 _ _ _).mono ?_; rintro e w2 ⟨rfl, hb2⟩))
  go_ret
  exact ⟨rfl, (((Below.refl _ _).alloc (Nat.le_refl _) _).trans (hb1.mono (by simp))).trans (hb2.mono (by have := hb1.size; simp at this; omega))⟩

set_option maxHeartbeats 400000 in
theorem side1no (a p : Int) (w : World) (h1 : 1 ≤ a) (h2 : a ≤ 3) (hp : hostB p = false) :
    Calls Tryz.prog 106 #[endV a p] w fun e w' => e = .returned (.int .i64 0) ∧ Below w.heap.size w w' := by
  have hm := meth1 a p
  go_enter Tryz.func106, Tryz.ntmps106
  go_wp2_with (first | (go_at_call 124; refine (owner1 _ _ _ h1 h2).mono ?_; rintro e w1 ⟨rfl, hb1⟩) | (go_at_call 218; refine (owns1 _ _ _).mono ?_; rintro e w2 ⟨rfl, hb2⟩))
  go_ret
  exact ⟨rfl, (((Below.refl _ _).alloc (Nat.le_refl _) _).trans (hb1.mono (by simp))).trans (hb2.mono (by have := hb1.size; simp at this; omega))⟩

set_option maxHeartbeats 400000 in
theorem side2 (a p : Int) (w : World) (h1 : 4 ≤ a) (h2 : a ≤ 6) (hp : hostB p = true) :
    Calls Tryz.prog 106 #[endV a p] w fun e w' => e = .returned (.int .i64 2) ∧ Below w.heap.size w w' := by
  have hm := meth2 a p
  have t1 := as21 a p
  have t2 := as22 a p
  have t3 := as23 a p
  go_enter Tryz.func106, Tryz.ntmps106
  go_wp2_with (first | (go_at_call 124; refine (owner2 _ _ _ h1 h2).mono ?_; rintro e w1 ⟨rfl, hb1⟩) | (go_at_call 220; refine (owns2 _ _ _).mono ?_; rintro e w2 ⟨rfl, hb2⟩))
  go_ret
  exact ⟨rfl, (((Below.refl _ _).alloc (Nat.le_refl _) _).trans (hb1.mono (by simp))).trans (hb2.mono (by have := hb1.size; simp at this; omega))⟩

set_option maxHeartbeats 400000 in
theorem side2no (a p : Int) (w : World) (h1 : 4 ≤ a) (h2 : a ≤ 6) (hp : hostB p = false) :
    Calls Tryz.prog 106 #[endV a p] w fun e w' => e = .returned (.int .i64 0) ∧ Below w.heap.size w w' := by
  have hm := meth2 a p
  go_enter Tryz.func106, Tryz.ntmps106
  go_wp2_with (first | (go_at_call 124; refine (owner2 _ _ _ h1 h2).mono ?_; rintro e w1 ⟨rfl, hb1⟩) | (go_at_call 220; refine (owns2 _ _ _).mono ?_; rintro e w2 ⟨rfl, hb2⟩))
  go_ret
  exact ⟨rfl, (((Below.refl _ _).alloc (Nat.le_refl _) _).trans (hb1.mono (by simp))).trans (hb2.mono (by have := hb1.size; simp at this; omega))⟩

set_option maxHeartbeats 400000 in
theorem side3 (p : Int) (w : World) (hp : doorB p = true) :
    Calls Tryz.prog 106 #[endV 9 p] w fun e w' => e = .returned (.int .i64 3) ∧ Below w.heap.size w w' := by
  have hm := meth3 9 p
  have t1 := as31 9 p
  have t2 := as32 9 p
  have t3 := as33 9 p
  go_enter Tryz.func106, Tryz.ntmps106
  go_wp2_with (first | (go_at_call 124; refine (owner3 _ _).mono ?_; rintro e w1 ⟨rfl, hb1⟩) | (go_at_call 221; refine (owns3 _ _ _).mono ?_; rintro e w2 ⟨rfl, hb2⟩))
  go_ret
  exact ⟨rfl, (((Below.refl _ _).alloc (Nat.le_refl _) _).trans (hb1.mono (by simp))).trans (hb2.mono (by have := hb1.size; simp at this; omega))⟩

set_option maxHeartbeats 400000 in
theorem side3no (p : Int) (w : World) (hp : doorB p = false) :
    Calls Tryz.prog 106 #[endV 9 p] w fun e w' => e = .returned (.int .i64 0) ∧ Below w.heap.size w w' := by
  have hm := meth3 9 p
  go_enter Tryz.func106, Tryz.ntmps106
  go_wp2_with (first | (go_at_call 124; refine (owner3 _ _).mono ?_; rintro e w1 ⟨rfl, hb1⟩) | (go_at_call 221; refine (owns3 _ _ _).mono ?_; rintro e w2 ⟨rfl, hb2⟩))
  go_ret
  exact ⟨rfl, (((Below.refl _ _).alloc (Nat.le_refl _) _).trans (hb1.mono (by simp))).trans (hb2.mono (by have := hb1.size; simp at this; omega))⟩

set_option maxHeartbeats 400000 in
theorem side0 (a p : Int) (w : World) (h : a < 1 ∨ 6 < a) (h9 : (a == 9) = false) :
    Calls Tryz.prog 106 #[endV a p] w fun e w' => e = .returned (.int .i64 0) ∧ Below w.heap.size w w' := by
  go_enter Tryz.func106, Tryz.ntmps106
  go_wp2_with (go_at_call 124; refine (owner0 _ _ _ h h9).mono ?_; rintro e w1 ⟨rfl, hb1⟩)
  go_ret
  exact ⟨rfl, ((Below.refl _ _).alloc (Nat.le_refl _) _).trans (hb1.mono (by simp))⟩

theorem side_any (a p : Int) (w : World) :
    Calls Tryz.prog 106 #[endV a p] w fun e w' => e = .returned (.int .i64 (sideZ a p)) ∧ Below w.heap.size w w' := by
  by_cases h1 : 1 ≤ a ∧ a ≤ 3
  · cases hp : hostB p
    · have e : sideZ a p = 0 := by simp [hostB] at hp; unfold sideZ; rw [if_neg (by omega), if_neg (by omega), if_neg (by omega)]
      rw [e]; exact side1no a p w h1.1 h1.2 hp
    · have e : sideZ a p = 1 := by simp [hostB] at hp; unfold sideZ; rw [if_pos (by omega)]
      rw [e]; exact side1 a p w h1.1 h1.2 hp
  · by_cases h2 : 4 ≤ a ∧ a ≤ 6
    · cases hp : hostB p
      · have e : sideZ a p = 0 := by simp [hostB] at hp; unfold sideZ; rw [if_neg (by omega), if_neg (by omega), if_neg (by omega)]
        rw [e]; exact side2no a p w h2.1 h2.2 hp
      · have e : sideZ a p = 2 := by simp [hostB] at hp; unfold sideZ; rw [if_neg (by omega), if_pos (by omega)]
        rw [e]; exact side2 a p w h2.1 h2.2 hp
    · by_cases h3 : a = 9
      · subst h3
        cases hp : doorB p
        · have e : sideZ 9 p = 0 := by simp [doorB] at hp; unfold sideZ; rw [if_neg (by omega), if_neg (by omega), if_neg (by omega)]
          rw [e]; exact side3no p w hp
        · have e : sideZ 9 p = 3 := by simp [doorB] at hp; unfold sideZ; rw [if_neg (by omega), if_neg (by omega), if_pos (by omega)]
          rw [e]; exact side3 p w hp
      · have e : sideZ a p = 0 := by unfold sideZ; rw [if_neg (by omega), if_neg (by omega), if_neg (by omega)]
        rw [e]; exact side0 a p w (by omega) (by simpa using h3)

end Go.Proofs.YtfmjhbdbgcgoiaaGreatDoor.EndW

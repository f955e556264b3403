/- Walks: the text of an end, of the program and of its model, is the same. -/
import Derived.Test.YtnjggammbebpkaaGreatDoorEndV
import Derived.Test.YtnjggammbebpkaaGreatDoorDec
import Derived.BigQuiet
import Derived.Deep.QuietTactic
namespace Go.Proofs.YtnjggammbebpkaaGreatDoor.Text
open Go.RowKit Go.Proofs.YtnjggammbebpkaaGreatDoor.Kit
open Go.Proofs.YtnjggammbebpkaaGreatDoor.EndW
open Go.Proofs.YtnjggammbebpkaaGreatDoor.Itoa (decS decS_size dec_any)
open Go.Proofs.YtnjggammbebpkaaGreatDoor.Itoa (itoa_any)

/-- the text of an end -/
def txt (a p : Int) : ByteArray := if sideZ a p = 0 then ⟨#[]⟩ else decS a ++ ⟨#[58]⟩ ++ decS p

theorem below_drewN (B : Nat) (w : World) (n : Nat) : Below B w (w.drewN n) := ⟨rfl, rfl, rfl, Nat.le_refl _, fun _ _ => rfl⟩

theorem side_bd (a p : Int) (h : sideZ a p ≠ 0) : 1 ≤ a ∧ a ≤ 9 ∧ 1 ≤ p ∧ p ≤ 17 := by
  unfold sideZ at h
  split at h
  · omega
  · split at h
    · omega
    · split at h
      · omega
      · exact absurd rfl h

set_option maxHeartbeats 1000000 in
theorem implText (a p : Int) (w : World) :
    Calls Tryz.prog 16 #[endV a p] w fun e w' => e = .returned (.string (txt a p)) ∧ Below w.heap.size w w' := by
  by_cases h : sideZ a p = 0
  · have e0 : txt a p = ⟨#[]⟩ := by unfold txt; rw [if_pos h]
    rw [e0]; clear e0
    go_enter Tryz.func16, Tryz.ntmps16
    go_wp2_with (go_at_call 24; refine (side_any _ _ _).mono ?_; rintro e w1 ⟨rfl, k1⟩)
    go_ret
    exact ⟨rfl, ((Below.refl _ _).alloc (Nat.le_refl _) _).trans (k1.mono (by simp))⟩
  · have e0 : txt a p = decS a ++ ⟨#[58]⟩ ++ decS p := by unfold txt; rw [if_neg h]
    rw [e0]; clear e0
    have hbd := side_bd a p h
    have hne : (sideZ a p == 0) = false := by simpa using h
    have s1 := decS_size a
    have s2 := decS_size p
    go_enter Tryz.func16, Tryz.ntmps16
    go_wp2_with (go_at_call 24; refine (side_any _ _ _).mono ?_; rintro e w1 ⟨rfl, k1⟩; have z1 := k1.size; (try simp at z1); have c1 := keepc k1 w.heap.size (by first | omega | (simp; done) | (simp; omega)))
    go_quiet ((go_at_call 17; exact Calls.quiet_of_same (itoa_any _ _ (by omega) (by omega))))
    go_wp2
    go_ret
    exact ⟨rfl, ((((Below.refl _ _).alloc (Nat.le_refl _) _).trans (k1.mono (by simp)))).trans (below_drewN _ _ _)⟩

theorem side_or (a p : Int) : (sideZ a p != 0) = (isB 1 a p || isB 2 a p || isB 3 a p) := by
  unfold isB
  rw [Bool.eq_iff_iff]
  simp only [bne_iff_ne, Bool.or_eq_true, beq_iff_eq]
  unfold sideZ
  split
  · omega
  · split
    · omega
    · split <;> omega

set_option maxHeartbeats 1000000 in
theorem any_spec (a p : Int) (w : World) :
    Calls Tryz.prog 38 #[endV a p] w fun e w' => e = .returned (.bool (sideZ a p != 0)) ∧ Below w.heap.size w w' := by
  rw [side_or]
  cases hI : isB 1 a p
  · cases hO : isB 2 a p
    · go_enter Tryz.func38, Tryz.ntmps38
      go_wp2_with fail
      refine (spec1 _ _ _).mono ?_
      rintro e w1 ⟨rfl, k1⟩
      have z1 := k1.size
      simp at z1
      have c1 := keepc k1 w.heap.size (by first | omega | (simp; done) | (simp; omega))
      go_wp2_with fail
      refine (spec2 _ _ _).mono ?_
      rintro e w2 ⟨rfl, k2⟩
      have z2 := k2.size
      have c2 := fun j => (keepc k2 w.heap.size (by first | omega | (simp; done) | (simp; omega)) j).trans (c1 j)
      go_wp2_with fail
      refine (spec3 _ _ _).mono ?_
      rintro e w3 ⟨rfl, k3⟩
      go_wp2_with fail
      go_ret
      exact ⟨rfl, ((((Below.refl _ _).alloc (Nat.le_refl _) _).trans (k1.mono (by first | omega | (simp; done) | (simp; omega)))).trans (k2.mono (by first | omega | (simp; done) | (simp; omega)))).trans (k3.mono (by first | omega | (simp; done) | (simp; omega)))⟩
    · go_enter Tryz.func38, Tryz.ntmps38
      go_wp2_with fail
      refine (spec1 _ _ _).mono ?_
      rintro e w1 ⟨rfl, k1⟩
      have z1 := k1.size
      simp at z1
      have c1 := keepc k1 w.heap.size (by first | omega | (simp; done) | (simp; omega))
      go_wp2_with fail
      refine (spec2 _ _ _).mono ?_
      rintro e w2 ⟨rfl, k2⟩
      go_wp2_with fail
      go_ret
      exact ⟨rfl, (((Below.refl _ _).alloc (Nat.le_refl _) _).trans (k1.mono (by first | omega | (simp; done) | (simp; omega)))).trans (k2.mono (by first | omega | (simp; done) | (simp; omega)))⟩
  · go_enter Tryz.func38, Tryz.ntmps38
    go_wp2_with fail
    refine (spec1 _ _ _).mono ?_
    rintro e w1 ⟨rfl, k1⟩
    go_wp2_with fail
    go_ret
    exact ⟨rfl, ((Below.refl _ _).alloc (Nat.le_refl _) _).trans (k1.mono (by first | omega | (simp; done) | (simp; omega)))⟩

set_option maxHeartbeats 1000000 in
theorem specText (a p : Int) (w : World) :
    Calls Tryz.prog 20 #[endV a p] w fun e w' => e = .returned (.string (txt a p)) ∧ Below w.heap.size w w' := by
  by_cases h : sideZ a p = 0
  · have e0 : txt a p = ⟨#[]⟩ := by unfold txt; rw [if_pos h]
    rw [e0]; clear e0
    have hne : (sideZ a p != 0) = false := by simpa using h
    go_enter Tryz.func20, Tryz.ntmps20
    go_wp2_with (go_at_call 38; refine (any_spec _ _ _).mono ?_; rintro e w1 ⟨rfl, k1⟩)
    go_ret
    exact ⟨rfl, ((Below.refl _ _).alloc (Nat.le_refl _) _).trans (k1.mono (by simp))⟩
  · have e0 : txt a p = decS a ++ ⟨#[58]⟩ ++ decS p := by unfold txt; rw [if_neg h]
    rw [e0]; clear e0
    have hbd := side_bd a p h
    have hne : (sideZ a p != 0) = true := by simpa using h
    have s1 := decS_size a
    have s2 := decS_size p
    go_enter Tryz.func20, Tryz.ntmps20
    go_wp2_with (go_at_call 38; refine (any_spec _ _ _).mono ?_; rintro e w1 ⟨rfl, k1⟩; have z1 := k1.size; (try simp at z1); have c1 := keepc k1 w.heap.size (by first | omega | (simp; done) | (simp; omega)))
    have bel : Below w.heap.size w w1 := ((Below.refl _ _).alloc (Nat.le_refl _) _).trans (k1.mono (by first | omega | (simp; done) | (simp; omega)))
    go_region_with (go_at_call 21; refine (dec_any _ _ (by omega) (by omega)).mono ?_; rintro e w2 ⟨rfl, k2⟩; have z2 := k2.size; (try simp at z2); have c2 := keepc k2 w.heap.size (by first | omega | (simp; done) | (simp; omega)); first | have bel := bel.trans (k2.mono (by first | omega | (simp; done) | (simp; omega))) | have bel := bel.drew.trans (k2.mono (by first | omega | (simp; done) | (simp; omega))))
    all_goals
      go_wp2
      go_ret
      exact ⟨rfl, bel⟩
end Go.Proofs.YtnjggammbebpkaaGreatDoor.Text

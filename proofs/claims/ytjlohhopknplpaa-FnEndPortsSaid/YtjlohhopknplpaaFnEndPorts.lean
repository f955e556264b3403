/- The walk of the law on the ports of ends: it answers true. -/
import Derived.Test.YtjlohhopknplpaaEndV
import Derived.Test.YtjlohhopknplpaaDrawn
import Derived.Deep.RegionWith
namespace Go.Proofs.Ytjlohhopknplpaa.Ports
open Go.RowKit Go.Proofs.Ytjlohhopknplpaa.Kit Go.Proofs.Ytjlohhopknplpaa.Draw
open Go.Proofs.Ytjlohhopknplpaa.EndW (isB isB_in isB_out isB_door hostB doorB impl1 impl2 impl3 spec3)

set_option maxHeartbeats 400000 in
theorem long0 (a0 : Option Addr) (len0 cap0 : Nat) (a1 : Option Addr) (len1 cap1 : Nat) (w : World) (h : (1048576 : Int) < (len0 : Int)) :
    Calls Try.prog 3 #[.slice a0 len0 cap0, .slice a1 len1 cap1] w fun e w' => e = .returned (.bool true) ∧ Below w.heap.size w w' := by
  go_enter Try.func3, Try.ntmps3
  go_wp2
  go_ret
  exact ⟨rfl, Below.refl _ _⟩

set_option maxHeartbeats 400000 in
theorem long1 (a0 : Option Addr) (len0 cap0 : Nat) (a1 : Option Addr) (len1 cap1 : Nat) (w : World) (h : (len0 : Int) ≤ 1048576) (h1 : (1048576 : Int) < (len1 : Int)) :
    Calls Try.prog 3 #[.slice a0 len0 cap0, .slice a1 len1 cap1] w fun e w' => e = .returned (.bool true) ∧ Below w.heap.size w w' := by
  go_enter Try.func3, Try.ntmps3
  go_wp2
  go_ret
  exact ⟨rfl, Below.refl _ _⟩

theorem q_door (q : Int) (h0 : 1 ≤ q) (h1 : q ≤ 17) : isB 3 9 q = decide (10 ≤ q) ∧ isB 1 9 q = false ∧ isB 2 9 q = false := by
  refine ⟨?_, ?_, ?_⟩
  · rw [isB_door]; unfold doorB; rw [Bool.eq_iff_iff]; simp; omega
  · rw [isB_in]; rfl
  · rw [isB_out]; rfl
theorem q_in (x y q : Int) (h : isB 1 x y = true) (h0 : 1 ≤ q) : isB 1 x q = decide (q ≤ 9) ∧ isB 2 x y = false := by
  rw [isB_in] at h; simp [hostB] at h
  refine ⟨?_, ?_⟩
  · rw [isB_in]; unfold hostB; rw [Bool.eq_iff_iff]; simp; omega
  · rw [isB_out]; simp; omega
theorem q_out (x y q : Int) (h : isB 2 x y = true) (h0 : 1 ≤ q) : isB 2 x q = decide (q ≤ 9) := by
  rw [isB_out] at h; simp [hostB] at h
  rw [isB_out]; unfold hostB; rw [Bool.eq_iff_iff]; simp; omega

set_option maxHeartbeats 2000000 in
theorem short (a0 : Option Addr) (len0 cap0 : Nat) (z : Nat → Int) (a1 : Option Addr) (len1 cap1 : Nat) (w : World) (hcode : CodeIn w a0 len0 cap0 z) (h : (len0 : Int) ≤ 1048576) (h1 : (len1 : Int) ≤ 1048576) :
    Calls Try.prog 3 #[.slice a0 len0 cap0, .slice a1 len1 cap1] w fun e w' => e = .returned (.bool true) ∧ Below w.heap.size w w' := by
  have hl0 : decide ((1048576 : Int) < (len0 : Int)) = false := by simp; omega
  have hl1 : decide ((1048576 : Int) < (len1 : Int)) = false := by simp; omega
  have hq0 : 1 ≤ 1 + (len1 : Int) % 17 := by omega
  have hq1 : 1 + (len1 : Int) % 17 ≤ 17 := by omega
  go_enter Try.func3, Try.ntmps3
  go_wp2_with fail
  refine (drawEndDoor a0 len0 cap0 z _ hcode).mono ?_
  rintro e w1 ⟨x, y, rfl, hxy, bel1⟩
  have hz1 := bel1.size
  go_wp2_with fail
  refine (impl3 _ _ _).mono ?_
  rintro e w2 ⟨rfl, k2⟩
  have hz2 := k2.size
  simp at hz2
  have c2 := keepc k2 w1.heap.size (by first | omega | (simp; done) | (simp; omega))
  go_wp2_with fail
  refine (spec3 _ _ _).mono ?_
  rintro e w3 ⟨rfl, k3⟩
  have c3 := fun j => (k3.cell (p := ⟨w1.heap.size, j, none⟩) (by simp; omega)).trans (c2 j)
  have hz3 := k3.size
  have bel3 : Below w.heap.size w w3 := ((bel1.alloc (by omega) _).trans (k2.mono (by simp; omega))).trans (k3.mono (by omega))
  clear k2 k3 bel1 c2
  have hne : w1.heap.size ≠ w3.heap.size := by omega
  have hlt : w1.heap.size < w3.heap.size := by omega
  cases hD : isB 3 x y
  · cases hI : isB 1 x y
    · cases hO : isB 2 x y
      · go_wp2_with (first | (go_at_call 7; refine (impl1 _ _ _).mono ?_; rintro e w4 ⟨rfl, k4⟩; have hz4 := k4.size; (try simp at hz4); have c4 := keepc k4 w1.heap.size (by first | omega | (simp; done) | (simp; omega)); have d4 := keepc k4 w3.heap.size (by first | omega | (simp; done) | (simp; omega))) | (go_at_call 8; refine (impl2 _ _ _).mono ?_; rintro e w5 ⟨rfl, k5⟩; have hz5 := k5.size; (try simp at hz5)))
        go_ret
        exact ⟨rfl, (((bel3.alloc (by omega) _).trans (k4.mono (by (try simp); omega))).trans (k5.mono (by (try simp); omega)))⟩
      · have hq := q_out x y (1 + (len1 : Int) % 17) hO hq0
        by_cases hq9 : 1 + (len1 : Int) % 17 ≤ 9
        · have e2 : isB 2 x (1 + (len1 : Int) % 17) = true := by rw [hq]; simpa using hq9
          clear hq
          go_wp2_with fail
          refine (impl1 _ _ _).mono ?_; rintro e w4 ⟨rfl, k4⟩; have hz4 := k4.size; simp at hz4; have c4 := keepc k4 w1.heap.size (by first | omega | (simp; done) | (simp; omega)); have d4 := keepc k4 w3.heap.size (by first | omega | (simp; done) | (simp; omega))
          go_wp2_with fail
          refine (impl2 _ _ _).mono ?_; rintro e w5 ⟨rfl, k5⟩; have hz5 := k5.size; have c5 := fun j => (keepc k5 w1.heap.size (by first | omega | (simp; done) | (simp; omega)) j).trans (c4 j); have d5 := fun j => (keepc k5 w3.heap.size (by first | omega | (simp; done) | (simp; omega)) j).trans (d4 j)
          go_wp2_with fail
          refine (impl2 _ _ _).mono ?_; rintro e w6 ⟨rfl, k6⟩
          go_wp2_with fail
          go_ret
          exact ⟨rfl, ((((bel3.alloc (by omega) _).trans (k4.mono (by (try simp); omega))).trans (k5.mono (by (try simp); omega))).trans (k6.mono (by (try simp); omega)))⟩
        · have e2 : isB 2 x (1 + (len1 : Int) % 17) = false := by rw [hq]; simpa using hq9
          have hd9 : decide (1 + (len1 : Int) % 17 ≤ 9) = false := by simpa using hq9
          clear hq
          go_wp2_with fail
          refine (impl1 _ _ _).mono ?_; rintro e w4 ⟨rfl, k4⟩; have hz4 := k4.size; simp at hz4; have c4 := keepc k4 w1.heap.size (by first | omega | (simp; done) | (simp; omega)); have d4 := keepc k4 w3.heap.size (by first | omega | (simp; done) | (simp; omega))
          go_wp2_with fail
          refine (impl2 _ _ _).mono ?_; rintro e w5 ⟨rfl, k5⟩; have hz5 := k5.size; have c5 := fun j => (keepc k5 w1.heap.size (by first | omega | (simp; done) | (simp; omega)) j).trans (c4 j); have d5 := fun j => (keepc k5 w3.heap.size (by first | omega | (simp; done) | (simp; omega)) j).trans (d4 j)
          go_wp2_with fail
          refine (impl2 _ _ _).mono ?_; rintro e w6 ⟨rfl, k6⟩
          go_wp2_with fail
          go_ret
          exact ⟨rfl, ((((bel3.alloc (by omega) _).trans (k4.mono (by (try simp); omega))).trans (k5.mono (by (try simp); omega))).trans (k6.mono (by (try simp); omega)))⟩
    · have hq := q_in x y (1 + (len1 : Int) % 17) hI hq0
      obtain ⟨hq, hO⟩ := hq
      by_cases hq9 : 1 + (len1 : Int) % 17 ≤ 9
      · have e1 : isB 1 x (1 + (len1 : Int) % 17) = true := by rw [hq]; simpa using hq9
        clear hq
        go_wp2_with fail
        refine (impl1 _ _ _).mono ?_; rintro e w4 ⟨rfl, k4⟩; have hz4 := k4.size; simp at hz4; have c4 := keepc k4 w1.heap.size (by first | omega | (simp; done) | (simp; omega)); have d4 := keepc k4 w3.heap.size (by first | omega | (simp; done) | (simp; omega))
        go_wp2_with fail
        refine (impl1 _ _ _).mono ?_; rintro e w5 ⟨rfl, k5⟩; have hz5 := k5.size; have c5 := fun j => (keepc k5 w1.heap.size (by first | omega | (simp; done) | (simp; omega)) j).trans (c4 j); have d5 := fun j => (keepc k5 w3.heap.size (by first | omega | (simp; done) | (simp; omega)) j).trans (d4 j)
        go_wp2_with fail
        refine (impl2 _ _ _).mono ?_; rintro e w6 ⟨rfl, k6⟩
        go_wp2_with fail
        go_ret
        exact ⟨rfl, ((((bel3.alloc (by omega) _).trans (k4.mono (by (try simp); omega))).trans (k5.mono (by (try simp); omega))).trans (k6.mono (by (try simp); omega)))⟩
      · have e1 : isB 1 x (1 + (len1 : Int) % 17) = false := by rw [hq]; simpa using hq9
        have hd9 : decide (1 + (len1 : Int) % 17 ≤ 9) = false := by simpa using hq9
        clear hq
        go_wp2_with fail
        refine (impl1 _ _ _).mono ?_; rintro e w4 ⟨rfl, k4⟩; have hz4 := k4.size; simp at hz4; have c4 := keepc k4 w1.heap.size (by first | omega | (simp; done) | (simp; omega)); have d4 := keepc k4 w3.heap.size (by first | omega | (simp; done) | (simp; omega))
        go_wp2_with fail
        refine (impl1 _ _ _).mono ?_; rintro e w5 ⟨rfl, k5⟩; have hz5 := k5.size; have c5 := fun j => (keepc k5 w1.heap.size (by first | omega | (simp; done) | (simp; omega)) j).trans (c4 j); have d5 := fun j => (keepc k5 w3.heap.size (by first | omega | (simp; done) | (simp; omega)) j).trans (d4 j)
        go_wp2_with fail
        refine (impl2 _ _ _).mono ?_; rintro e w6 ⟨rfl, k6⟩
        go_wp2_with fail
        go_ret
        exact ⟨rfl, ((((bel3.alloc (by omega) _).trans (k4.mono (by (try simp); omega))).trans (k5.mono (by (try simp); omega))).trans (k6.mono (by (try simp); omega)))⟩
  · have hx9 : x = 9 := by rw [isB_door] at hD; simp at hD; exact hD.1
    subst hx9
    obtain ⟨e3, e1, e2⟩ := q_door (1 + (len1 : Int) % 17) hq0 hq1
    by_cases hq : 10 ≤ 1 + (len1 : Int) % 17
    · have e3' : isB 3 9 (1 + (len1 : Int) % 17) = true := by rw [e3]; simpa using hq
      clear e3
      go_wp2_with fail
      go_region_with (first | (go_at_call 5; refine (impl3 _ _ _).mono ?_; rintro e w4 ⟨rfl, k4⟩; have hz4 := k4.size; (try simp at hz4); have d4 := keepc k4 w3.heap.size (by first | omega | (simp; done) | (simp; omega))) | (go_at_call 7; refine (impl1 _ _ _).mono ?_; rintro e w5 ⟨rfl, k5⟩; have hz5 := k5.size; (try simp at hz5); have d5 := keepc k5 w3.heap.size (by first | omega | (simp; done) | (simp; omega))) | (go_at_call 8; refine (impl2 _ _ _).mono ?_; rintro e w6 ⟨rfl, k6⟩; have hz6 := k6.size; (try simp at hz6)))
      all_goals
        go_wp2
        go_ret
        exact ⟨rfl, ((((bel3.alloc (by omega) _).drew.trans (k4.mono (by (try simp); omega))).trans (k5.mono (by (try simp); omega))).trans (k6.mono (by (try simp); omega)))⟩
    · have e3' : isB 3 9 (1 + (len1 : Int) % 17) = false := by rw [e3]; simpa using hq
      have hd10 : decide (10 ≤ 1 + (len1 : Int) % 17) = false := by simpa using hq
      clear e3
      go_wp2_with fail
      go_region_with (first | (go_at_call 5; refine (impl3 _ _ _).mono ?_; rintro e w4 ⟨rfl, k4⟩; have hz4 := k4.size; (try simp at hz4); have d4 := keepc k4 w3.heap.size (by first | omega | (simp; done) | (simp; omega))) | (go_at_call 7; refine (impl1 _ _ _).mono ?_; rintro e w5 ⟨rfl, k5⟩; have hz5 := k5.size; (try simp at hz5); have d5 := keepc k5 w3.heap.size (by first | omega | (simp; done) | (simp; omega))) | (go_at_call 8; refine (impl2 _ _ _).mono ?_; rintro e w6 ⟨rfl, k6⟩; have hz6 := k6.size; (try simp at hz6)))
      all_goals
        go_wp2
        go_ret
        exact ⟨rfl, ((((bel3.alloc (by omega) _).drew.trans (k4.mono (by (try simp); omega))).trans (k5.mono (by (try simp); omega))).trans (k6.mono (by (try simp); omega)))⟩

end Go.Proofs.Ytjlohhopknplpaa.Ports

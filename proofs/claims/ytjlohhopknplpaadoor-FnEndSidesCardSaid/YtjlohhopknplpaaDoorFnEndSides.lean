/- The walk of the law on the sides of ends: it answers true. -/
import Derived.Test.YtjlohhopknplpaaDoorText
import Derived.Test.YtjlohhopknplpaaDoorDrawn
import Derived.LoopN
namespace Go.Proofs.YtjlohhopknplpaaDoor.Sides
open Go.RowKit Go.Proofs.YtjlohhopknplpaaDoor.Kit Go.Proofs.YtjlohhopknplpaaDoor.Draw
open Go.Proofs.YtjlohhopknplpaaDoor.EndW (sideZ isB isB_in isB_out isB_door hostB doorB impl1 impl2 impl3 spec1)
open Go.Proofs.YtjlohhopknplpaaDoor.Text (txt implText)
open Go.Proofs.YtjlohhopknplpaaDoor.Itoa (decS)

set_option maxHeartbeats 400000 in
theorem long (a0 : Option Addr) (len0 cap0 : Nat) (w : World) (h : (1048576 : Int) < (len0 : Int)) :
    Calls Tryd.prog 3 #[.slice a0 len0 cap0] w fun e w' => e = .returned (.bool true) ∧ Below w.heap.size w w' := by
  go_enter Tryd.func3, Tryd.ntmps3
  go_wp2
  go_ret
  exact ⟨rfl, Below.refl _ _⟩

theorem emp (x y : Int) : (txt x y).toList.isEmpty = (sideZ x y == 0) := by
  unfold txt
  split
  · rename_i h; rw [h, ByteArray.toList_eq]; rfl
  · rename_i h
    have hb : (sideZ x y == 0) = false := by simpa using h
    rw [hb]
    have hs : (decS x ++ ⟨#[58]⟩ ++ decS y).toList.length ≠ 0 := by
      rw [ByteArray.toList_eq, Array.length_toList]
      simp
    cases hl : (decS x ++ ⟨#[58]⟩ ++ decS y).toList with
    | nil => rw [hl] at hs; exact absurd rfl hs
    | cons u v => rfl

theorem tells (x y : Int) : (isB 1 x y = (sideZ x y == 1)) ∧ (isB 2 x y = (sideZ x y == 2)) ∧ (isB 3 x y = (sideZ x y == 3)) := ⟨rfl, rfl, rfl⟩

theorem ways (x y : Int) : sideZ x y = 0 ∨ sideZ x y = 1 ∨ sideZ x y = 2 ∨ sideZ x y = 3 := by
  unfold sideZ
  split
  · omega
  · split
    · omega
    · split <;> omega

set_option maxHeartbeats 4000000 in
theorem short (a0 : Option Addr) (len0 cap0 : Nat) (z : Nat → Int) (w : World) (hcode : CodeIn w a0 len0 cap0 z) (h : (len0 : Int) ≤ 1048576) :
    Calls Tryd.prog 3 #[.slice a0 len0 cap0] w fun e w' => e = .returned (.bool true) ∧ Below w.heap.size w w' := by
  have hl0 : decide ((1048576 : Int) < (len0 : Int)) = false := by simp; omega
  go_enter Tryd.func3, Tryd.ntmps3
  go_wp2_with fail
  refine (drawEndInside a0 len0 cap0 z _ hcode).mono ?_
  rintro e w1 ⟨x, y, rfl, _, bel1⟩
  have hz1 := bel1.size
  go_wp2_with fail
  refine (impl1 _ _ _).mono ?_
  rintro e w2 ⟨rfl, k2⟩
  have hz2 := k2.size
  simp at hz2
  have c2 := keepc k2 w1.heap.size (by first | omega | (simp; done) | (simp; omega))
  go_wp2_with fail
  refine (spec1 _ _ _).mono ?_
  rintro e w3 ⟨rfl, k3⟩
  have c3 := fun j => (keepc k3 w1.heap.size (by first | omega | (simp; done) | (simp; omega)) j).trans (c2 j)
  have hz3 := k3.size
  have bel : Below w.heap.size w w3 := ((bel1.alloc (by omega) _).trans (k2.mono (by first | omega | (simp; done) | (simp; omega)))).trans (k3.mono (by first | omega | (simp; done) | (simp; omega)))
  clear k2 k3 bel1 c2
  rcases ways x y with hs | hs | hs | hs
  · have he := emp x y
    have t1 : isB 1 x y = false := by unfold isB; rw [hs]; rfl
    have t2 : isB 2 x y = false := by unfold isB; rw [hs]; rfl
    have t3 : isB 3 x y = false := by unfold isB; rw [hs]; rfl
    rw [hs] at he
    simp at he
    clear hs
    go_wp2_with fail
    go_region_with (first | (go_at_call 11; refine (impl2 _ _ _).mono ?_; rintro e w4 ⟨rfl, k4⟩; have hz4 := k4.size; (try simp at hz4); have c4 := keepc k4 w1.heap.size (by first | omega | (simp; done) | (simp; omega)); first | have bel := bel.trans (k4.mono (by first | omega | (simp; done) | (simp; omega))) | have bel := bel.drew.trans (k4.mono (by first | omega | (simp; done) | (simp; omega)))) | (go_at_call 12; refine (impl3 _ _ _).mono ?_; rintro e w5 ⟨rfl, k5⟩; have hz5 := k5.size; (try simp at hz5); have c5 := keepc k5 w1.heap.size (by first | omega | (simp; done) | (simp; omega)); first | have bel := bel.trans (k5.mono (by first | omega | (simp; done) | (simp; omega))) | have bel := bel.drew.trans (k5.mono (by first | omega | (simp; done) | (simp; omega)))))
    all_goals
      have hlt : w1.heap.size < w5.heap.size := by omega
      clear k4 k5
      go_wp2
      refine wp_loop_rounds 4 ?_
      rw [rounds_succ]; go_wp2
      rw [rounds_succ]; go_wp2
      rw [rounds_succ]; go_wp2
      rw [rounds_succ]; go_wp2_with (go_at_call 13; refine (implText _ _ _).mono ?_; rintro e w6 ⟨rfl, k6⟩)
      go_ret
      exact ⟨rfl, (bel.alloc (by omega) _).trans (k6.mono (by first | omega | (simp; done) | (simp; omega)))⟩
  · have he := emp x y
    have t1 : isB 1 x y = true := by unfold isB; rw [hs]; rfl
    have t2 : isB 2 x y = false := by unfold isB; rw [hs]; rfl
    have t3 : isB 3 x y = false := by unfold isB; rw [hs]; rfl
    rw [hs] at he
    replace he : (txt x y).toList.isEmpty = false := he
    clear hs
    go_wp2_with fail
    go_region_with (first | (go_at_call 11; refine (impl2 _ _ _).mono ?_; rintro e w4 ⟨rfl, k4⟩; have hz4 := k4.size; (try simp at hz4); have c4 := keepc k4 w1.heap.size (by first | omega | (simp; done) | (simp; omega)); first | have bel := bel.trans (k4.mono (by first | omega | (simp; done) | (simp; omega))) | have bel := bel.drew.trans (k4.mono (by first | omega | (simp; done) | (simp; omega)))) | (go_at_call 12; refine (impl3 _ _ _).mono ?_; rintro e w5 ⟨rfl, k5⟩; have hz5 := k5.size; (try simp at hz5); have c5 := keepc k5 w1.heap.size (by first | omega | (simp; done) | (simp; omega)); first | have bel := bel.trans (k5.mono (by first | omega | (simp; done) | (simp; omega))) | have bel := bel.drew.trans (k5.mono (by first | omega | (simp; done) | (simp; omega)))))
    all_goals
      have hlt : w1.heap.size < w5.heap.size := by omega
      clear k4 k5
      go_wp2
      refine wp_loop_rounds 4 ?_
      rw [rounds_succ]; go_wp2
      rw [rounds_succ]; go_wp2
      rw [rounds_succ]; go_wp2
      rw [rounds_succ]; go_wp2_with (go_at_call 13; refine (implText _ _ _).mono ?_; rintro e w6 ⟨rfl, k6⟩)
      go_ret
      exact ⟨rfl, (bel.alloc (by omega) _).trans (k6.mono (by first | omega | (simp; done) | (simp; omega)))⟩
  · have he := emp x y
    have t1 : isB 1 x y = false := by unfold isB; rw [hs]; rfl
    have t2 : isB 2 x y = true := by unfold isB; rw [hs]; rfl
    have t3 : isB 3 x y = false := by unfold isB; rw [hs]; rfl
    rw [hs] at he
    replace he : (txt x y).toList.isEmpty = false := he
    clear hs
    go_wp2_with fail
    go_region_with (first | (go_at_call 11; refine (impl2 _ _ _).mono ?_; rintro e w4 ⟨rfl, k4⟩; have hz4 := k4.size; (try simp at hz4); have c4 := keepc k4 w1.heap.size (by first | omega | (simp; done) | (simp; omega)); first | have bel := bel.trans (k4.mono (by first | omega | (simp; done) | (simp; omega))) | have bel := bel.drew.trans (k4.mono (by first | omega | (simp; done) | (simp; omega)))) | (go_at_call 12; refine (impl3 _ _ _).mono ?_; rintro e w5 ⟨rfl, k5⟩; have hz5 := k5.size; (try simp at hz5); have c5 := keepc k5 w1.heap.size (by first | omega | (simp; done) | (simp; omega)); first | have bel := bel.trans (k5.mono (by first | omega | (simp; done) | (simp; omega))) | have bel := bel.drew.trans (k5.mono (by first | omega | (simp; done) | (simp; omega)))))
    all_goals
      have hlt : w1.heap.size < w5.heap.size := by omega
      clear k4 k5
      go_wp2
      refine wp_loop_rounds 4 ?_
      rw [rounds_succ]; go_wp2
      rw [rounds_succ]; go_wp2
      rw [rounds_succ]; go_wp2
      rw [rounds_succ]; go_wp2_with (go_at_call 13; refine (implText _ _ _).mono ?_; rintro e w6 ⟨rfl, k6⟩)
      go_ret
      exact ⟨rfl, (bel.alloc (by omega) _).trans (k6.mono (by first | omega | (simp; done) | (simp; omega)))⟩
  · have he := emp x y
    have t1 : isB 1 x y = false := by unfold isB; rw [hs]; rfl
    have t2 : isB 2 x y = false := by unfold isB; rw [hs]; rfl
    have t3 : isB 3 x y = true := by unfold isB; rw [hs]; rfl
    rw [hs] at he
    replace he : (txt x y).toList.isEmpty = false := he
    clear hs
    go_wp2_with fail
    go_region_with (first | (go_at_call 11; refine (impl2 _ _ _).mono ?_; rintro e w4 ⟨rfl, k4⟩; have hz4 := k4.size; (try simp at hz4); have c4 := keepc k4 w1.heap.size (by first | omega | (simp; done) | (simp; omega)); first | have bel := bel.trans (k4.mono (by first | omega | (simp; done) | (simp; omega))) | have bel := bel.drew.trans (k4.mono (by first | omega | (simp; done) | (simp; omega)))) | (go_at_call 12; refine (impl3 _ _ _).mono ?_; rintro e w5 ⟨rfl, k5⟩; have hz5 := k5.size; (try simp at hz5); have c5 := keepc k5 w1.heap.size (by first | omega | (simp; done) | (simp; omega)); first | have bel := bel.trans (k5.mono (by first | omega | (simp; done) | (simp; omega))) | have bel := bel.drew.trans (k5.mono (by first | omega | (simp; done) | (simp; omega)))))
    all_goals
      have hlt : w1.heap.size < w5.heap.size := by omega
      clear k4 k5
      go_wp2
      refine wp_loop_rounds 4 ?_
      rw [rounds_succ]; go_wp2
      rw [rounds_succ]; go_wp2
      rw [rounds_succ]; go_wp2
      rw [rounds_succ]; go_wp2_with (go_at_call 13; refine (implText _ _ _).mono ?_; rintro e w6 ⟨rfl, k6⟩)
      go_ret
      exact ⟨rfl, (bel.alloc (by omega) _).trans (k6.mono (by first | omega | (simp; done) | (simp; omega)))⟩

end Go.Proofs.YtjlohhopknplpaaDoor.Sides

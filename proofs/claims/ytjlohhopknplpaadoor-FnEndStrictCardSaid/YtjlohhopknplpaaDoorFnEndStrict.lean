/- The walk of the law on texts that are read strictly: it answers true. -/
import Derived.Test.YtjlohhopknplpaaDoorLaid
import Derived.Test.YtjlohhopknplpaaDoorSRead4
import Derived.Test.YtjlohhopknplpaaDoorDrawR
namespace Go.Proofs.YtjlohhopknplpaaDoor.Strict
open Go.RowKit Go.Proofs.YtjlohhopknplpaaDoor.Kit Go.Proofs.YtjlohhopknplpaaDoor.Draw
open Go.Proofs.YtjlohhopknplpaaDoor.EndW (sideZ isB impl1 impl2 impl3)
open Go.Proofs.YtjlohhopknplpaaDoor.Text (txt txtL txt_list implText side_or)
open Go.Proofs.YtjlohhopknplpaaDoor.Read (Errs Told read_any sread_any told_one)

set_option maxHeartbeats 400000 in
theorem long (a0 : Option Addr) (len0 cap0 : Nat) (w : World) (h : (1048576 : Int) < (len0 : Int)) :
    Calls Tryd.prog 5 #[.slice a0 len0 cap0] w fun e w' => e = .returned (.bool true) ∧ Below w.heap.size w w' := by
  go_enter Tryd.func5, Tryd.ntmps5
  go_wp2
  go_ret
  exact ⟨rfl, Below.refl _ _⟩

theorem ways3 (x y : Int) (h : sideZ x y ≠ 0) : isB 1 x y = true ∨ (isB 1 x y = false ∧ isB 2 x y = true) ∨ (isB 1 x y = false ∧ isB 2 x y = false ∧ isB 3 x y = true) := by
  have hs := side_or x y
  have hn : (sideZ x y != 0) = true := by simpa using h
  rw [hn] at hs
  cases h1 : isB 1 x y
  · cases h2 : isB 2 x y
    · cases h3 : isB 3 x y
      · rw [h1, h2, h3] at hs; cases hs
      · exact .inr (.inr ⟨rfl, rfl, rfl⟩)
    · exact .inr (.inl ⟨rfl, rfl⟩)
  · exact .inl rfl

set_option maxHeartbeats 4000000 in
theorem short (a0 : Option Addr) (len0 cap0 : Nat) (z : Nat → Int) (w : World) (hcode : CodeIn w a0 len0 cap0 z) (h : (len0 : Int) ≤ 1048576) (herr : Errs w) :
    Calls Tryd.prog 5 #[.slice a0 len0 cap0] w fun e w' => e = .returned (.bool true) ∧ Below w.heap.size w w' := by
  have hl0 : decide ((1048576 : Int) < (len0 : Int)) = false := by simp; omega
  go_enter Tryd.func5, Tryd.ntmps5
  go_wp2_with fail
  refine (drawEndRead a0 len0 cap0 z _ hcode).mono ?_
  rintro e w1 ⟨s, rfl, hs, bel1⟩
  have z1 := bel1.size
  go_wp2_with fail
  refine (sread_any _ _).mono ?_
  rintro e w2 ⟨x, y, b, rfl, k2, ht⟩
  have z2 := k2.size
  have bel2 := bel1.trans (k2.mono (by first | omega | (simp; done) | (simp; omega)))
  have al : Below w2.heap.size w2 (w2.alloc (.cells #[.int .i64 x, .int .i64 y] 24)) := (Below.refl _ _).alloc (Nat.le_refl _) _
  have e2 := (herr.below (bel2.mono (Nat.le_refl _))).below al
  go_wp2_with fail
  refine (read_any _ _ (by omega) e2).mono ?_
  rintro e w3 ⟨u, v, c, rfl, k3, hu⟩
  obtain ⟨rfl, rfl, rfl⟩ := told_one ht hu
  clear hu e2 k2 bel1
  have z3 := k3.size
  simp at z3
  have hlt : w2.heap.size < w3.heap.size := by omega
  have c3 := keepc k3 w2.heap.size (by first | omega | (simp; done) | (simp; omega))
  have bel3 := (bel2.trans (al.mono (by first | omega | (simp; done) | (simp; omega)))).trans (k3.mono (by first | omega | (simp; done) | (simp; omega)))
  clear k3 al bel2
  rcases ht with ⟨rfl, hsz, hst⟩ | ⟨rfl, rfl, rfl, _⟩
  · have hq : ((txt x y).toList == s.toList) = true := by rw [txt_list x y hsz, hst]; simp
    rcases ways3 x y hsz with h1 | ⟨h1, h2⟩ | ⟨h1, h2, h3⟩
    all_goals clear hsz hst
    · go_wp2_with fail
      refine (implText _ _ _).mono ?_
      rintro e w4 ⟨rfl, k4⟩
      have z4 := k4.size
      simp at z4
      have c4 := keepc k4 w3.heap.size (by first | omega | (simp; done) | (simp; omega))
      go_wp2_with fail
      refine (impl1 _ _ _).mono ?_
      rintro e w5 ⟨rfl, k5⟩
      go_wp2
      go_ret
      exact ⟨rfl, ((bel3.alloc (by omega) _).trans (k4.mono (by first | omega | (simp; done) | (simp; omega)))).trans (k5.mono (by first | omega | (simp; done) | (simp; omega)))⟩
    · go_wp2_with fail
      refine (implText _ _ _).mono ?_
      rintro e w4 ⟨rfl, k4⟩
      have z4 := k4.size
      simp at z4
      have c4 := keepc k4 w3.heap.size (by first | omega | (simp; done) | (simp; omega))
      go_wp2_with fail
      refine (impl1 _ _ _).mono ?_
      rintro e w5 ⟨rfl, k5⟩
      have z5 := k5.size
      have c5 := fun j => (keepc k5 w3.heap.size (by first | omega | (simp; done) | (simp; omega)) j).trans (c4 j)
      go_wp2_with fail
      refine (impl2 _ _ _).mono ?_
      rintro e w6 ⟨rfl, k6⟩
      go_wp2
      go_ret
      exact ⟨rfl, (((bel3.alloc (by omega) _).trans (k4.mono (by first | omega | (simp; done) | (simp; omega)))).trans (k5.mono (by first | omega | (simp; done) | (simp; omega)))).trans (k6.mono (by first | omega | (simp; done) | (simp; omega)))⟩
    · go_wp2_with fail
      refine (implText _ _ _).mono ?_
      rintro e w4 ⟨rfl, k4⟩
      have z4 := k4.size
      simp at z4
      have c4 := keepc k4 w3.heap.size (by first | omega | (simp; done) | (simp; omega))
      go_wp2_with fail
      refine (impl1 _ _ _).mono ?_
      rintro e w5 ⟨rfl, k5⟩
      have z5 := k5.size
      have c5 := fun j => (keepc k5 w3.heap.size (by first | omega | (simp; done) | (simp; omega)) j).trans (c4 j)
      go_wp2_with fail
      refine (impl2 _ _ _).mono ?_
      rintro e w6 ⟨rfl, k6⟩
      have z6 := k6.size
      have c6 := fun j => (keepc k6 w3.heap.size (by first | omega | (simp; done) | (simp; omega)) j).trans (c5 j)
      go_wp2_with fail
      refine (impl3 _ _ _).mono ?_
      rintro e w7 ⟨rfl, k7⟩
      go_wp2
      go_ret
      exact ⟨rfl, ((((bel3.alloc (by omega) _).trans (k4.mono (by first | omega | (simp; done) | (simp; omega)))).trans (k5.mono (by first | omega | (simp; done) | (simp; omega)))).trans (k6.mono (by first | omega | (simp; done) | (simp; omega)))).trans (k7.mono (by first | omega | (simp; done) | (simp; omega)))⟩
  · go_wp2
    go_ret
    exact ⟨rfl, bel3.alloc (by omega) _⟩
end Go.Proofs.YtjlohhopknplpaaDoor.Strict

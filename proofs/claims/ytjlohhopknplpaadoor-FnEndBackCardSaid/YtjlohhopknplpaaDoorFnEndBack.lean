/- The walk of the law on ends that are read back: it answers true. -/
import Derived.Test.YtjlohhopknplpaaDoorLaid
import Derived.Test.YtjlohhopknplpaaDoorDrawn
namespace Go.Proofs.YtjlohhopknplpaaDoor.Back
open Go.RowKit Go.Proofs.YtjlohhopknplpaaDoor.Kit Go.Proofs.YtjlohhopknplpaaDoor.Draw
open Go.Proofs.YtjlohhopknplpaaDoor.EndW (sideZ)
open Go.Proofs.YtjlohhopknplpaaDoor.Text (txt txtL txt_list fig fig_inj implText specText side_bd emp txt_len txtL_inj)
open Go.Proofs.YtjlohhopknplpaaDoor.Read (Errs Told read_any)

set_option maxHeartbeats 400000 in
theorem long (a0 : Option Addr) (len0 cap0 : Nat) (w : World) (h : (1048576 : Int) < (len0 : Int)) :
    Calls Tryd.prog 4 #[.slice a0 len0 cap0] w fun e w' => e = .returned (.bool true) ∧ Below w.heap.size w w' := by
  go_enter Tryd.func4, Tryd.ntmps4
  go_wp2
  go_ret
  exact ⟨rfl, Below.refl _ _⟩

set_option maxHeartbeats 2000000 in
theorem short (a0 : Option Addr) (len0 cap0 : Nat) (z : Nat → Int) (w : World) (hcode : CodeIn w a0 len0 cap0 z) (h : (len0 : Int) ≤ 1048576) (herr : Errs w) :
    Calls Tryd.prog 4 #[.slice a0 len0 cap0] w fun e w' => e = .returned (.bool true) ∧ Below w.heap.size w w' := by
  have hl0 : decide ((1048576 : Int) < (len0 : Int)) = false := by simp; omega
  go_enter Tryd.func4, Tryd.ntmps4
  go_wp2_with fail
  refine (drawEndText a0 len0 cap0 z _ hcode).mono ?_
  rintro e w1 ⟨x, y, rfl, _, bel1⟩
  have hz1 := bel1.size
  go_wp2_with fail
  refine (implText _ _ _).mono ?_
  rintro e w2 ⟨rfl, k2⟩
  have hz2 := k2.size
  simp at hz2
  have c2 := keepc k2 w1.heap.size (by first | omega | (simp; done) | (simp; omega))
  go_wp2_with fail
  refine (specText _ _ _).mono ?_
  rintro e w3 ⟨rfl, k3⟩
  have hz3 := k3.size
  have c3 := fun j => (keepc k3 w1.heap.size (by first | omega | (simp; done) | (simp; omega)) j).trans (c2 j)
  have bel3 : Below w.heap.size w w3 := ((bel1.alloc (by omega) _).trans (k2.mono (by first | omega | (simp; done) | (simp; omega)))).trans (k3.mono (by first | omega | (simp; done) | (simp; omega)))
  clear k2 k3 bel1 c2
  by_cases hs : sideZ x y = 0
  · have he := emp x y
    rw [hs] at he
    simp at he
    clear hs
    go_wp2_with (go_at_call 15; refine (specText _ _ _).mono ?_; rintro e w4 ⟨rfl, k4⟩)
    go_ret
    exact ⟨rfl, bel3.trans (k4.mono (by first | omega | (simp; done) | (simp; omega)))⟩
  · have he := emp x y
    have hb : (sideZ x y == 0) = false := by simpa using hs
    rw [hb] at he
    have hsz : (txt x y).size ≤ 4 := by rw [txt_len x y hs]; split <;> omega
    have hsz3 : 3 ≤ (txt x y).size := by rw [txt_len x y hs]; split <;> omega
    clear hb
    have e3 := herr.below (bel3.mono (Nat.le_refl _))
    go_wp2_with fail
    refine (read_any _ _ (by omega) e3).mono ?_
    rintro e w4 ⟨u, v, b, rfl, k4, ht⟩
    have c4 := fun j => (keepc k4 w1.heap.size (by first | omega | (simp; done) | (simp; omega)) j).trans (c3 j)
    obtain ⟨rfl, rfl, rfl⟩ : b = true ∧ u = x ∧ v = y := by
      rcases ht with ⟨hb, hs2, ht⟩ | ⟨_, _, _, ht⟩
      · have hi := txtL_inj u v x y hs2 hs (by rw [← ht, ← txt_list x y hs])
        exact ⟨hb, hi.1, hi.2⟩
      · exact absurd (txt_list x y hs) (ht x y hs)
    clear hs ht
    have hlt : w1.heap.size < w4.heap.size := by have := k4.size; omega
    go_wp2
    go_ret
    exact ⟨rfl, (bel3.trans (k4.mono (by first | omega | (simp; done) | (simp; omega)))).alloc (by omega) _⟩
end Go.Proofs.YtjlohhopknplpaaDoor.Back

/- The walk of the law on two ends: it answers true. -/
import Derived.Test.YtjlohhopknplpaaDoorTextL
import Derived.Test.YtjlohhopknplpaaDoorDrawn
namespace Go.Proofs.YtjlohhopknplpaaDoor.Other
open Go.RowKit Go.Proofs.YtjlohhopknplpaaDoor.Kit Go.Proofs.YtjlohhopknplpaaDoor.Draw
open Go.Proofs.YtjlohhopknplpaaDoor.EndW (sideZ)
open Go.Proofs.YtjlohhopknplpaaDoor.Text (txt implText specText side_bd emp txt_len txt_beq)

set_option maxHeartbeats 400000 in
theorem long0 (a0 : Option Addr) (len0 cap0 : Nat) (a1 : Option Addr) (len1 cap1 : Nat) (w : World) (h : (1048576 : Int) < (len0 : Int)) :
    Calls Tryd.prog 7 #[.slice a0 len0 cap0, .slice a1 len1 cap1] w fun e w' => e = .returned (.bool true) ∧ Below w.heap.size w w' := by
  go_enter Tryd.func7, Tryd.ntmps7
  go_wp2
  go_ret
  exact ⟨rfl, Below.refl _ _⟩

set_option maxHeartbeats 400000 in
theorem long1 (a0 : Option Addr) (len0 cap0 : Nat) (a1 : Option Addr) (len1 cap1 : Nat) (w : World) (h : (len0 : Int) ≤ 1048576) (h1 : (1048576 : Int) < (len1 : Int)) :
    Calls Tryd.prog 7 #[.slice a0 len0 cap0, .slice a1 len1 cap1] w fun e w' => e = .returned (.bool true) ∧ Below w.heap.size w w' := by
  go_enter Tryd.func7, Tryd.ntmps7
  go_wp2
  go_ret
  exact ⟨rfl, Below.refl _ _⟩

set_option maxHeartbeats 2000000 in
theorem short (a0 : Option Addr) (len0 cap0 : Nat) (z : Nat → Int) (a1 : Option Addr) (len1 cap1 : Nat) (z' : Nat → Int) (w : World) (hcode : CodeIn w a0 len0 cap0 z) (hmore : CodeIn w a1 len1 cap1 z') (h : (len0 : Int) ≤ 1048576) (h1 : (len1 : Int) ≤ 1048576) :
    Calls Tryd.prog 7 #[.slice a0 len0 cap0, .slice a1 len1 cap1] w fun e w' => e = .returned (.bool true) ∧ Below w.heap.size w w' := by
  have hl0 : decide ((1048576 : Int) < (len0 : Int)) = false := by simp; omega
  have hl1 : decide ((1048576 : Int) < (len1 : Int)) = false := by simp; omega
  go_enter Tryd.func7, Tryd.ntmps7
  go_wp2_with fail
  refine (drawEndText a0 len0 cap0 z _ hcode).mono ?_
  rintro e w1 ⟨x, y, rfl, _, bel1⟩
  have hz1 := bel1.size
  have hmore1 := (hmore.below bel1).below ((Below.refl _ _).alloc (Nat.le_refl _) (.cells #[.int .i64 x, .int .i64 y] 24))
  go_wp2_with fail
  refine (drawEndInside a1 len1 cap1 z' _ hmore1).mono ?_
  rintro e w2 ⟨u, v, rfl, _, k2⟩
  have hz2 := k2.size
  simp at hz2
  have c2 := keepc k2 w1.heap.size (by first | omega | (simp; done) | (simp; omega))
  have bel2 := (bel1.alloc (o := .cells #[.int .i64 x, .int .i64 y] 24) (by omega)).trans (k2.mono (by first | omega | (simp; done) | (simp; omega)))
  clear k2 bel1 hmore1
  have hlt : w1.heap.size < w2.heap.size := by omega
  go_wp2_with fail
  refine (implText _ _ _).mono ?_
  rintro e w3 ⟨rfl, k3⟩
  have hz3 := k3.size
  simp at hz3
  have c3 := keepc k3 w1.heap.size (by first | omega | (simp; done) | (simp; omega))
  have d3 := keepc k3 w2.heap.size (by first | omega | (simp; done) | (simp; omega))
  go_wp2_with fail
  refine (implText _ _ _).mono ?_
  rintro e w4 ⟨rfl, k4⟩
  have hz4 := k4.size
  have c4 := fun j => (keepc k4 w1.heap.size (by first | omega | (simp; done) | (simp; omega)) j).trans (c3 j)
  have d4 := fun j => (keepc k4 w2.heap.size (by first | omega | (simp; done) | (simp; omega)) j).trans (d3 j)
  go_wp2_with fail
  refine (specText _ _ _).mono ?_
  rintro e w5 ⟨rfl, k5⟩
  have hz5 := k5.size
  have c5 := fun j => (keepc k5 w1.heap.size (by first | omega | (simp; done) | (simp; omega)) j).trans (c4 j)
  have d5 := fun j => (keepc k5 w2.heap.size (by first | omega | (simp; done) | (simp; omega)) j).trans (d4 j)
  have bel := (((bel2.alloc (by omega) _).trans (k3.mono (by first | omega | (simp; done) | (simp; omega)))).trans (k4.mono (by first | omega | (simp; done) | (simp; omega)))).trans (k5.mono (by first | omega | (simp; done) | (simp; omega)))
  clear k3 k4 k5 c3 c4 d3 d4 bel2
  by_cases hs : sideZ x y = 0
  · have he := emp x y
    rw [hs] at he
    simp at he
    clear hs
    go_wp2_with (go_at_call 15; refine (specText _ _ _).mono ?_; rintro e w6 ⟨rfl, k6⟩)
    go_ret
    exact ⟨rfl, bel.trans (k6.mono (by first | omega | (simp; done) | (simp; omega)))⟩
  · have he := emp x y
    have hb : (sideZ x y == 0) = false := by simpa using hs
    rw [hb] at he
    by_cases ht : sideZ u v = 0
    · have hf := emp u v
      rw [ht] at hf
      simp at hf
      clear ht hb
      go_wp2_with (go_at_call 15; refine (specText _ _ _).mono ?_; rintro e w6 ⟨rfl, k6⟩)
      go_ret
      exact ⟨rfl, bel.trans (k6.mono (by first | omega | (simp; done) | (simp; omega)))⟩
    · have hf := emp u v
      have hc : (sideZ u v == 0) = false := by simpa using ht
      rw [hc] at hf
      have l1 : ((txt x y).size : Int) ≤ 4 := by rw [txt_len x y hs]; split <;> omega
      have l2 : 3 ≤ ((txt u v).size : Int) := by rw [txt_len u v ht]; split <;> omega
      by_cases hxu : x = u
      · subst hxu
        by_cases hyv : y = v
        · subst hyv
          clear hs ht hb hc
          go_wp2
          go_ret
          exact ⟨rfl, bel⟩
        · have hq := txt_beq x y x v hs ht (fun e => hyv e.2)
          have hyb : (y == v) = false := by simpa using hyv
          clear hs ht hb hc
          go_wp2
          go_ret
          exact ⟨rfl, bel⟩
      · have hq := txt_beq x y u v hs ht (fun e => hxu e.1)
        have hxb : (x == u) = false := by simpa using hxu
        clear hs ht hb hc
        go_wp2
        go_ret
        exact ⟨rfl, bel⟩
end Go.Proofs.YtjlohhopknplpaaDoor.Other

/- The walk of the law on texts that are cut: it answers true. -/
import Derived.Test.YtjlohhopknplpaaDoorLaid
import Derived.Test.YtjlohhopknplpaaDoorDrawn
namespace Go.Proofs.YtjlohhopknplpaaDoor.CutW
open Go.RowKit Go.Proofs.YtjlohhopknplpaaDoor.Kit Go.Proofs.YtjlohhopknplpaaDoor.Draw
open Go.Proofs.YtjlohhopknplpaaDoor.EndW (sideZ)
open Go.Proofs.YtjlohhopknplpaaDoor.Text (txt txtL txt_list fig fig_inj implText specText side_bd emp txt_len txtL_inj)
open Go.Proofs.YtjlohhopknplpaaDoor.Read (Errs Told read_any)

set_option maxHeartbeats 400000 in
theorem long (a0 : Option Addr) (len0 cap0 : Nat) (w : World) (h : (1048576 : Int) < (len0 : Int)) :
    Calls Tryd.prog 6 #[.slice a0 len0 cap0] w fun e w' => e = .returned (.bool true) ∧ Below w.heap.size w w' := by
  go_enter Tryd.func6, Tryd.ntmps6
  go_wp2
  go_ret
  exact ⟨rfl, Below.refl _ _⟩

theorem last_fig (u v : Int) (h : sideZ u v ≠ 0) (l : List UInt8) : l ++ [32] ≠ txtL u v := by
  have hb := side_bd u v h
  intro e
  have hl : (l ++ [32]).getLast? = some 32 := by simp
  rw [e] at hl
  unfold txtL at hl
  have hne : ∀ n : Int, 0 ≤ n → n ≤ 100 → fig n ≠ 32 := by
    intro n h0 h1 he
    unfold fig at he
    have h4 := congrArg UInt8.toNat he
    have e2 : ∀ n : Nat, n < 256 → (n.toUInt8).toNat = n := fun n hn => by
      simp [Nat.toUInt8, Nat.mod_eq_of_lt hn]
    rw [e2 _ (by omega)] at h4
    have : (32 : UInt8).toNat = 32 := rfl
    omega
  split at hl
  · simp at hl; exact hne _ (by omega) (by omega) hl
  · simp at hl; exact hne _ (by omega) (by omega) hl

theorem first_fig (u v : Int) (h : sideZ u v ≠ 0) (l : List UInt8) : (48 : UInt8) :: l ≠ txtL u v := by
  have hb := side_bd u v h
  intro e
  have h0 : fig 0 = fig u := by
    unfold txtL at e
    split at e <;> (simp only [List.cons.injEq] at e; exact e.1)
  have := fig_inj 0 u (by omega) (by omega) (by omega) (by omega) h0
  omega

set_option maxHeartbeats 2000000 in
theorem short (a0 : Option Addr) (len0 cap0 : Nat) (z : Nat → Int) (w : World) (hcode : CodeIn w a0 len0 cap0 z) (h : (len0 : Int) ≤ 1048576) (herr : Errs w) :
    Calls Tryd.prog 6 #[.slice a0 len0 cap0] w fun e w' => e = .returned (.bool true) ∧ Below w.heap.size w w' := by
  have hl0 : decide ((1048576 : Int) < (len0 : Int)) = false := by simp; omega
  go_enter Tryd.func6, Tryd.ntmps6
  go_wp2_with fail
  refine (drawEndText a0 len0 cap0 z _ hcode).mono ?_
  rintro e w1 ⟨x, y, rfl, _, bel1⟩
  have hz1 := bel1.size
  go_wp2_with fail
  refine (implText _ _ _).mono ?_
  rintro e w2 ⟨rfl, k2⟩
  have hz2 := k2.size
  simp at hz2
  have c2 := keepc k2 w1.heap.size (by first | omega | (simp; done) | (simp; omega))
  go_wp2_with fail
  refine (specText _ _ _).mono ?_
  rintro e w3 ⟨rfl, k3⟩
  have hz3 := k3.size
  have c3 := fun j => (keepc k3 w1.heap.size (by first | omega | (simp; done) | (simp; omega)) j).trans (c2 j)
  have bel3 : Below w.heap.size w w3 := ((bel1.alloc (by omega) _).trans (k2.mono (by first | omega | (simp; done) | (simp; omega)))).trans (k3.mono (by first | omega | (simp; done) | (simp; omega)))
  clear k2 k3 bel1 c2
  by_cases hs : sideZ x y = 0
  · have he := emp x y
    rw [hs] at he
    simp at he
    clear hs
    go_wp2_with (go_at_call 15; refine (specText _ _ _).mono ?_; rintro e w4 ⟨rfl, k4⟩)
    go_ret
    exact ⟨rfl, bel3.trans (k4.mono (by first | omega | (simp; done) | (simp; omega)))⟩
  · have he := emp x y
    have hb : (sideZ x y == 0) = false := by simpa using hs
    rw [hb] at he
    have hsz : (txt x y).size ≤ 4 := by rw [txt_len x y hs]; split <;> omega
    have hsz3 : 3 ≤ (txt x y).size := by rw [txt_len x y hs]; split <;> omega
    clear hb
    have e3 := herr.below (bel3.mono (Nat.le_refl _))
    go_wp2_with fail
    refine (read_any _ _ (by rw [ByteArray.size_extract]; omega) e3).mono ?_
    rintro e w4 ⟨u, v, b, rfl, k4, ht⟩
    have z4 := k4.size
    have c4 := fun j => (keepc k4 w1.heap.size (by first | omega | (simp; done) | (simp; omega)) j).trans (c3 j)
    have e4 := e3.below k4
    have bel4 := bel3.trans (k4.mono (by first | omega | (simp; done) | (simp; omega)))
    have hA : b = true → ¬ (u = x ∧ v = y) := by
      rintro hb ⟨rfl, rfl⟩
      rcases ht with ⟨_, hs2, ht⟩ | ⟨hb2, _⟩
      · have hl := congrArg List.length ht
        rw [← txt_list _ _ hs2, ByteArray.toList_eq, ByteArray.toList_eq, Array.length_toList, Array.length_toList] at hl
        have h1 : ((txt u v).extract 0 ((txt u v).size - 1)).data.size = (txt u v).size - 1 := by
          show ((txt u v).extract 0 ((txt u v).size - 1)).size = _
          rw [ByteArray.size_extract]; omega
        rw [h1] at hl
        have h2 : (txt u v).data.size = (txt u v).size := rfl
        omega
      · rw [hb] at hb2; cases hb2
    clear ht k4 bel3 e3
    have e5 := e4.below ((Below.refl _ _).alloc (Nat.le_refl _) (.cells #[.int .i64 u, .int .i64 v] 24))
    have bel5 := bel4.alloc (o := .cells #[.int .i64 u, .int .i64 v] 24) (by omega)
    have hsa : (txt x y ++ ⟨#[32]⟩).size ≤ 1073741824 := by rw [ByteArray.size_append]; show (txt x y).size + 1 ≤ _; omega
    have hsb : ((⟨#[48]⟩ : ByteArray) ++ txt x y).size ≤ 1073741824 := by rw [ByteArray.size_append]; show 1 + (txt x y).size ≤ _; omega
    go_wp2_with fail
    refine (read_any _ _ hsa e5).mono ?_
    rintro e w6 ⟨u2, v2, b2, rfl, k6, ht⟩
    have z6 := k6.size
    simp at z6
    have hlt : w1.heap.size < w4.heap.size := by omega
    have c6 := keepc k6 w1.heap.size (by first | omega | (simp; done) | (simp; omega))
    have d6 := keepc k6 w4.heap.size (by first | omega | (simp; done) | (simp; omega))
    have e6 := e5.below k6
    have bel6 := bel5.trans (k6.mono (by first | omega | (simp; done) | (simp; omega)))
    obtain rfl : b2 = false := by
      rcases ht with ⟨_, hs2, ht⟩ | ⟨hb2, _⟩
      · exfalso
        rw [ByteArray.toList_eq, ByteArray.data_append, Array.toList_append] at ht
        exact last_fig _ _ hs2 _ ht
      · exact hb2
    clear ht k6 e5 bel5
    have al : Below w6.heap.size w6 (w6.alloc (.cells #[.int .i64 u2, .int .i64 v2] 24)) := (Below.refl _ _).alloc (Nat.le_refl _) _
    have e7 := e6.below al
    go_wp2_with fail
    refine (read_any _ _ hsb e7).mono ?_
    rintro e w7 ⟨u3, v3, b3, rfl, k7, ht⟩
    have z7 := k7.size
    simp at z7
    have c7 := fun j => (keepc k7 w1.heap.size (by first | omega | (simp; done) | (simp; omega)) j).trans ((keepc al w1.heap.size (by first | omega | (simp; done) | (simp; omega)) j).trans (c6 j))
    have d7 := fun j => (keepc k7 w4.heap.size (by first | omega | (simp; done) | (simp; omega)) j).trans ((keepc al w4.heap.size (by first | omega | (simp; done) | (simp; omega)) j).trans (d6 j))
    have bel7 := (bel6.trans (al.mono (by first | omega | (simp; done) | (simp; omega)))).trans (k7.mono (by first | omega | (simp; done) | (simp; omega)))
    have hl1 : w1.heap.size < w7.heap.size := by omega
    have hl4 : w4.heap.size < w7.heap.size := by omega
    obtain rfl : b3 = false := by
      rcases ht with ⟨_, hs2, ht⟩ | ⟨hb2, _⟩
      · exfalso
        rw [ByteArray.toList_eq, ByteArray.data_append, Array.toList_append] at ht
        exact first_fig _ _ hs2 _ ht
      · exact hb2
    clear ht k7 e6 e7 al bel6 e4 bel4 herr c6 d6 c3
    cases b
    · clear hA
      go_wp2
      go_ret
      exact ⟨rfl, bel7.alloc (by omega) _⟩
    · have hB := hA rfl
      clear hA hs
      by_cases hux : u = x
      · subst hux
        have hvy : ¬ v = y := fun e => hB ⟨rfl, e⟩
        clear hB
        have hvb : (v == y) = false := by simpa using hvy
        go_wp2
        go_ret
        exact ⟨rfl, bel7.alloc (by omega) _⟩
      · clear hB
        have hub : (u == x) = false := by simpa using hux
        go_wp2
        go_ret
        exact ⟨rfl, bel7.alloc (by omega) _⟩
end Go.Proofs.YtjlohhopknplpaaDoor.CutW

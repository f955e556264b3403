/- Walks: a text that is drawn, of an end, some spoilt. -/
import Derived.Test.YtjlohhopknplpaaDoorDrawn
import Derived.Test.YtjlohhopknplpaaDoorTextL
import Derived.Deep.RegionWith
namespace Go.Proofs.YtjlohhopknplpaaDoor.Draw
open Go.RowKit Go.Proofs.YtjlohhopknplpaaDoor.Kit Go.Proofs.YtjlohhopknplpaaDoor.Rd
open Go.Proofs.YtjlohhopknplpaaDoor.Text (txt specText txt_len)
open Go.Proofs.YtjlohhopknplpaaDoor.EndW (sideZ)

theorem txt_small (x y : Int) : (txt x y).size ≤ 4 := by
  by_cases h : sideZ x y = 0
  · unfold txt; rw [if_pos h]; exact Nat.le_of_ble_eq_true rfl
  · rw [txt_len x y h]; split <;> omega

set_option maxHeartbeats 1000000 in
theorem of_any (b : Nat) (a : Option Addr) (len cap : Nat) (z : Nat → Int) (p : Nat) (lb n : Nat) (S : Nat → ByteArray) (w : World) (h : Rd w b a len cap z p) (hp : p ≤ 999999000) (hn : 1 ≤ (n : Int)) (hb : lb ≠ b)
    (hS : ∀ i, i < n → w.cell? ⟨lb, i, none⟩ = some (.string (S i))) :
    Calls Tryd.prog 30 #[.pointer (some ⟨b, 0, none⟩), .slice (some ⟨lb, 0, none⟩) n n] w fun e w' => ∃ k, k < n ∧ e = .returned (.string (S k)) ∧ Rd w' b a len cap z (p + 1) ∧ But b w w' := by
  go_enter Tryd.func30, Tryd.ntmps30
  go_wp2_with fail
  refine (pick_any b a len cap z p _ _ h (by omega) hn).mono ?_
  rintro e w1 ⟨v, rfl, hv0, hv1, r1, k1⟩
  obtain ⟨k, rfl⟩ := Int.eq_ofNat_of_zero_le hv0
  have hk : k < n := by omega
  have hc : w1.cell? ⟨lb, k, none⟩ = some (.string (S k)) := by rw [k1.cell hb]; exact hS k hk
  clear hS
  go_wp2
  go_ret
  exact ⟨k, hk, rfl, r1, k1⟩

/-- what spoils a text -/
def S4 (i : Nat) : ByteArray := [⟨#[48]⟩, ⟨#[58]⟩, ⟨#[49]⟩, ⟨#[32]⟩].getD i ⟨#[]⟩
theorem S4_size (i : Nat) : (S4 i).size ≤ 1 := by
  unfold S4
  by_cases h : i < 4
  · have : i = 0 ∨ i = 1 ∨ i = 2 ∨ i = 3 := by omega
    rcases this with rfl | rfl | rfl | rfl <;> exact Nat.le_of_ble_eq_true rfl
  · rw [List.getD_eq_getElem?_getD, List.getElem?_eq_none (by simp; omega)]
    exact Nat.le_of_ble_eq_true rfl

set_option maxHeartbeats 2000000 in
theorem drawEndRead (a : Option Addr) (len cap : Nat) (z : Nat → Int) (w : World) (h : CodeIn w a len cap z) :
    Calls Tryd.prog 17 #[.slice a len cap] w fun e w' => ∃ s, e = .returned (.string s) ∧ s.size ≤ 100 ∧ Below w.heap.size w w' := by
  go_enter Tryd.func17, Tryd.ntmps17
  go_wp2_with fail
  refine (open_any a len cap z _ h).mono ?_
  rintro e w1 ⟨b, len', rfl, hbs, r1, k1⟩
  have z1 := k1.size
  have hb1 : b < w1.heap.size := blk r1.c0
  have hb0 : w.heap.size ≤ b := by omega
  clear hbs
  go_wp2_with fail
  refine (l71_any b a len' cap z 0 _ r1 (by omega)).mono ?_
  rintro e w2 ⟨x, y, p', rfl, hxy, hp', r2, k2⟩
  have z2 := k2.size
  have bel2 := k1.trans (k2.below (B := w.heap.size) (by omega) (by omega))
  go_wp2_with fail
  refine (specText _ _ _).mono ?_
  rintro e w3 ⟨rfl, k3⟩
  have hs4 := txt_small x y
  generalize txt x y = s at *
  have r3 := r2.below k3
  have z3 := k3.size
  have bel3 := bel2.trans (k3.mono (by omega))
  clear k1 k2 k3 r1 r2 bel2 hxy
  go_wp2_with fail
  refine (pick_any b a len' cap z p' _ _ r3 (by omega) (by omega)).mono ?_
  rintro e w4 ⟨at_, rfl, ha0, ha1, r4, k4⟩
  have z4 := Nat.le_of_eq k4.size.symm
  have bel4 := bel3.trans (k4.below (B := w.heap.size) (by omega))
  clear k4 r3 bel3
  obtain ⟨i, rfl⟩ := Int.eq_ofNat_of_zero_le ha0
  have hi : i ≤ s.size := by omega
  go_wp2_with fail
  refine (pick_any b a len' cap z (p' + 1) _ _ r4 (by omega) (by omega)).mono ?_
  rintro e w5 ⟨q, rfl, hq0, hq1, r5, k5⟩
  have z5 := Nat.le_of_eq k5.size.symm
  have bel5 := bel4.trans (k5.below (B := w.heap.size) (by omega))
  clear k5 r4 bel4
  by_cases h0 : q = 0
  · subst h0
    go_wp2
    go_ret
    exact ⟨_, rfl, by rw [ByteArray.size_extract]; omega, bel5⟩
  · have hqb : (q == 0) = false := by simpa using h0
    by_cases h1 : q = 1
    · subst h1
      have belO : Below w5.heap.size w5 (w5.alloc (.cells #[.string ⟨#[48]⟩, .string ⟨#[58]⟩, .string ⟨#[49]⟩, .string ⟨#[32]⟩] 9)).drew := ((Below.refl _ _).alloc (Nat.le_refl _) _).drew
      have r6 := r5.below belO
      have hS : ∀ j, j < 4 → (w5.alloc (.cells #[.string ⟨#[48]⟩, .string ⟨#[58]⟩, .string ⟨#[49]⟩, .string ⟨#[32]⟩] 9)).drew.cell? ⟨w5.heap.size, j, none⟩ = some (.string (S4 j)) := by
        intro j hj
        have : j = 0 ∨ j = 1 ∨ j = 2 ∨ j = 3 := by omega
        rcases this with rfl | rfl | rfl | rfl <;> simp [S4]
      have hb5 : w5.heap.size ≠ b := by omega
      have l1 : (s.extract 0 i).size ≤ 4 := by rw [ByteArray.size_extract]; omega
      have l2 : (s.extract i s.size).size ≤ 4 := by rw [ByteArray.size_extract]; omega
      have l3 := S4_size
      have bel6 := bel5.trans (belO.mono (by omega))
      go_wp2_with fail
      go_region_with (go_at_call 30; refine (of_any b a len' cap z (p' + 1 + 1) w5.heap.size 4 S4 _ r6 (by omega) (by decide) hb5 hS).mono ?_; rintro e w6 ⟨k, hk, rfl, r7, k6⟩; have l4 := S4_size k; have bel7 := bel6.trans (k6.below (B := w.heap.size) (by omega)))
      all_goals
        go_wp2
        go_ret
        refine ⟨_, rfl, ?_, bel7⟩
        rw [ByteArray.size_append, ByteArray.size_append]
        omega
    · have hqc : (q == 1) = false := by simpa using h1
      go_wp2
      go_ret
      exact ⟨_, rfl, by omega, bel5⟩
end Go.Proofs.YtjlohhopknplpaaDoor.Draw

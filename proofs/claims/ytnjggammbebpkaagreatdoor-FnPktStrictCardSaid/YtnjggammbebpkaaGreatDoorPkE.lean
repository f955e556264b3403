/- Walks: texts of packets that are drawn from a code, some spoilt. Of what is drawn no more is said than that it is short. -/
import Derived.Test.YtnjggammbebpkaaGreatDoorPkD
import Derived.Test.YtnjggammbebpkaaGreatDoorPkI
import Derived.Deep.RegionWith
namespace Go.Proofs.YtnjggammbebpkaaGreatDoor.PkD
open Go.RowKit Go.Proofs.YtnjggammbebpkaaGreatDoor.Kit Go.Proofs.YtnjggammbebpkaaGreatDoor.Rd Go.Proofs.YtnjggammbebpkaaGreatDoor.Draw
open Go.Proofs.YtnjggammbebpkaaGreatDoor.Pk (pktV pktS pktS_size spktText)
set_option linter.unusedVariables false

/-- what a text is spoilt with -/
def S5 : List ByteArray := [⟨#[48]⟩, ⟨#[32]⟩, ⟨#[97]⟩, ⟨#[32, 120]⟩, ⟨#[57]⟩]
def S5f (i : Nat) : ByteArray := S5.getD i ⟨#[]⟩
theorem S5_short (i : Nat) : (S5f i).size ≤ 2 := short_of S5 2 (by decide) i

set_option maxRecDepth 8000 in
set_option maxHeartbeats 4000000 in
theorem drawPktRead (a : Option Addr) (len cap : Nat) (z : Nat → Int) (w : World) (h : CodeIn w a len cap z) :
    Calls Tryz.prog 11 #[.slice a len cap] w fun e w' => ∃ s, e = .returned (.string s) ∧ s.size ≤ 400 ∧ Below w.heap.size w w' := by
  go_enter Tryz.func11, Tryz.ntmps11
  go_wp2_with fail
  refine (open_any a len cap z _ h).mono ?_
  rintro e w1 ⟨b, len', rfl, hbs, r1, k1⟩
  have z1 := k1.size
  have hb1 : b < w1.heap.size := blk r1.c0
  have hb0 : w.heap.size ≤ b := by omega
  clear hbs
  go_wp2_with fail
  refine (pkt_any b a len' cap z 0 _ r1 (by omega)).mono ?_
  rintro e w2 ⟨k, x, y, x2, y2, n, t, p2, rfl, sm, hp2, r2, k2⟩
  have z2 := k2.size
  have bel2 := k1.trans (k2.below (B := w.heap.size) (by omega) (by omega))
  have ht : t.size ≤ maxLen := by have := sm.t1; unfold maxLen; omega
  go_wp2_with fail
  refine (spktText k x y x2 y2 n t ht _).mono ?_
  rintro e w3 ⟨rfl, k3⟩
  have hs4 := pktS_size k x y x2 y2 n t
  generalize pktS k x y x2 y2 n t = s at *
  have r3 := r2.below k3
  have z3 := k3.size
  have bel3 := bel2.trans (k3.mono (by omega))
  clear k1 k2 k3 r1 r2 bel2 sm
  go_wp2_with fail
  refine (pick_any b a len' cap z p2 _ _ r3 (by omega) (by omega)).mono ?_
  rintro e w4 ⟨at_, rfl, ha0, ha1, r4, k4⟩
  have z4 := Nat.le_of_eq k4.size.symm
  have bel4 := bel3.trans (k4.below (B := w.heap.size) (by omega))
  clear k4 r3 bel3
  obtain ⟨i, rfl⟩ := Int.eq_ofNat_of_zero_le ha0
  have hi : i ≤ s.size := by omega
  go_wp2_with fail
  refine (pick_any b a len' cap z (p2 + 1) _ _ r4 (by omega) (by omega)).mono ?_
  rintro e w5 ⟨q, rfl, hq0, hq1, r5, k5⟩
  have z5 := Nat.le_of_eq k5.size.symm
  have bel5 := bel4.trans (k5.below (B := w.heap.size) (by omega))
  clear k5 r4 bel4
  by_cases h0 : q = 0
  · subst h0
    go_wp2
    go_ret
    exact ⟨_, rfl, by rw [ByteArray.size_extract]; omega, bel5⟩
  · have hqb : (q == 0) = false := by simpa using h0
    by_cases h1 : q = 1
    · subst h1
      have belO : Below w5.heap.size w5 (w5.alloc (.cells (S5.map Value.string).toArray 9)).drew := ((Below.refl _ _).alloc (Nat.le_refl _) _).drew
      have r6 := r5.below belO
      have hS : ∀ j, j < 5 → (w5.alloc (.cells (S5.map Value.string).toArray 9)).drew.cell? ⟨w5.heap.size, j, none⟩ = some (.string (S5f j)) := fun j hj => list_cells w5 9 S5 j hj
      have hb5 : w5.heap.size ≠ b := by omega
      have l1 : (s.extract 0 i).size ≤ 58 := by rw [ByteArray.size_extract]; omega
      have l2 : (s.extract i s.size).size ≤ 58 := by rw [ByteArray.size_extract]; omega
      have l3 := S5_short
      have bel6 := bel5.trans (belO.mono (by omega))
      go_wp2_with fail
      go_region_with (go_at_call 27; refine (ofs_any b a len' cap z (p2 + 1 + 1) w5.heap.size 5 S5f _ r6 (by omega) (by decide) hb5 hS).mono ?_; rintro e w6 ⟨k, hk, rfl, r7, k6⟩; have l4 := S5_short k; have bel7 := bel6.trans (k6.below (B := w.heap.size) (by omega)))
      all_goals
        go_wp2
        go_ret
        refine ⟨_, rfl, ?_, bel7⟩
        rw [ByteArray.size_append, ByteArray.size_append]
        omega
    · have hqc : (q == 1) = false := by simpa using h1
      go_wp2
      go_ret
      exact ⟨_, rfl, by omega, bel5⟩
end Go.Proofs.YtnjggammbebpkaaGreatDoor.PkD

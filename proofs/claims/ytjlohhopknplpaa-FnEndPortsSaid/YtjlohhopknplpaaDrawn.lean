/- Walks: ends that are drawn from a code that came in. -/
import Derived.Test.YtjlohhopknplpaaDraw
namespace Go.Proofs.Ytjlohhopknplpaa.Draw
open Go.RowKit Go.Proofs.Ytjlohhopknplpaa.Kit Go.Proofs.Ytjlohhopknplpaa.Rd




set_option maxHeartbeats 1000000 in
theorem drawEndDoor (a : Option Addr) (len cap : Nat) (z : Nat → Int) (w : World) (h : CodeIn w a len cap z) :
    Calls Try.prog 4 #[.slice a len cap] w fun e w' => ∃ x y, e = .returned (endV x y) ∧ (0 ≤ x ∧ x ≤ 20 ∧ 0 ≤ y ∧ y ≤ 20) ∧ Below w.heap.size w w' := by
  have h0 := h.below ((Below.refl _ _).alloc (Nat.le_refl _) (.cells #[.int .i64 0, .int .i64 0] 24))
  have bel0 : Below w.heap.size w (w.alloc (.cells #[.int .i64 0, .int .i64 0] 24)) := (Below.refl _ _).alloc (Nat.le_refl _) _
  go_enter Try.func4, Try.ntmps4
  go_wp2_with fail
  refine (open_any a len cap z _ h0).mono ?_
  rintro e w1 ⟨b, len', rfl, hbs, r1, k1⟩
  have hb1 : w.heap.size < b := by rw [hbs]; simp
  have z1 : w.heap.size < w1.heap.size := by have := k1.size; simp at this; omega
  have c1 := fun j => k1.cell (p := ⟨w.heap.size, j, none⟩) (by simp)
  have f1 := fun j => k1.frozen (p := ⟨w.heap.size, j, none⟩) (by simp)
  have bel1 := bel0.trans (k1.mono (by simp))
  clear hbs k1 bel0
  go_wp2_with fail
  refine (l71_any b a len' cap z 0 _ r1 (by omega)).mono ?_
  rintro e w2 ⟨x, y, p', rfl, hxy, hp', r2, k2⟩
  have z2 : w.heap.size < w2.heap.size := by have := k2.size; omega
  have c2 := fun j => (k2.cell (p := ⟨w.heap.size, j, none⟩) z1 (by simp; omega)).trans (c1 j)
  have f2 := fun j => (k2.frozen (p := ⟨w.heap.size, j, none⟩) z1 (by simp; omega)).trans (f1 j)
  have bel2 := bel1.trans (k2.below (by omega) (by omega))
  have hb2 : b < w2.heap.size := blk r2.c0
  clear k2 c1 f1 r1
  have h3 := r2.below ((Below.refl _ _).alloc (Nat.le_refl _) (.cells #[.int .i64 x, .int .i64 y] 24))
  have bel3 := bel2.alloc (o := .cells #[.int .i64 x, .int .i64 y] 24) (by omega)
  have s3 : Aside b w2 (w2.alloc (.cells #[.int .i64 x, .int .i64 y] 24)) := (Aside.refl b w2).alloc _
  go_wp2_with fail
  refine (pick_any b a len' cap z p' _ _ h3 (by omega) (by omega)).mono ?_
  rintro e w3 ⟨v, rfl, hv0, hv1, r3, k3⟩
  have d3 := fun j => k3.cell (p := ⟨w2.heap.size, j, none⟩) (by simp; omega)
  have g3 := fun j => k3.frozen (p := ⟨w2.heap.size, j, none⟩) (by simp; omega)
  have c3 := fun j => (k3.cell (p := ⟨w.heap.size, j, none⟩) (by simp; omega)).trans ((Below.cell (p := ⟨w.heap.size, j, none⟩) ((Below.refl w2.heap.size w2).alloc (Nat.le_refl _) _) z2).trans (c2 j))
  have f3 := fun j => (k3.frozen (p := ⟨w.heap.size, j, none⟩) (by simp; omega)).trans ((Below.frozen (p := ⟨w.heap.size, j, none⟩) ((Below.refl w2.heap.size w2).alloc (Nat.le_refl _) _) z2).trans (f2 j))
  have bel4 := bel3.trans (k3.below (B := w.heap.size) (by omega))
  have s4 := s3.but k3
  clear k3 s3 bel3 h3 c2 f2
  have hne : w2.heap.size ≠ w.heap.size := by omega
  by_cases hv : v = 0
  · subst hv
    go_wp2_with fail
    refine (pick_any b a len' cap z (p' + 1) _ _ (Rd.setNew r2 s4 r3 ⟨w2.heap.size, 0, none⟩ (.int .i64 9) (Nat.le_refl _)) (by omega) (by omega)).mono ?_
    rintro e w4 ⟨u, rfl, hu0, hu1, r4, k4⟩
    have d4 := fun j => k4.cell (p := ⟨w2.heap.size, j, none⟩) (by simp; omega)
    have g4 := fun j => k4.frozen (p := ⟨w2.heap.size, j, none⟩) (by simp; omega)
    have c4 := fun j => (k4.cell (p := ⟨w.heap.size, j, none⟩) (by simp; omega)).trans (cell_set (by simpa using hne))
    have f4 := fun j => (k4.frozen (p := ⟨w.heap.size, j, none⟩) (by simp; omega)).trans ((World.frozen?_setCell ..).trans (f3 j))
    have bel5 := (bel4.setCell (p := ⟨w2.heap.size, 0, none⟩) (by simp; omega) (.int .i64 9)).trans (k4.below (B := w.heap.size) (by omega))
    clear k4
    go_wp2_with fail
    refine bodyPost_ret (v := endV 9 (10 + u)) ?_ rfl ?_
    · simp [results, Try.results4, go_sem, c4, c3]
    · exact ⟨_, _, rfl, ⟨by omega, by omega, by omega, by omega⟩, ((bel5.setCell (p := ⟨w2.heap.size, 1, none⟩) (by simp; omega) _).setCell (Nat.le_refl _) _).setCell (Nat.le_refl _) _⟩
  · have hvb : (v == 0) = false := by simpa using hv
    go_wp2_with fail
    refine bodyPost_ret (v := endV x y) ?_ rfl ?_
    · simp [results, Try.results4, go_sem, c3]
    · exact ⟨_, _, rfl, hxy, (bel4.setCell (Nat.le_refl _) _).setCell (Nat.le_refl _) _⟩

end Go.Proofs.Ytjlohhopknplpaa.Draw

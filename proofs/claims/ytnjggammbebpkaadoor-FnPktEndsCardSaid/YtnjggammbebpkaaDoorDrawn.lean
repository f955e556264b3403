/- Walks: ends that are drawn from a code that came in. -/
import Derived.Test.YtnjggammbebpkaaDoorDraw
namespace Go.Proofs.YtnjggammbebpkaaDoor.Draw
open Go.RowKit Go.Proofs.YtnjggammbebpkaaDoor.Kit Go.Proofs.YtnjggammbebpkaaDoor.Rd



set_option maxHeartbeats 1000000 in
theorem drawEndText (a : Option Addr) (len cap : Nat) (z : Nat → Int) (w : World) (h : CodeIn w a len cap z) :
    Calls Tryd.prog 9 #[.slice a len cap] w fun e w' => ∃ x y, e = .returned (endV x y) ∧ (0 ≤ x ∧ x ≤ 20 ∧ 0 ≤ y ∧ y ≤ 20) ∧ Below w.heap.size w w' := by
  have h0 := h.below ((Below.refl _ _).alloc (Nat.le_refl _) (.cells #[.int .i64 0, .int .i64 0] 24))
  have bel0 : Below w.heap.size w (w.alloc (.cells #[.int .i64 0, .int .i64 0] 24)) := (Below.refl _ _).alloc (Nat.le_refl _) _
  go_enter Tryd.func9, Tryd.ntmps9
  go_wp2_with fail
  refine (open_any a len cap z _ h0).mono ?_
  rintro e w1 ⟨b, len', rfl, hbs, r1, k1⟩
  have hb1 : w.heap.size < b := by rw [hbs]; simp
  have z1 : w.heap.size < w1.heap.size := by have := k1.size; simp at this; omega
  have c1 := fun j => k1.cell (p := ⟨w.heap.size, j, none⟩) (by simp)
  have f1 := fun j => k1.frozen (p := ⟨w.heap.size, j, none⟩) (by simp)
  have bel1 := bel0.trans (k1.mono (by simp))
  clear hbs k1 bel0
  go_wp2_with fail
  refine (l71_any b a len' cap z 0 _ r1 (by omega)).mono ?_
  rintro e w2 ⟨x, y, p', rfl, hxy, _, r2, k2⟩
  have c2 := fun j => (k2.cell (p := ⟨w.heap.size, j, none⟩) z1 (by simp; omega)).trans (c1 j)
  have f2 := fun j => (k2.frozen (p := ⟨w.heap.size, j, none⟩) z1 (by simp; omega)).trans (f1 j)
  have bel2 := bel1.trans (k2.below (by omega) (by omega))
  clear k2 c1 f1 r1 r2
  go_wp2_with fail
  refine bodyPost_ret (v := endV x y) ?_ rfl ?_
  · simp [results, Tryd.results9, go_sem, c2]
  · exact ⟨_, _, rfl, hxy, (bel2.setCell (Nat.le_refl _) _).setCell (Nat.le_refl _) _⟩


end Go.Proofs.YtnjggammbebpkaaDoor.Draw

/- Walks: ends that are drawn from a code. -/
import Derived.Test.YtnjggammbebpkaaGreatDoorRd
namespace Go.Proofs.YtnjggammbebpkaaGreatDoor.Draw
open Go.RowKit Go.Proofs.YtnjggammbebpkaaGreatDoor.Kit Go.Proofs.YtnjggammbebpkaaGreatDoor.Rd

abbrev endV (a p : Int) : Value := .agg #[.int .i64 a, .int .i64 p]

set_option maxHeartbeats 1000000 in
theorem l71_any (b : Nat) (a : Option Addr) (len cap : Nat) (z : Nat → Int) (p : Nat) (w : World) (h : Rd w b a len cap z p) (hp : p ≤ 999999000) :
    Calls Tryz.prog 32 #[.pointer (some ⟨b, 0, none⟩)] w fun e w' => ∃ x y p', e = .returned (endV x y) ∧ (0 ≤ x ∧ x ≤ 20 ∧ 0 ≤ y ∧ y ≤ 20) ∧ p' ≤ p + 3 ∧ Rd w' b a len cap z p' ∧ Aside b w w' := by
  have hb : b < w.heap.size := blk h.c0
  have h0 := h.below ((Below.refl _ _).alloc (Nat.le_refl _) (.cells #[.int .i64 0, .int .i64 0] 24))
  have s0 : Aside b w (w.alloc (.cells #[.int .i64 0, .int .i64 0] 24)) := (Aside.refl b w).alloc _
  go_enter Tryz.func32, Tryz.ntmps32
  go_wp2_with fail
  refine (pick_any b a len cap z p _ _ h0 (by omega) (by omega)).mono ?_
  rintro e w1 ⟨v, rfl, hv0, hv1, r1, k1⟩
  have c1 := fun j => k1.cell (p := ⟨w.heap.size, j, none⟩) (by simp; omega)
  have f1 := fun j => k1.frozen (p := ⟨w.heap.size, j, none⟩) (by simp; omega)
  have z1 := k1.size
  simp at z1
  have s1 := s0.but k1
  clear s0 h0 k1
  go_wp2_with fail
  all_goals
    refine (pick_any b a len cap z (p + 1) _ _ r1 (by omega) (by omega)).mono ?_
    rintro e w2 ⟨v2, rfl, hu0, hu1, r2, k2⟩
    have c2 := fun j => (k2.cell (p := ⟨w.heap.size, j, none⟩) (by simp; omega)).trans (c1 j)
    have f2 := fun j => (k2.frozen (p := ⟨w.heap.size, j, none⟩) (by simp; omega)).trans (f1 j)
    have s2 := s1.but k2
    have z2 := k2.size.trans z1
    clear k2
    go_wp2_with fail
  all_goals
    first
    | (refine bodyPost_ret (v := endV 9 (10 + v2)) ?_ rfl ?_
       · simp [results, Tryz.results32, go_sem, c2]
       · exact ⟨_, _, _, rfl, ⟨by omega, by omega, by omega, by omega⟩, by omega, Rd.setNew h (s2.setNew (Nat.le_refl _) _) (Rd.setNew h s2 r2 _ _ (Nat.le_refl _)) _ _ (Nat.le_refl _), (s2.setNew (Nat.le_refl _) _).setNew (Nat.le_refl _) _⟩)
    | skip
  all_goals
    refine (pick_any b a len cap z (p + 1 + 1) _ _ r2 (by omega) (by omega)).mono ?_
    rintro e w3 ⟨v3, rfl, ht0, ht1, r3, k3⟩
    have c3 := fun j => (k3.cell (p := ⟨w.heap.size, j, none⟩) (by simp; omega)).trans (c2 j)
    have f3 := fun j => (k3.frozen (p := ⟨w.heap.size, j, none⟩) (by simp; omega)).trans (f2 j)
    have s3 := s2.but k3
    clear k3
    go_wp2_with fail
    first
    | (refine bodyPost_ret (v := endV (1 + v2) (1 + v3)) ?_ rfl ?_
       · simp [results, Tryz.results32, go_sem, c3]
       · exact ⟨_, _, _, rfl, ⟨by omega, by omega, by omega, by omega⟩, by omega, Rd.setNew h (s3.setNew (Nat.le_refl _) _) (Rd.setNew h s3 r3 _ _ (Nat.le_refl _)) _ _ (Nat.le_refl _), (s3.setNew (Nat.le_refl _) _).setNew (Nat.le_refl _) _⟩)
    | (refine bodyPost_ret (v := endV (4 + v2) (1 + v3)) ?_ rfl ?_
       · simp [results, Tryz.results32, go_sem, c3]
       · exact ⟨_, _, _, rfl, ⟨by omega, by omega, by omega, by omega⟩, by omega, Rd.setNew h (s3.setNew (Nat.le_refl _) _) (Rd.setNew h s3 r3 _ _ (Nat.le_refl _)) _ _ (Nat.le_refl _), (s3.setNew (Nat.le_refl _) _).setNew (Nat.le_refl _) _⟩)
    | (refine bodyPost_ret (v := endV v2 v3) ?_ rfl ?_
       · simp [results, Tryz.results32, go_sem, c3]
       · exact ⟨_, _, _, rfl, ⟨by omega, by omega, by omega, by omega⟩, by omega, Rd.setNew h (s3.setNew (Nat.le_refl _) _) (Rd.setNew h s3 r3 _ _ (Nat.le_refl _)) _ _ (Nat.le_refl _), (s3.setNew (Nat.le_refl _) _).setNew (Nat.le_refl _) _⟩)

end Go.Proofs.YtnjggammbebpkaaGreatDoor.Draw

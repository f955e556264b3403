/- Walks: pairs that are drawn from a code, with what beside. -/
import Derived.Test.YtcoengedikcneafDrawM
import Derived.Deep.RegionWith
namespace Go.Proofs.Ytcoengedikcneaf.DrawM
open Go.RowKit Go.Proofs.Ytcoengedikcneaf.Kit Go.Proofs.Ytcoengedikcneaf.Rd Go.Proofs.Ytcoengedikcneaf.Draw Go.Proofs.Ytcoengedikcneaf.Mp Go.Proofs.Ytcoengedikcneaf.Mm Go.Proofs.Ytcoengedikcneaf.App Go.Proofs.Ytcoengedikcneaf.Ms
set_option linter.unusedSimpArgs false
set_option linter.unusedVariables false

set_option maxRecDepth 8000 in
set_option maxHeartbeats 8000000 in
theorem drawOut (a : Option Addr) (len cap : Nat) (z : Nat → Int) (w : World) (h : CodeIn w a len cap z) :
    Calls Try.prog 4 #[.slice a len cap] w fun e w' => ∃ v m x y, e = .returned (.tuple #[v, .agg #[.int .i64 x, .int .i64 y]]) ∧ IsM w' v m ∧ m.length ≤ 9 ∧ Small m ∧ Below w.heap.size w w' := by
  have h0 := h.below ((Below.refl _ _).alloc (Nat.le_refl _) (.cells #[.int .i64 0, .int .i64 0] 25))
  have bel0 : Below w.heap.size w (w.alloc (.cells #[.int .i64 0, .int .i64 0] 25)) := (Below.refl _ _).alloc (Nat.le_refl _) _
  go_enter Try.func4, Try.ntmps4
  go_wp2_with fail
  refine (open_any a len cap z _ h0).mono ?_
  rintro e w1 ⟨b, len', rfl, hbs, r1, k1⟩
  have hb1 : w.heap.size < b := by rw [hbs]; simp
  have z1 : w.heap.size < w1.heap.size := by have := k1.size; simp at this; omega
  have c1 := fun j => k1.cell (p := ⟨w.heap.size, j, none⟩) (by simp)
  have f1 := fun j => k1.frozen (p := ⟨w.heap.size, j, none⟩) (by simp)
  have bel1 := bel0.trans (k1.mono (by simp))
  have hbl1 : b < w1.heap.size := blk r1.c0
  clear hbs k1 bel0
  go_wp2_with fail
  refine (map_any b a len' cap z 0 _ r1 (by omega)).mono ?_
  rintro e w2 ⟨v, m, p2, rfl, hm, hml, hsm, hnm, hp2, r2, k2⟩
  have c2 := fun j => (k2.cell (p := ⟨w.heap.size, j, none⟩) z1 (by simp; omega)).trans (c1 j)
  have f2 := fun j => (k2.frozen (p := ⟨w.heap.size, j, none⟩) z1 (by simp; omega)).trans (f1 j)
  have z2 := k2.size
  have bel2 := bel1.trans (k2.below (by omega) (by omega))
  have hnb : ∀ g o n c, v = .slice (some ⟨g, o, none⟩) n c → g ≠ b := fun g o n c e => by have := hnm g o n c e; omega
  have hnw : ∀ g o n c, v = .slice (some ⟨g, o, none⟩) n c → g ≠ w.heap.size := fun g o n c e => by have := hnm g o n c e; omega
  clear k2 c1 f1 r1
  obtain ⟨av, cv, rfl⟩ := isM_slice hm
  by_cases hl0 : m.length = 0
  · obtain rfl : m = [] := List.length_eq_zero_iff.1 hl0
    go_wp2_with fail
    refine (pick_any b a len' cap z (p2) _ _ r2 (by omega) (by omega)).mono ?_
    rintro e w4 ⟨x4, rfl, hx40, hx41, r4, k4⟩
    have c4 := fun j => (k4.cell (p := ⟨w.heap.size, j, none⟩) (by simp; omega)).trans (c2 j)
    have f4 := fun j => (k4.frozen (p := ⟨w.heap.size, j, none⟩) (by simp; omega)).trans (f2 j)
    have bel4 := bel2.trans (k4.below (by omega))
    have hm4 := isM_aside hm (Aside.ofBut k4) hnb
    clear k4
    go_wp2_with fail
    refine (pick_any b a len' cap z (p2 + 1) _ _ r4 (by omega) (by omega)).mono ?_
    rintro e w5 ⟨x5, rfl, hx50, hx51, r5, k5⟩
    have c5 := fun j => (k5.cell (p := ⟨w.heap.size, j, none⟩) (by simp; omega)).trans (c4 j)
    have f5 := fun j => (k5.frozen (p := ⟨w.heap.size, j, none⟩) (by simp; omega)).trans (f4 j)
    have bel5 := bel4.trans (k5.below (by omega))
    have hm5 := isM_aside hm4 (Aside.ofBut k5) hnb
    clear k5 r4 c4 f4 bel4 hm4
    obtain ⟨q5, hq5⟩ : ∃ q, x5 / 15 = q := ⟨_, rfl⟩
    have hq50 : 0 ≤ q5 := by omega
    have hq51 : q5 ≤ 1 := by omega
    go_wp2_with fail
    refine (pick_any b a len' cap z (p2 + 1 + 1) _ _ r5 (by omega) (by omega)).mono ?_
    rintro e w6 ⟨x6, rfl, hx60, hx61, r6, k6⟩
    have c6 := fun j => (k6.cell (p := ⟨w.heap.size, j, none⟩) (by simp; omega)).trans (c5 j)
    have f6 := fun j => (k6.frozen (p := ⟨w.heap.size, j, none⟩) (by simp; omega)).trans (f5 j)
    have bel6 := bel5.trans (k6.below (by omega))
    have hm6 := isM_aside hm5 (Aside.ofBut k6) hnb
    clear k6 r5 c5 f5 bel5 hm5
    go_wp2_with fail
    refine bodyPost_ret (v := .tuple #[.slice av 0 cv, .agg #[.int .i64 (1 + x4 + q5 * 3), .int .i64 (1 + x6)]]) ?_ rfl ?_
    · simp [results, Try.results4, go_sem, c6]
    · exact ⟨_, _, _, _, rfl, isM_aside hm6 (Aside.ofBut (((But.refl w.heap.size w6).setCell (p := ⟨w.heap.size, 0, none⟩) rfl _).setCell (p := ⟨w.heap.size, 1, none⟩) rfl _)) hnw, hml, hsm, (bel6.setCell (Nat.le_refl _) _).setCell (Nat.le_refl _) _⟩
  · have hl0' : (0 : Int) < ((m.length : Nat) : Int) := by omega
    go_wp2_with fail
    refine (pick_any b a len' cap z p2 _ _ r2 (by omega) (by omega)).mono ?_
    rintro e w3 ⟨x, rfl, hx0, hx1, r3, k3⟩
    have c3 := fun j => (k3.cell (p := ⟨w.heap.size, j, none⟩) (by simp; omega)).trans (c2 j)
    have f3 := fun j => (k3.frozen (p := ⟨w.heap.size, j, none⟩) (by simp; omega)).trans (f2 j)
    have bel3 := bel2.trans (k3.below (by omega))
    have hm3 := isM_aside hm (Aside.ofBut k3) hnb
    clear k3 c2 f2 r2 hm
    by_cases x0 : x = 0
    · subst x0
      rcases hm3 with ⟨_, rfl⟩ | ⟨g, o, cap2, hv2, h12, h13, h15, h14⟩
      · exact absurd rfl hl0
      simp at hv2
      obtain ⟨rfl, rfl⟩ := hv2
      have hgb := hnb g o _ _ rfl
      have hgw := hnw g o _ _ rfl
      go_wp2_with fail
      go_region_with (go_at_call 12; refine (pick_any b a len' cap z (p2 + 1) _ _ (by first | exact r3 | exact r3.below (Below.refl _ _).drew | exact r3.below (Below.refl _ _).drew.drew | exact r3.below (Below.refl _ _).drew.drew.drew) (by omega) (by omega)).mono ?_; rintro e w4 ⟨x4, rfl, hx40, hx41, r4, k4⟩; obtain ⟨j, rfl⟩ := Int.eq_ofNat_of_zero_le hx40; have hk : But b w3 w4 := (by first | exact k4 | exact (But.refl b w3).drew.trans k4 | exact (But.refl b w3).drew.drew.trans k4 | exact (But.refl b w3).drew.drew.drew.trans k4); have hj : m[j]? = some (m[j]'(by omega)) := List.getElem?_eq_getElem (by omega); obtain ⟨y0, y1, y2⟩ := (h14 j _ hj).same (hk.block g hgb); have c4 := fun j => (hk.cell (p := ⟨w.heap.size, j, none⟩) (by simp; omega)).trans (c3 j); have f4 := fun j => (hk.frozen (p := ⟨w.heap.size, j, none⟩) (by simp; omega)).trans (f3 j); clear k4)
      all_goals
        have hm4 : IsM w4 (.slice (some ⟨g, o, none⟩) m.length cv) m := isM_aside (.inr ⟨g, o, cv, rfl, h12, h13, h15, h14⟩) (Aside.ofBut hk) hnb
        have bel4 : Below w.heap.size w w4 := bel3.trans (hk.below (by omega))
        generalize (m[j]'(by omega)) = q at *
        go_wp2_with fail
        refine bodyPost_ret (v := .tuple #[.slice (some ⟨g, o, none⟩) m.length cv, .agg #[.int .i64 q.2.1, .int .i64 q.2.2]]) ?_ rfl ?_
        · simp [results, Try.results4, go_sem, c4]
        · exact ⟨_, _, _, _, rfl, isM_aside hm4 (Aside.ofBut (((But.refl w.heap.size w4).setCell (p := ⟨w.heap.size, 0, none⟩) rfl _).setCell (p := ⟨w.heap.size, 1, none⟩) rfl _)) hnw, hml, hsm, (bel4.setCell (Nat.le_refl _) _).setCell (Nat.le_refl _) _⟩
    · have x0' : (x == 0) = false := by simpa using x0
      go_wp2_with fail
      refine (pick_any b a len' cap z (p2 + 1) _ _ r3 (by omega) (by omega)).mono ?_
      rintro e w4 ⟨x4, rfl, hx40, hx41, r4, k4⟩
      have c4 := fun j => (k4.cell (p := ⟨w.heap.size, j, none⟩) (by simp; omega)).trans (c3 j)
      have f4 := fun j => (k4.frozen (p := ⟨w.heap.size, j, none⟩) (by simp; omega)).trans (f3 j)
      have bel4 := bel3.trans (k4.below (by omega))
      have hm4 := isM_aside hm3 (Aside.ofBut k4) hnb
      clear k4
      go_wp2_with fail
      refine (pick_any b a len' cap z (p2 + 1 + 1) _ _ r4 (by omega) (by omega)).mono ?_
      rintro e w5 ⟨x5, rfl, hx50, hx51, r5, k5⟩
      have c5 := fun j => (k5.cell (p := ⟨w.heap.size, j, none⟩) (by simp; omega)).trans (c4 j)
      have f5 := fun j => (k5.frozen (p := ⟨w.heap.size, j, none⟩) (by simp; omega)).trans (f4 j)
      have bel5 := bel4.trans (k5.below (by omega))
      have hm5 := isM_aside hm4 (Aside.ofBut k5) hnb
      clear k5 r4 c4 f4 bel4 hm4
      obtain ⟨q5, hq5⟩ : ∃ q, x5 / 15 = q := ⟨_, rfl⟩
      have hq50 : 0 ≤ q5 := by omega
      have hq51 : q5 ≤ 1 := by omega
      go_wp2_with fail
      refine (pick_any b a len' cap z (p2 + 1 + 1 + 1) _ _ r5 (by omega) (by omega)).mono ?_
      rintro e w6 ⟨x6, rfl, hx60, hx61, r6, k6⟩
      have c6 := fun j => (k6.cell (p := ⟨w.heap.size, j, none⟩) (by simp; omega)).trans (c5 j)
      have f6 := fun j => (k6.frozen (p := ⟨w.heap.size, j, none⟩) (by simp; omega)).trans (f5 j)
      have bel6 := bel5.trans (k6.below (by omega))
      have hm6 := isM_aside hm5 (Aside.ofBut k6) hnb
      clear k6 r5 c5 f5 bel5 hm5
      go_wp2_with fail
      refine bodyPost_ret (v := .tuple #[.slice av m.length cv, .agg #[.int .i64 (1 + x4 + q5 * 3), .int .i64 (1 + x6)]]) ?_ rfl ?_
      · simp [results, Try.results4, go_sem, c6]
      · exact ⟨_, _, _, _, rfl, isM_aside hm6 (Aside.ofBut (((But.refl w.heap.size w6).setCell (p := ⟨w.heap.size, 0, none⟩) rfl _).setCell (p := ⟨w.heap.size, 1, none⟩) rfl _)) hnw, hml, hsm, (bel6.setCell (Nat.le_refl _) _).setCell (Nat.le_refl _) _⟩
end Go.Proofs.Ytcoengedikcneaf.DrawM

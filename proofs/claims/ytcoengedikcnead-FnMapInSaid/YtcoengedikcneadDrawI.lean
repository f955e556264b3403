/- Walks: pairs and a port that are drawn from a code. -/
import Derived.Test.YtcoengedikcneadDrawM
namespace Go.Proofs.Ytcoengedikcnead.DrawM
open Go.RowKit Go.Proofs.Ytcoengedikcnead.Kit Go.Proofs.Ytcoengedikcnead.Rd Go.Proofs.Ytcoengedikcnead.Draw Go.Proofs.Ytcoengedikcnead.Mp Go.Proofs.Ytcoengedikcnead.Mm Go.Proofs.Ytcoengedikcnead.App Go.Proofs.Ytcoengedikcnead.Ms
set_option linter.unusedSimpArgs false
set_option linter.unusedVariables false

set_option maxRecDepth 8000 in
set_option maxHeartbeats 8000000 in
theorem drawIn (a : Option Addr) (len cap : Nat) (z : Nat → Int) (w : World) (h : CodeIn w a len cap z) :
    Calls Try.prog 13 #[.slice a len cap] w fun e w' => ∃ v m port, e = .returned (.tuple #[v, .int .i64 port]) ∧ IsM w' v m ∧ m.length ≤ 9 ∧ Small m ∧ (0 ≤ port ∧ port ≤ 100) ∧ Below w.heap.size w w' := by
  go_enter Try.func13, Try.ntmps13
  go_wp2_with fail
  refine (open_any a len cap z _ h).mono ?_
  rintro e w1 ⟨b, len', rfl, hbs, r1, k1⟩
  have hb1 : w.heap.size ≤ b := by rw [hbs]; exact Nat.le_refl _
  have hbl1 : b < w1.heap.size := blk r1.c0
  clear hbs
  go_wp2_with fail
  refine (map_any b a len' cap z 0 _ r1 (by omega)).mono ?_
  rintro e w2 ⟨v, m, p2, rfl, hm, hml, hsm, hnm, hp2, r2, k2⟩
  have bel2 := k1.trans (k2.below (by omega) k1.size)
  have hnb : ∀ g o n c, v = .slice (some ⟨g, o, none⟩) n c → g ≠ b := fun g o n c e => by have := hnm g o n c e; omega
  clear k2 r1
  obtain ⟨av, cv, rfl⟩ := isM_slice hm
  have hl9 : (m.length : Int) ≤ 9 := by omega
  go_wp2_with fail
  refine (pick_any b a len' cap z p2 _ _ r2 (by omega) (by omega)).mono ?_
  rintro e w3 ⟨x, rfl, hx0, hx1, r3, k3⟩
  have bel3 := bel2.trans (k3.below (by omega))
  have hm3 := isM_aside hm (Aside.ofBut k3) hnb
  clear k3 r2 hm
  go_wp2_with fail
  refine (pick_any b a len' cap z (p2 + 1) _ _ r3 (by omega) (by omega)).mono ?_
  rintro e w4 ⟨x4, rfl, hx40, hx41, r4, k4⟩
  have bel4 := bel3.trans (k4.below (by omega))
  have hm4 := isM_aside hm3 (Aside.ofBut k4) hnb
  obtain ⟨q4, hq4⟩ : ∃ q, x4 / 11 = q := ⟨_, rfl⟩
  have hq40 : 0 ≤ q4 := by omega
  have hq41 : q4 ≤ 1 := by omega
  clear k4 r3 hm3 bel3
  go_wp2
  refine bodyPost_ret (v := .tuple #[.slice av m.length cv, .int .i64 (10 + x - q4 * 2)]) (by simp [results, Try.results13, go_sem]) rfl ?_
  exact ⟨_, m, _, rfl, hm4, hml, hsm, ⟨by omega, by omega⟩, bel4⟩
end Go.Proofs.Ytcoengedikcnead.DrawM

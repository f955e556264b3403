/- Walks: pairs and a text that are drawn from a code. -/
import Derived.Test.YtlejldaennlfaaeGreatDoorDrawM
import Derived.Test.YtlejldaennlfaaeGreatDoorDrawT
namespace Go.Proofs.YtlejldaennlfaaeGreatDoor.DrawM
open Go.RowKit Go.Proofs.YtlejldaennlfaaeGreatDoor.Kit Go.Proofs.YtlejldaennlfaaeGreatDoor.Rd Go.Proofs.YtlejldaennlfaaeGreatDoor.Draw Go.Proofs.YtlejldaennlfaaeGreatDoor.Mp Go.Proofs.YtlejldaennlfaaeGreatDoor.Mm Go.Proofs.YtlejldaennlfaaeGreatDoor.App Go.Proofs.YtlejldaennlfaaeGreatDoor.Ms
set_option linter.unusedSimpArgs false
set_option linter.unusedVariables false

set_option maxRecDepth 8000 in
set_option maxHeartbeats 4000000 in
theorem drawTextOut (a : Option Addr) (len cap : Nat) (z : Nat → Int) (w : World) (h : CodeIn w a len cap z) :
    Calls Tryz.prog 20 #[.slice a len cap] w fun e w' => ∃ v m S, e = .returned (.tuple #[v, .string S]) ∧ IsM w' v m ∧ m.length ≤ 9 ∧ Small m ∧ S.size ≤ 300 ∧ Below w.heap.size w w' := by
  go_enter Tryz.func20, Tryz.ntmps20
  go_wp2_with fail
  refine (open_any a len cap z _ h).mono ?_
  rintro e w1 ⟨b, len', rfl, hbs, r1, k1⟩
  have hb1 : w.heap.size ≤ b := by rw [hbs]; exact Nat.le_refl _
  have hbl1 : b < w1.heap.size := blk r1.c0
  clear hbs
  go_wp2_with fail
  refine (map_any b a len' cap z 0 _ r1 (by omega)).mono ?_
  rintro e w2 ⟨v, m, p2, rfl, hm, hml, hsm, hnm, hp2, r2, k2⟩
  have bel2 := k1.trans (k2.below (by omega) k1.size)
  have hnb : ∀ g o n c, v = .slice (some ⟨g, o, none⟩) n c → g ≠ b := fun g o n c e => by have := hnm g o n c e; omega
  clear k2 r1
  go_wp2_with fail
  refine (off_any b a len' cap z p2 _ r2 (by omega)).mono ?_
  rintro e w3 ⟨S, p3, rfl, hS, hp3, r3, k3⟩
  have hm3 := isM_aside hm k3 hnb
  have bel3 := bel2.trans (k3.below (by omega) bel2.size)
  go_wp2
  refine bodyPost_ret (v := .tuple #[v, .string S]) (by simp [results, Tryz.results20, go_sem]) rfl ?_
  exact ⟨_, m, _, rfl, hm3, hml, hsm, hS, bel3⟩

set_option maxRecDepth 8000 in
set_option maxHeartbeats 4000000 in
theorem drawTextIn (a : Option Addr) (len cap : Nat) (z : Nat → Int) (w : World) (h : CodeIn w a len cap z) :
    Calls Tryz.prog 9 #[.slice a len cap] w fun e w' => ∃ v m S, e = .returned (.tuple #[v, .string S]) ∧ IsM w' v m ∧ m.length ≤ 9 ∧ Small m ∧ S.size ≤ 300 ∧ Below w.heap.size w w' := by
  go_enter Tryz.func9, Tryz.ntmps9
  go_wp2_with fail
  refine (open_any a len cap z _ h).mono ?_
  rintro e w1 ⟨b, len', rfl, hbs, r1, k1⟩
  have hb1 : w.heap.size ≤ b := by rw [hbs]; exact Nat.le_refl _
  have hbl1 : b < w1.heap.size := blk r1.c0
  clear hbs
  go_wp2_with fail
  refine (map_any b a len' cap z 0 _ r1 (by omega)).mono ?_
  rintro e w2 ⟨v, m, p2, rfl, hm, hml, hsm, hnm, hp2, r2, k2⟩
  have bel2 := k1.trans (k2.below (by omega) k1.size)
  have hnb : ∀ g o n c, v = .slice (some ⟨g, o, none⟩) n c → g ≠ b := fun g o n c e => by have := hnm g o n c e; omega
  clear k2 r1
  go_wp2_with fail
  refine (off_any b a len' cap z p2 _ r2 (by omega)).mono ?_
  rintro e w3 ⟨S, p3, rfl, hS, hp3, r3, k3⟩
  have hm3 := isM_aside hm k3 hnb
  have bel3 := bel2.trans (k3.below (by omega) bel2.size)
  go_wp2
  refine bodyPost_ret (v := .tuple #[v, .string S]) (by simp [results, Tryz.results9, go_sem]) rfl ?_
  exact ⟨_, m, _, rfl, hm3, hml, hsm, hS, bel3⟩
end Go.Proofs.YtlejldaennlfaaeGreatDoor.DrawM

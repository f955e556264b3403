/- Walks: the laws' own comparison of pairs. -/
import Derived.Test.YtlejldaennlfaaeGreatDoorMm
import Derived.Deep.RegionWith
import Derived.Deep.QuietTactic
import Derived.BigQuiet
namespace Go.Proofs.YtlejldaennlfaaeGreatDoor.LzM
open Go.RowKit Go.Proofs.YtlejldaennlfaaeGreatDoor.Kit Go.Proofs.YtlejldaennlfaaeGreatDoor.Mp Go.Proofs.YtlejldaennlfaaeGreatDoor.Mm Go.Proofs.YtlejldaennlfaaeGreatDoor.App
set_option linter.unusedSimpArgs false
set_option linter.unusedVariables false

theorem below_drewN (B : Nat) (w : World) (n : Nat) : Below B w (w.drewN n) := ⟨rfl, rfl, rfl, Nat.le_refl _, fun _ _ => rfl⟩
theorem dd (w : World) (a b : Nat) : (w.drewN a).drewN b = w.drewN (a + b) := by simp [World.drewN, Nat.add_assoc]
theorem d0 (w : World) : w.drewN 0 = w := rfl

set_option maxHeartbeats 4000000 in
theorem lz_nil (w : World) (c0 c1 : Nat) (a0 a1 : Option Addr) :
    Calls Tryz.prog 17 #[.slice a0 0 c0, .slice a1 0 c1] w fun e w' => e = .returned (.bool true) ∧ ∃ n, w' = w.drewN n := by
  go_enter Tryz.func17, Tryz.ntmps17
  go_wp2
  refine wp_loop_rounds 1 ?_
  rw [rounds_succ]
  go_wp2
  go_ret
  exact ⟨rfl, 0, rfl⟩

set_option maxRecDepth 8000 in
set_option maxHeartbeats 4000000 in
theorem lz_row (w : World) (m : List (Int × Int × Int)) (hm : m.length ≤ 1048576) (g0 o0 c0 g1 o1 c1 : Nat) (h0 : ∀ (i : Nat) (p : Int × Int × Int), m[i]? = some p → At3 w g0 (o0 + i * 3) p) (h1 : ∀ (i : Nat) (p : Int × Int × Int), m[i]? = some p → At3 w g1 (o1 + i * 3) p) :
    Calls Tryz.prog 17 #[.slice (some ⟨g0, o0, none⟩) m.length c0, .slice (some ⟨g1, o1, none⟩) m.length c1] w fun e w' => e = .returned (.bool true) ∧ ∃ n, w' = w.drewN n := by
  go_enter Tryz.func17, Tryz.ntmps17
  go_wp2
  go_loopw [5] (fun i wr => ∃ k n : Nat, k ≤ m.length ∧ i = .int .i64 k ∧ wr = w.drewN n) (fun i wr => m.length - (intOf i).toNat)
  case atStart => exact ⟨0, 0, Nat.zero_le _, rfl, rfl⟩
  case round =>
    obtain ⟨k, n, hk, rfl, hwr⟩ := hrel
    by_cases hlt : k < m.length
    · have hlt' : (k : Int) < (m.length : Int) := by omega
      obtain ⟨x0, x1, x2⟩ := (h0 k _ (List.getElem?_eq_getElem hlt)).below (W' := wr) (by rw [hwr]; exact below_drewN _ _ _)
      obtain ⟨y0, y1, y2⟩ := (h1 k _ (List.getElem?_eq_getElem hlt)).below (W' := wr) (by rw [hwr]; exact below_drewN _ _ _)
      have HW : Hid (wr = w.drewN n) := hwr
      generalize m[k] = P at x0 x1 x2 y0 y1 y2
      clear h0 h1 hwr
      go_wp2_with fail
      go_quiet (fail)
      go_wp2
      go_roundw
      case rel => exact ⟨k + 1, n + nq, by omega, by go_num, by rw [HW.out, dd]⟩
      case measure => simp [intOf]; omega
    · have hge : (m.length : Int) ≤ (k : Int) := by omega
      go_wp2
      go_ret
      exact ⟨rfl, n, by first | rfl | exact hwr⟩
/-- pairs that are the same are said to be the same, and the memory stays -/
theorem lz_true (w : World) (m : List (Int × Int × Int)) (hm : m.length ≤ 1048576) (a b : Value) (h0 : IsM w a m) (h1 : IsM w b m) :
    Calls Tryz.prog 17 #[a, b] w fun e w' => e = .returned (.bool true) ∧ ∃ n, w' = w.drewN n := by
  rcases h0 with ⟨rfl, rfl⟩ | ⟨g0, o0, c0, rfl, _, _, _, h0⟩
  · rcases h1 with ⟨rfl, _⟩ | ⟨g1, o1, c1, rfl, _, _, _, h1⟩
    · exact lz_nil w 0 0 none none
    · exact lz_nil w 0 c1 none _
  · rcases h1 with ⟨rfl, rfl⟩ | ⟨g1, o1, c1, rfl, _, _, _, h1⟩
    · exact lz_nil w c0 0 _ none
    · exact lz_row w m hm g0 o0 c0 g1 o1 c1 h0 h1
/-- likewise, a form that says less -/
theorem lz_same (w : World) (m : List (Int × Int × Int)) (hm : m.length ≤ 1048576) (a b : Value) (h0 : IsM w a m) (h1 : IsM w b m) :
    Calls Tryz.prog 17 #[a, b] w fun e w' => e = .returned (.bool true) ∧ Below w.heap.size w w' := by
  refine (lz_true w m hm a b h0 h1).mono ?_
  rintro e w' ⟨rfl, n, rfl⟩
  exact ⟨rfl, below_drewN _ _ _⟩
end Go.Proofs.YtlejldaennlfaaeGreatDoor.LzM

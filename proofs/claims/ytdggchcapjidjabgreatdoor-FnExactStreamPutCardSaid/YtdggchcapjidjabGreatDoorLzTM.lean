/- Walks: the laws' own comparison of streams. -/
import Derived.Test.YtdggchcapjidjabGreatDoorPt
import Derived.Deep.RegionWith
import Derived.Deep.QuietTactic
import Derived.BigQuiet
import Derived.Test.YtdggchcapjidjabGreatDoorMmOp
namespace Go.Proofs.YtdggchcapjidjabGreatDoor.LzT
open Go.RowKit Go.Proofs.YtdggchcapjidjabGreatDoor.Kit Go.Proofs.YtdggchcapjidjabGreatDoor.App Go.Proofs.YtdggchcapjidjabGreatDoor.St
set_option linter.unusedSimpArgs false
set_option linter.unusedVariables false

theorem at2_of {W : World} {a : Option Addr} {cap : Nat} {ps : List (Int × ByteArray)} (h : ps = [] ∨ ∃ g o, a = some ⟨g, o, none⟩ ∧ ∀ (i : Nat) (p : Int × ByteArray), ps[i]? = some p → At2 W g (o + i * 2) p) (k : Nat) (p : Int × ByteArray) (hp : ps[k]? = some p) : ∃ g o, a = some ⟨g, o, none⟩ ∧ At2 W g (o + k * 2) p := by
  rcases h with rfl | ⟨g, o, rfl, h⟩
  · simp at hp
  · exact ⟨g, o, rfl, h k p hp⟩

set_option maxRecDepth 8000 in
set_option maxHeartbeats 8000000 in
/-- streams that are the same are said to be the same -/
theorem lzs_same (w : World) (S : ByteArray) (v u : Value) (ps : List (Int × ByteArray)) (hm : ps.length ≤ 1048576) (h0 : IsT w v ps) (h1 : IsT w u ps) :
    Calls Tryz.prog 9 #[.agg #[.string S, v], .agg #[.string S, u]] w fun e w' => e = .returned (.bool true) ∧ Below w.heap.size w w' := by
  obtain ⟨a, c, rfl, _, _, hr⟩ := h0
  obtain ⟨b, d, rfl, _, _, hq⟩ := h1
  have bA : Below w.heap.size w ((w.alloc (.cells #[.string S, .slice a ps.length c] 26)).alloc (.cells #[.string S, .slice b ps.length d] 26)) := ((Below.refl _ _).alloc (Nat.le_refl _) _).alloc (by simp) _
  have e0 : ((w.alloc (.cells #[.string S, .slice a ps.length c] 26)).alloc (.cells #[.string S, .slice b ps.length d] 26)).cell? ⟨w.heap.size, 0, none⟩ = some (.string S) := by simp
  have e1 : ((w.alloc (.cells #[.string S, .slice a ps.length c] 26)).alloc (.cells #[.string S, .slice b ps.length d] 26)).cell? ⟨w.heap.size, 1, none⟩ = some (.slice a ps.length c) := by simp
  have f0 : ((w.alloc (.cells #[.string S, .slice a ps.length c] 26)).alloc (.cells #[.string S, .slice b ps.length d] 26)).cell? ⟨w.heap.size + 1, 0, none⟩ = some (.string S) := by simp
  have f1 : ((w.alloc (.cells #[.string S, .slice a ps.length c] 26)).alloc (.cells #[.string S, .slice b ps.length d] 26)).cell? ⟨w.heap.size + 1, 1, none⟩ = some (.slice b ps.length d) := by simp
  have hX : w.heap.size < ((w.alloc (.cells #[.string S, .slice a ps.length c] 26)).alloc (.cells #[.string S, .slice b ps.length d] 26)).heap.size := by simp; omega
  have hY : w.heap.size + 1 < ((w.alloc (.cells #[.string S, .slice a ps.length c] 26)).alloc (.cells #[.string S, .slice b ps.length d] 26)).heap.size := by simp
  go_enter Tryz.func9, Tryz.ntmps9
  go_wp2
  generalize ((w.alloc (.cells #[.string S, .slice a ps.length c] 26)).alloc (.cells #[.string S, .slice b ps.length d] 26)) = W1 at bA e0 e1 f0 f1 hX hY ⊢
  go_loopw [5] (fun i wr => ∃ k : Nat, k ≤ ps.length ∧ i = .int .i64 k ∧ Below W1.heap.size W1 wr) (fun i wr => ps.length - (intOf i).toNat)
  case atStart => exact ⟨0, Nat.zero_le _, rfl, Below.refl _ _⟩
  case round =>
    obtain ⟨k, hk, rfl, hb⟩ := hrel
    have m1 := (hb.cell (p := ⟨w.heap.size, 1, none⟩) hX).trans e1
    have n1 := (hb.cell (p := ⟨w.heap.size + 1, 1, none⟩) hY).trans f1
    by_cases hlt : k < ps.length
    · have hlt' : (k : Int) < (ps.length : Int) := by omega
      have hp : ps[k]? = some ps[k] := List.getElem?_eq_getElem hlt
      obtain ⟨g, o, rfl, p2⟩ := at2_of (cap := c) hr k _ hp
      obtain ⟨g', o', rfl, q2⟩ := at2_of (cap := d) hq k _ hp
      obtain ⟨x0, x1⟩ := (p2.below bA).below hb
      obtain ⟨y0, y1⟩ := (q2.below bA).below hb
      have HB := (show Hid (Below W1.heap.size W1 wr) from hb)
      generalize ps[k] = p at x0 x1 y0 y1
      clear hr hq p2 q2 hb hp
      go_wp2_with fail
      go_quiet (fail)
      go_wp2
      go_roundw
      case rel => exact ⟨k + 1, by omega, by go_num, by first | exact HB.out.trans ⟨rfl, rfl, rfl, Nat.le_refl _, fun _ _ => rfl⟩ | exact HB.out⟩
      case measure => simp [intOf]; omega
    · have hge : (ps.length : Int) ≤ (k : Int) := by omega
      go_wp2
      go_ret
      exact ⟨rfl, bA.trans (hb.mono bA.size)⟩
end Go.Proofs.YtdggchcapjidjabGreatDoor.LzT

/- Walks: the laws' own comparison of pairs. -/
namespace Go.Proofs.YtdggchcapjidjabGreatDoor.LzM
open Go.RowKit Go.Proofs.YtdggchcapjidjabGreatDoor.Kit Go.Proofs.YtdggchcapjidjabGreatDoor.Mp Go.Proofs.YtdggchcapjidjabGreatDoor.Mm Go.Proofs.YtdggchcapjidjabGreatDoor.App
set_option linter.unusedSimpArgs false
set_option linter.unusedVariables false

theorem below_drewN (B : Nat) (w : World) (n : Nat) : Below B w (w.drewN n) := ⟨rfl, rfl, rfl, Nat.le_refl _, fun _ _ => rfl⟩
theorem dd (w : World) (a b : Nat) : (w.drewN a).drewN b = w.drewN (a + b) := by simp [World.drewN, Nat.add_assoc]
theorem d0 (w : World) : w.drewN 0 = w := rfl

set_option maxHeartbeats 4000000 in
theorem lz_nil (w : World) (c0 c1 : Nat) (a0 a1 : Option Addr) :
    Calls Tryz.prog 10 #[.slice a0 0 c0, .slice a1 0 c1] w fun e w' => e = .returned (.bool true) ∧ ∃ n, w' = w.drewN n := by
  go_enter Tryz.func10, Tryz.ntmps10
  go_wp2
  refine wp_loop_rounds 1 ?_
  rw [rounds_succ]
  go_wp2
  go_ret
  exact ⟨rfl, 0, rfl⟩

set_option maxRecDepth 8000 in
set_option maxHeartbeats 4000000 in
theorem lz_row (w : World) (m : List (Int × Int × Int)) (hm : m.length ≤ 1048576) (g0 o0 c0 g1 o1 c1 : Nat) (h0 : ∀ (i : Nat) (p : Int × Int × Int), m[i]? = some p → At3 w g0 (o0 + i * 3) p) (h1 : ∀ (i : Nat) (p : Int × Int × Int), m[i]? = some p → At3 w g1 (o1 + i * 3) p) :
    Calls Tryz.prog 10 #[.slice (some ⟨g0, o0, none⟩) m.length c0, .slice (some ⟨g1, o1, none⟩) m.length c1] w fun e w' => e = .returned (.bool true) ∧ ∃ n, w' = w.drewN n := by
  go_enter Tryz.func10, Tryz.ntmps10
  go_wp2
  go_loopw [5] (fun i wr => ∃ k n : Nat, k ≤ m.length ∧ i = .int .i64 k ∧ wr = w.drewN n) (fun i wr => m.length - (intOf i).toNat)
  case atStart => exact ⟨0, 0, Nat.zero_le _, rfl, rfl⟩
  case round =>
    obtain ⟨k, n, hk, rfl, hwr⟩ := hrel
    by_cases hlt : k < m.length
    · have hlt' : (k : Int) < (m.length : Int) := by omega
      obtain ⟨x0, x1, x2⟩ := (h0 k _ (List.getElem?_eq_getElem hlt)).below (W' := wr) (by rw [hwr]; exact below_drewN _ _ _)
      obtain ⟨y0, y1, y2⟩ := (h1 k _ (List.getElem?_eq_getElem hlt)).below (W' := wr) (by rw [hwr]; exact below_drewN _ _ _)
      have HW : Hid (wr = w.drewN n) := hwr
      generalize m[k] = P at x0 x1 x2 y0 y1 y2
      clear h0 h1 hwr
      go_wp2_with fail
      go_quiet (fail)
      go_wp2
      go_roundw
      case rel => exact ⟨k + 1, n + nq, by omega, by go_num, by rw [HW.out, dd]⟩
      case measure => simp [intOf]; omega
    · have hge : (m.length : Int) ≤ (k : Int) := by omega
      go_wp2
      go_ret
      exact ⟨rfl, n, by first | rfl | exact hwr⟩
/-- pairs that are the same are said to be the same, and the memory stays -/
theorem lz_true (w : World) (m : List (Int × Int × Int)) (hm : m.length ≤ 1048576) (a b : Value) (h0 : IsM w a m) (h1 : IsM w b m) :
    Calls Tryz.prog 10 #[a, b] w fun e w' => e = .returned (.bool true) ∧ ∃ n, w' = w.drewN n := by
  rcases h0 with ⟨rfl, rfl⟩ | ⟨g0, o0, c0, rfl, _, _, _, h0⟩
  · rcases h1 with ⟨rfl, _⟩ | ⟨g1, o1, c1, rfl, _, _, _, h1⟩
    · exact lz_nil w 0 0 none none
    · exact lz_nil w 0 c1 none _
  · rcases h1 with ⟨rfl, rfl⟩ | ⟨g1, o1, c1, rfl, _, _, _, h1⟩
    · exact lz_nil w c0 0 _ none
    · exact lz_row w m hm g0 o0 c0 g1 o1 c1 h0 h1
/-- likewise, a form that says less -/
theorem lz_same (w : World) (m : List (Int × Int × Int)) (hm : m.length ≤ 1048576) (a b : Value) (h0 : IsM w a m) (h1 : IsM w b m) :
    Calls Tryz.prog 10 #[a, b] w fun e w' => e = .returned (.bool true) ∧ Below w.heap.size w w' := by
  refine (lz_true w m hm a b h0 h1).mono ?_
  rintro e w' ⟨rfl, n, rfl⟩
  exact ⟨rfl, below_drewN _ _ _⟩
end Go.Proofs.YtdggchcapjidjabGreatDoor.LzM

/- Walks: packets held against each other, and the exact law on reading a packet. -/
import Derived.Test.YtnjggammbebpkabGreatDoorPkN
namespace Go.Proofs.YtnjggammbebpkabGreatDoor.ExR
open Go.RowKit Go.Proofs.YtnjggammbebpkabGreatDoor.Kit Go.Proofs.YtnjggammbebpkabGreatDoor.Pk Go.Proofs.YtnjggammbebpkabGreatDoor.PkR
open Go.Proofs.YtnjggammbebpkabGreatDoor.EndW (endV)
set_option linter.unusedVariables false

set_option maxHeartbeats 400000 in
theorem eqEnd_same (a p : Int) (w : World) :
    Calls Tryz.prog 14 #[endV a p, endV a p] w fun e w' => e = .returned (.bool true) ∧ Below w.heap.size w w' := by
  go_enter Tryz.func14, Tryz.ntmps14
  go_wp2
  go_ret
  exact ⟨rfl, ((Below.refl _ _).alloc (Nat.le_refl _) _).alloc (by simp) _⟩

set_option maxHeartbeats 2000000 in
theorem eqPkt_same (k a b c d n : Int) (t : ByteArray) (w : World) :
    Calls Tryz.prog 6 #[pktV k a b c d n t, pktV k a b c d n t] w fun e w' => e = .returned (.bool true) ∧ Below w.heap.size w w' := by
  have bel0 : Below w.heap.size w ((w.alloc (.cells #[.int .i64 k, .int .i64 a, .int .i64 b, .int .i64 c, .int .i64 d, .int .i64 n, .string t] 25)).alloc (.cells #[.int .i64 k, .int .i64 a, .int .i64 b, .int .i64 c, .int .i64 d, .int .i64 n, .string t] 25)) := ((Below.refl _ _).alloc (Nat.le_refl _) _).alloc (by simp) _
  go_enter Tryz.func6, Tryz.ntmps6
  go_wp2_with fail
  refine (eqEnd_same _ _ _).mono ?_
  rintro e w1 ⟨rfl, k1⟩
  have z1 := k1.size
  simp at z1
  have c1 := keepc k1 w.heap.size (by simp <;> omega)
  have d1 := keepc k1 (w.heap.size + 1) (by simp)
  have bel1 := bel0.trans (k1.mono (by simp <;> omega))
  clear k1 bel0
  go_wp2_with fail
  refine (eqEnd_same _ _ _).mono ?_
  rintro e w2 ⟨rfl, k2⟩
  have z2 := k2.size
  have c2 := fun j => (keepc k2 w.heap.size (by omega) j).trans (c1 j)
  have d2 := fun j => (keepc k2 (w.heap.size + 1) (by omega) j).trans (d1 j)
  have bel2 := bel1.trans (k2.mono (by omega))
  clear k2 bel1 c1 d1
  go_wp2
  go_ret
  exact ⟨rfl, bel2⟩

set_option maxHeartbeats 400000 in
theorem long (s : ByteArray) (w : World) (h : (1048576 : Int) < (s.size : Int)) :
    Calls Tryz.prog 3 #[.string s] w fun e w' => e = .returned (.bool true) ∧ Below w.heap.size w w' := by
  go_enter Tryz.func3, Tryz.ntmps3
  go_wp2
  go_ret
  exact ⟨rfl, Below.refl _ _⟩

set_option maxHeartbeats 4000000 in
theorem short (s : ByteArray) (w : World) (h : (s.size : Int) ≤ 1048576) (hG : ∃ p, Glob w p) :
    Calls Tryz.prog 3 #[.string s] w fun e w' => e = .returned (.bool true) ∧ Below w.heap.size w w' := by
  obtain ⟨p, hG⟩ := hG
  have HG := (show Hid (Glob w p) from hG)
  clear hG
  go_enter Tryz.func3, Tryz.ntmps3
  go_wp2_with fail
  refine (spktRead s _).mono ?_
  rintro e w2 ⟨k, a, b, c, d, n, t, B, rfl, k2, T⟩
  have z2 := k2.size
  have al : Below w2.heap.size w2 (w2.alloc (.cells #[.int .i64 k, .int .i64 a, .int .i64 b, .int .i64 c, .int .i64 d, .int .i64 n, .string t] 25)) := (Below.refl _ _).alloc (Nat.le_refl _) _
  have hG2 := (HG.out.below k2).below al
  go_wp2_with fail
  refine (pktRead s (by omega) p _ hG2).mono ?_
  rintro e w3 ⟨k', a', b', c', d', n', t', B', rfl, k3, T'⟩
  obtain ⟨rfl, rfl, rfl, rfl, rfl, rfl, rfl, rfl⟩ := ptold_one T T'
  clear T T' hG2 HG
  have z3 := k3.size
  simp at z3
  have hlt : w2.heap.size < w3.heap.size := by omega
  have c3 := keepc k3 w2.heap.size (by simp)
  have bel3 := (k2.trans (al.mono (by omega))).trans (k3.mono (by simp; omega))
  clear k3 al k2
  go_wp2_with fail
  refine (eqPkt_same _ _ _ _ _ _ _ _).mono ?_
  rintro e w4 ⟨rfl, k4⟩
  have bel4 := (bel3.alloc (by omega) (.cells #[.int .i64 k, .int .i64 a, .int .i64 b, .int .i64 c, .int .i64 d, .int .i64 n, .string t] 25)).trans (k4.mono (by simp; omega))
  cases B
  all_goals
    go_wp2
    go_ret
    exact ⟨rfl, bel4⟩
end Go.Proofs.YtnjggammbebpkabGreatDoor.ExR

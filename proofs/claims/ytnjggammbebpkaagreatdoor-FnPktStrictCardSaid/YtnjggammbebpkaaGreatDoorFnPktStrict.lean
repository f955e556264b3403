/- The walk of the law on texts that are read: it answers true. -/
import Derived.Test.YtnjggammbebpkaaGreatDoorPkN
import Derived.Test.YtnjggammbebpkaaGreatDoorPkE
namespace Go.Proofs.YtnjggammbebpkaaGreatDoor.LPktStrict
open Go.RowKit Go.Proofs.YtnjggammbebpkaaGreatDoor.Kit Go.Proofs.YtnjggammbebpkaaGreatDoor.Pk Go.Proofs.YtnjggammbebpkaaGreatDoor.PkD Go.Proofs.YtnjggammbebpkaaGreatDoor.PkR
set_option linter.unusedVariables false

set_option maxHeartbeats 400000 in
theorem long (a0 : Option Addr) (len0 cap0 : Nat) (w : World) (h : (1048576 : Int) < (len0 : Int)) :
    Calls Tryz.prog 4 #[.slice a0 len0 cap0] w fun e w' => e = .returned (.bool true) ∧ Below w.heap.size w w' := by
  go_enter Tryz.func4, Tryz.ntmps4
  go_wp2
  go_ret
  exact ⟨rfl, Below.refl _ _⟩

set_option maxHeartbeats 4000000 in
theorem short (a0 : Option Addr) (len0 cap0 : Nat) (z : Nat → Int) (w : World) (hc : CodeIn w a0 len0 cap0 z) (h : (len0 : Int) ≤ 1048576) (hG : ∃ p, Glob w p) :
    Calls Tryz.prog 4 #[.slice a0 len0 cap0] w fun e w' => e = .returned (.bool true) ∧ Below w.heap.size w w' := by
  obtain ⟨p, hG⟩ := hG
  have HG := (show Hid (Glob w p) from hG)
  clear hG
  go_enter Tryz.func4, Tryz.ntmps4
  go_wp2_with fail
  refine (drawPktRead a0 len0 cap0 z _ hc).mono ?_
  rintro e w1 ⟨s, rfl, hs, k1⟩
  go_wp2_with fail
  refine (spktRead s _).mono ?_
  rintro e w2 ⟨k, a, b, c, d, n, t, B, rfl, k2, T⟩
  have z1 := k1.size
  have z2 := k2.size
  have al : Below w2.heap.size w2 (w2.alloc (.cells #[.int .i64 k, .int .i64 a, .int .i64 b, .int .i64 c, .int .i64 d, .int .i64 n, .string t] 26)) := (Below.refl _ _).alloc (Nat.le_refl _) _
  have bel2 := (k1.trans (k2.mono z1)).trans (al.mono (by omega))
  have hG2 := HG.out.below bel2
  clear k1 k2 hc al HG
  go_wp2_with fail
  refine (pktRead s (by omega) p _ hG2).mono ?_
  rintro e w3 ⟨k', a', b', c', d', n', t', B', rfl, k3, T'⟩
  obtain ⟨rfl, rfl, rfl, rfl, rfl, rfl, rfl, rfl⟩ := ptold_one T T'
  have HT := (show Hid (PTold s k a b c d n t B) from T)
  clear T T' hG2
  have z3 := k3.size
  simp at z3
  have hlt : w2.heap.size < w3.heap.size := by omega
  have c3 := keepc k3 w2.heap.size (by simp)
  have bel3 := bel2.trans (k3.mono (by simp; omega))
  have bel4 := bel3.alloc (by omega) (.cells #[.int .i64 k, .int .i64 a, .int .i64 b, .int .i64 c, .int .i64 d, .int .i64 n, .string t] 26)
  clear k3 bel2 bel3
  cases B
  · clear HT
    go_wp2
    go_ret
    exact ⟨rfl, bel4⟩
  · obtain ⟨hB, hl⟩ : pktB k a b c d n t = true ∧ s.data.toList = pktL k a b c d n t := by
      rcases HT.out with ⟨_, h1, h2⟩ | ⟨h, _⟩
      · exact ⟨h1, h2⟩
      · cases h
    have hS : pktS k a b c d n t = s := by
      apply Spl.ext_list
      unfold pktS; rw [if_pos hB]; exact hl.symm
    have HO := pktOk_is k a b c d n t true hB
    have HX := pktText_is k a b c d n t s hS
    clear hB hl hS HT
    go_wp2_with fail
    refine (HO _).mono ?_
    rintro e w4 ⟨rfl, k4⟩
    have z4 := k4.size
    simp at z4
    have d4 := keepc k4 w3.heap.size (by simp)
    have bel5 := bel4.trans (k4.mono (by simp; omega))
    clear k4 bel4 HO
    go_wp2_with fail
    refine (HX _).mono ?_
    rintro e w5 ⟨rfl, k5⟩
    go_wp2
    go_ret
    exact ⟨rfl, bel5.trans (k5.mono (by omega))⟩
end Go.Proofs.YtnjggammbebpkaaGreatDoor.LPktStrict

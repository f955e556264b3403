/- The walk of the law on packets that are read back: it answers true. -/
import Derived.Test.YtnjggammbebpkaaGreatDoorPkQ
import Derived.Test.YtnjggammbebpkaaGreatDoorPkD
namespace Go.Proofs.YtnjggammbebpkaaGreatDoor.LPktBack
open Go.RowKit Go.Proofs.YtnjggammbebpkaaGreatDoor.Kit Go.Proofs.YtnjggammbebpkaaGreatDoor.Pk Go.Proofs.YtnjggammbebpkaaGreatDoor.PkD Go.Proofs.YtnjggammbebpkaaGreatDoor.PkR
set_option linter.unusedVariables false
set_option linter.unusedSimpArgs false

set_option maxHeartbeats 400000 in
theorem long (a0 : Option Addr) (len0 cap0 : Nat) (w : World) (h : (1048576 : Int) < (len0 : Int)) :
    Calls Tryz.prog 3 #[.slice a0 len0 cap0] w fun e w' => e = .returned (.bool true) ∧ Below w.heap.size w w' := by
  go_enter Tryz.func3, Tryz.ntmps3
  go_wp2
  go_ret
  exact ⟨rfl, Below.refl _ _⟩

/-- a text that is of this packet is read as it -/
theorem read_yes (k a b c d n : Int) (t S : ByteArray) (hB : pktB k a b c d n t = true) (hS : pktS k a b c d n t = S) (p : Addr) (w : World) (hG : Glob w p) :
    Calls Tryz.prog 9 #[.string S] w fun e w' => e = .returned (.tuple #[pktV k a b c d n t, .bool true]) ∧ Below w.heap.size w w' := by
  have hz : S.size ≤ 58 := by rw [← hS]; exact pktS_size _ _ _ _ _ _ _
  refine (pktRead S (by omega) p w hG).mono ?_
  rintro e w' ⟨k2, a2, b2, c2, d2, n2, t2, B, rfl, kk, T⟩
  have T2 : PTold S k a b c d n t true := by
    refine .inl ⟨rfl, hB, ?_⟩
    have := pktS_list hB
    rw [hS, ByteArray.toList_eq] at this
    exact this
  obtain ⟨rfl, rfl, rfl, rfl, rfl, rfl, rfl, rfl⟩ := ptold_one T T2
  exact ⟨rfl, kk⟩

set_option maxHeartbeats 4000000 in
theorem short (a0 : Option Addr) (len0 cap0 : Nat) (z : Nat → Int) (w : World) (hc : CodeIn w a0 len0 cap0 z) (h : (len0 : Int) ≤ 1048576) (hG : ∃ p, Glob w p) :
    Calls Tryz.prog 3 #[.slice a0 len0 cap0] w fun e w' => e = .returned (.bool true) ∧ Below w.heap.size w w' := by
  obtain ⟨p, hG⟩ := hG
  have HG := (show Hid (Glob w p) from hG)
  clear hG
  go_enter Tryz.func3, Tryz.ntmps3
  go_wp2_with fail
  refine (drawPktText a0 len0 cap0 z _ hc).mono ?_
  rintro e w1 ⟨k, a, b, c, d, n, t, rfl, sm, k1⟩
  have ht : t.size ≤ maxLen := by have := sm.t1; unfold maxLen; omega
  have bel1 := k1.alloc k1.size (.cells #[.int .i64 k, .int .i64 a, .int .i64 b, .int .i64 c, .int .i64 d, .int .i64 n, .string t] 26)
  have z1 := k1.size
  clear k1 sm hc
  obtain ⟨S, hS⟩ : ∃ S, pktS k a b c d n t = S := ⟨_, rfl⟩
  have eS := pktS_emp k a b c d n t
  rw [hS] at eS
  go_wp2_with fail
  refine (pktText_is k a b c d n t S hS _).mono ?_
  rintro e w2 ⟨rfl, k2⟩
  have z2 := k2.size
  simp at z2
  have P2 := keepc k2 w1.heap.size (by simp)
  have bel2 := bel1.trans (k2.mono (by simp; omega))
  clear k2 bel1
  go_wp2_with fail
  refine (spktText_is k a b c d n t S ht hS _).mono ?_
  rintro e w3 ⟨rfl, k3⟩
  have z3 := k3.size
  have P3 := fun j => (keepc k3 w1.heap.size (by omega) j).trans (P2 j)
  have bel3 := bel2.trans (k3.mono (by omega))
  clear k3 bel2 P2
  cases hB : pktB k a b c d n t
  · rw [hB] at eS
    simp only [Bool.not_false] at eS
    clear HG
    go_wp2_with fail
    refine (spktText_is k a b c d n t S ht hS _).mono ?_
    rintro e w4 ⟨rfl, k4⟩
    go_wp2
    go_ret
    exact ⟨rfl, bel3.trans (k4.mono (by omega))⟩
  · rw [hB] at eS
    simp only [Bool.not_true] at eS
    have HRD := fun W hW => read_yes k a b c d n t S hB hS p W hW
    have HB := pktOk_is k a b c d n t true hB
    have lw : w1.heap.size < w3.heap.size := by omega
    have hG3 := (HG.out.below bel3)
    clear hB hS HG
    go_wp2_with fail
    refine (HRD _ hG3).mono ?_
    rintro e w4 ⟨rfl, k4⟩
    have z4 := k4.size
    have P4 := fun j => (keepc k4 w1.heap.size (by omega) j).trans (P3 j)
    have eX := (Below.refl w4.heap.size w4).alloc (Nat.le_refl _) (.cells #[.int .i64 k, .int .i64 a, .int .i64 b, .int .i64 c, .int .i64 d, .int .i64 n, .string t] 26)
    have P5 := fun j => (keepc eX w1.heap.size (by omega) j).trans (P4 j)
    have bel4 := (bel3.trans (k4.mono (by omega))).alloc (by omega) (.cells #[.int .i64 k, .int .i64 a, .int .i64 b, .int .i64 c, .int .i64 d, .int .i64 n, .string t] 26)
    have lw4 : w1.heap.size < w4.heap.size := by omega
    clear k4 eX P3 bel3 hG3 HRD
    go_wp2_with fail
    refine (HB _).mono ?_
    rintro e w5 ⟨rfl, k5⟩
    go_wp2
    go_ret
    exact ⟨rfl, bel4.trans (k5.mono (by simp; omega))⟩
end Go.Proofs.YtnjggammbebpkaaGreatDoor.LPktBack

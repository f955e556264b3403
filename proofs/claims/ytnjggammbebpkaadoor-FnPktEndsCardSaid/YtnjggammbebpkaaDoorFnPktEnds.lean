/- The walk of the law on the ends of packets: it answers true. -/
import Derived.Test.YtnjggammbebpkaaDoorPkC
import Derived.Test.YtnjggammbebpkaaDoorPkD
import Derived.Test.YtnjggammbebpkaaDoorDrawn
import Derived.Test.YtnjggammbebpkaaDoorTextL
import Derived.Test.YtnjggammbebpkaaDoorRi
namespace Go.Proofs.YtnjggammbebpkaaDoor.LPktEnds
set_option linter.unusedVariables false
set_option linter.unusedSimpArgs false
open Go.RowKit Go.Shelf Go.Proofs.YtnjggammbebpkaaDoor.Kit Go.Proofs.YtnjggammbebpkaaDoor.Pk Go.Proofs.YtnjggammbebpkaaDoor.PkD
open Go.Proofs.YtnjggammbebpkaaDoor.EndW (sideZ endV)
open Go.Proofs.YtnjggammbebpkaaDoor.Draw (drawEndText)
open Go.Proofs.YtnjggammbebpkaaDoor.Text (txt implText emp)

set_option maxHeartbeats 400000 in
theorem any_end (a b : Int) (w : World) :
    Calls Tryd.prog 12 #[endV a b] w fun e w' => e = .returned (.bool (sideZ a b != 0)) ∧ Below w.heap.size w w' := by
  have he := emp a b
  cases hz : (sideZ a b == 0)
  · rw [hz] at he
    have hn : (sideZ a b != 0) = true := by simp at hz ⊢; exact hz
    rw [hn]
    clear hz hn
    go_enter Tryd.func12, Tryd.ntmps12
    go_wp2_with fail
    refine (implText _ _ _).mono ?_
    rintro e w1 ⟨rfl, k1⟩
    have bel1 := ((Below.refl w.heap.size w).alloc (Nat.le_refl _) (.cells #[.int .i64 a, .int .i64 b] 24)).trans (k1.mono (by simp))
    go_wp2
    go_ret
    exact ⟨rfl, bel1⟩
  · rw [hz] at he
    have hn : (sideZ a b != 0) = false := by simp at hz ⊢; exact hz
    rw [hn]
    clear hz hn
    go_enter Tryd.func12, Tryd.ntmps12
    go_wp2_with fail
    refine (implText _ _ _).mono ?_
    rintro e w1 ⟨rfl, k1⟩
    have bel1 := ((Below.refl w.heap.size w).alloc (Nat.le_refl _) (.cells #[.int .i64 a, .int .i64 b] 24)).trans (k1.mono (by simp))
    go_wp2
    go_ret
    exact ⟨rfl, bel1⟩

set_option maxHeartbeats 400000 in
theorem long (a0 a1 : Option Addr) (len0 cap0 len1 cap1 : Nat) (w : World) (h : (1048576 : Int) < (len0 : Int)) :
    Calls Tryd.prog 4 #[.slice a0 len0 cap0, .slice a1 len1 cap1] w fun e w' => e = .returned (.bool true) ∧ Below w.heap.size w w' := by
  go_enter Tryd.func4, Tryd.ntmps4
  go_wp2
  go_ret
  exact ⟨rfl, Below.refl _ _⟩

set_option maxHeartbeats 400000 in
theorem long2 (a0 a1 : Option Addr) (len0 cap0 len1 cap1 : Nat) (w : World) (h0 : (len0 : Int) ≤ 1048576) (h : (1048576 : Int) < (len1 : Int)) :
    Calls Tryd.prog 4 #[.slice a0 len0 cap0, .slice a1 len1 cap1] w fun e w' => e = .returned (.bool true) ∧ Below w.heap.size w w' := by
  go_enter Tryd.func4, Tryd.ntmps4
  go_wp2
  go_ret
  exact ⟨rfl, Below.refl _ _⟩

set_option maxHeartbeats 8000000 in
theorem short (a0 a1 : Option Addr) (len0 cap0 len1 cap1 : Nat) (z y : Nat → Int) (w : World) (hc : CodeIn w a0 len0 cap0 z) (hc1 : CodeIn w a1 len1 cap1 y) (h : (len0 : Int) ≤ 1048576) (h1 : (len1 : Int) ≤ 1048576) :
    Calls Tryd.prog 4 #[.slice a0 len0 cap0, .slice a1 len1 cap1] w fun e w' => e = .returned (.bool true) ∧ Below w.heap.size w w' := by
  go_enter Tryd.func4, Tryd.ntmps4
  go_wp2_with fail
  refine (drawPktOk a0 len0 cap0 z _ hc).mono ?_
  rintro e w1 ⟨k, a, b, c, d, n, t', rfl, sm, k1⟩
  have ht : t'.size ≤ maxLen := by have := sm.t1; unfold maxLen; omega
  have bel1 := k1.alloc k1.size (.cells #[.int .i64 k, .int .i64 a, .int .i64 b, .int .i64 c, .int .i64 d, .int .i64 n, .string t'] 26)
  have hcm := hc1.below bel1
  have z1 := k1.size
  clear k1 sm hc hc1
  go_wp2_with fail
  refine (drawEndText a1 len1 cap1 y _ hcm).mono ?_
  rintro e w2 ⟨u, v, rfl, huv, q2⟩
  have z2 := q2.size
  simp at z2
  have P2 := keepc q2 w1.heap.size (by simp)
  have eQ := (Below.refl w2.heap.size w2).alloc (Nat.le_refl _) (.cells #[.int .i64 u, .int .i64 v] 24)
  have P3 := fun j => (keepc eQ w1.heap.size (by omega) j).trans (P2 j)
  have bel2 := (bel1.trans (q2.mono (by simp; omega))).alloc (by omega) (.cells #[.int .i64 u, .int .i64 v] 24)
  have lt2 : w1.heap.size < w2.heap.size := by omega
  obtain ⟨B, hB⟩ : ∃ B, pktB k a b c d n t' = B := ⟨_, rfl⟩
  clear q2 hcm bel1 huv
  go_wp2_with fail
  refine (pktOk_is k a b c d n t' B hB _).mono ?_
  rintro e w3 ⟨rfl, k3⟩
  have z3 := k3.size
  simp at z3
  have P4 := fun j => (keepc k3 w1.heap.size (by simp; omega) j).trans (P3 j)
  have Q4 := keepc k3 w2.heap.size (by simp)
  have bel3 := bel2.trans (k3.mono (by simp; omega))
  clear k3 bel2 P3 P2 eQ
  go_wp2_with fail
  refine (spktOk_is k a b c d n t' ht B hB _).mono ?_
  rintro e w4 ⟨rfl, k4⟩
  have z4 := k4.size
  have P5 := fun j => (keepc k4 w1.heap.size (by omega) j).trans (P4 j)
  have Q5 := fun j => (keepc k4 w2.heap.size (by omega) j).trans (Q4 j)
  have bel4 := bel3.trans (k4.mono (by omega))
  clear k4 bel3 P4 Q4
  cases B
  · go_wp2_with fail
    refine (spktOk_is k a b c d n t' ht false hB _).mono ?_
    rintro e w5 ⟨rfl, k5⟩
    go_wp2
    go_ret
    exact ⟨rfl, bel4.trans (k5.mono (by omega))⟩
  · obtain ⟨h1, h2, h3, h4, h5⟩ := pkt_parts hB
    have lt4 : w1.heap.size < w4.heap.size := by omega
    have lt5 : w1.heap.size < w4.heap.size + 1 := by omega
    have lt6 : w2.heap.size < w4.heap.size := by omega
    have lt7 : w2.heap.size < w4.heap.size + 1 := by omega
    have hx : pktB k c d a b n t' = true := by
      rw [pkt_at h2 h1 h3 h4]; rw [pkt_at h1 h2 h3 h4] at hB; exact hB
    have hy : pktB k a b u v n t' = (sideZ u v != 0) := by
      cases hz : (sideZ u v != 0)
      · exact pkt_no2 hz
      · rw [pkt_at h1 hz h3 h4]; rw [pkt_at h1 h2 h3 h4] at hB; exact hB
    obtain ⟨Vb, hV⟩ : ∃ Vb, (sideZ u v != 0) = Vb := ⟨_, rfl⟩
    rw [hV] at hy
    clear h1 h2 h3 h4 h5 hB
    have anyV : ∀ W : World, Calls Tryd.prog 12 #[endV u v] W fun e w' => e = .returned (.bool Vb) ∧ Below W.heap.size W w' := by
      intro W; rw [← hV]; exact any_end u v W
    clear hV
    have bel := (bel4.alloc (by omega) (.cells #[.int .i64 k, .int .i64 c, .int .i64 d, .int .i64 a, .int .i64 b, .int .i64 n, .string t'] 26)).alloc (by simp; omega) (.cells #[.int .i64 k, .int .i64 a, .int .i64 b, .int .i64 u, .int .i64 v, .int .i64 n, .string t'] 26)
    go_wp2_with fail
    have X0 : ((w4.alloc (.cells #[.int .i64 k, .int .i64 c, .int .i64 d, .int .i64 a, .int .i64 b, .int .i64 n, .string t'] 26)).alloc (.cells #[.int .i64 k, .int .i64 a, .int .i64 b, .int .i64 u, .int .i64 v, .int .i64 n, .string t'] 26)).cell? ⟨w4.heap.size, 0, none⟩ = some (.int .i64 k) := by simp
    have X1 : ((w4.alloc (.cells #[.int .i64 k, .int .i64 c, .int .i64 d, .int .i64 a, .int .i64 b, .int .i64 n, .string t'] 26)).alloc (.cells #[.int .i64 k, .int .i64 a, .int .i64 b, .int .i64 u, .int .i64 v, .int .i64 n, .string t'] 26)).cell? ⟨w4.heap.size, 1, none⟩ = some (.int .i64 c) := by simp
    have X2 : ((w4.alloc (.cells #[.int .i64 k, .int .i64 c, .int .i64 d, .int .i64 a, .int .i64 b, .int .i64 n, .string t'] 26)).alloc (.cells #[.int .i64 k, .int .i64 a, .int .i64 b, .int .i64 u, .int .i64 v, .int .i64 n, .string t'] 26)).cell? ⟨w4.heap.size, 2, none⟩ = some (.int .i64 d) := by simp
    have X3 : ((w4.alloc (.cells #[.int .i64 k, .int .i64 c, .int .i64 d, .int .i64 a, .int .i64 b, .int .i64 n, .string t'] 26)).alloc (.cells #[.int .i64 k, .int .i64 a, .int .i64 b, .int .i64 u, .int .i64 v, .int .i64 n, .string t'] 26)).cell? ⟨w4.heap.size, 3, none⟩ = some (.int .i64 a) := by simp
    have X4 : ((w4.alloc (.cells #[.int .i64 k, .int .i64 c, .int .i64 d, .int .i64 a, .int .i64 b, .int .i64 n, .string t'] 26)).alloc (.cells #[.int .i64 k, .int .i64 a, .int .i64 b, .int .i64 u, .int .i64 v, .int .i64 n, .string t'] 26)).cell? ⟨w4.heap.size, 4, none⟩ = some (.int .i64 b) := by simp
    have X5 : ((w4.alloc (.cells #[.int .i64 k, .int .i64 c, .int .i64 d, .int .i64 a, .int .i64 b, .int .i64 n, .string t'] 26)).alloc (.cells #[.int .i64 k, .int .i64 a, .int .i64 b, .int .i64 u, .int .i64 v, .int .i64 n, .string t'] 26)).cell? ⟨w4.heap.size, 5, none⟩ = some (.int .i64 n) := by simp
    have X6 : ((w4.alloc (.cells #[.int .i64 k, .int .i64 c, .int .i64 d, .int .i64 a, .int .i64 b, .int .i64 n, .string t'] 26)).alloc (.cells #[.int .i64 k, .int .i64 a, .int .i64 b, .int .i64 u, .int .i64 v, .int .i64 n, .string t'] 26)).cell? ⟨w4.heap.size, 6, none⟩ = some (.string t') := by simp
    have Y0 : ((w4.alloc (.cells #[.int .i64 k, .int .i64 c, .int .i64 d, .int .i64 a, .int .i64 b, .int .i64 n, .string t'] 26)).alloc (.cells #[.int .i64 k, .int .i64 a, .int .i64 b, .int .i64 u, .int .i64 v, .int .i64 n, .string t'] 26)).cell? ⟨w4.heap.size + 1, 0, none⟩ = some (.int .i64 k) := by simp
    have Y1 : ((w4.alloc (.cells #[.int .i64 k, .int .i64 c, .int .i64 d, .int .i64 a, .int .i64 b, .int .i64 n, .string t'] 26)).alloc (.cells #[.int .i64 k, .int .i64 a, .int .i64 b, .int .i64 u, .int .i64 v, .int .i64 n, .string t'] 26)).cell? ⟨w4.heap.size + 1, 1, none⟩ = some (.int .i64 a) := by simp
    have Y2 : ((w4.alloc (.cells #[.int .i64 k, .int .i64 c, .int .i64 d, .int .i64 a, .int .i64 b, .int .i64 n, .string t'] 26)).alloc (.cells #[.int .i64 k, .int .i64 a, .int .i64 b, .int .i64 u, .int .i64 v, .int .i64 n, .string t'] 26)).cell? ⟨w4.heap.size + 1, 2, none⟩ = some (.int .i64 b) := by simp
    have Y3 : ((w4.alloc (.cells #[.int .i64 k, .int .i64 c, .int .i64 d, .int .i64 a, .int .i64 b, .int .i64 n, .string t'] 26)).alloc (.cells #[.int .i64 k, .int .i64 a, .int .i64 b, .int .i64 u, .int .i64 v, .int .i64 n, .string t'] 26)).cell? ⟨w4.heap.size + 1, 3, none⟩ = some (.int .i64 u) := by simp
    have Y4 : ((w4.alloc (.cells #[.int .i64 k, .int .i64 c, .int .i64 d, .int .i64 a, .int .i64 b, .int .i64 n, .string t'] 26)).alloc (.cells #[.int .i64 k, .int .i64 a, .int .i64 b, .int .i64 u, .int .i64 v, .int .i64 n, .string t'] 26)).cell? ⟨w4.heap.size + 1, 4, none⟩ = some (.int .i64 v) := by simp
    have Y5 : ((w4.alloc (.cells #[.int .i64 k, .int .i64 c, .int .i64 d, .int .i64 a, .int .i64 b, .int .i64 n, .string t'] 26)).alloc (.cells #[.int .i64 k, .int .i64 a, .int .i64 b, .int .i64 u, .int .i64 v, .int .i64 n, .string t'] 26)).cell? ⟨w4.heap.size + 1, 5, none⟩ = some (.int .i64 n) := by simp
    have Y6 : ((w4.alloc (.cells #[.int .i64 k, .int .i64 c, .int .i64 d, .int .i64 a, .int .i64 b, .int .i64 n, .string t'] 26)).alloc (.cells #[.int .i64 k, .int .i64 a, .int .i64 b, .int .i64 u, .int .i64 v, .int .i64 n, .string t'] 26)).cell? ⟨w4.heap.size + 1, 6, none⟩ = some (.string t') := by simp
    have eA := (Below.refl w4.heap.size w4).alloc (Nat.le_refl _) (.cells #[.int .i64 k, .int .i64 c, .int .i64 d, .int .i64 a, .int .i64 b, .int .i64 n, .string t'] 26)
    have eB := eA.alloc (by simp) (.cells #[.int .i64 k, .int .i64 a, .int .i64 b, .int .i64 u, .int .i64 v, .int .i64 n, .string t'] 26)
    have E0 : ((w4.alloc (.cells #[.int .i64 k, .int .i64 c, .int .i64 d, .int .i64 a, .int .i64 b, .int .i64 n, .string t'] 26)).alloc (.cells #[.int .i64 k, .int .i64 a, .int .i64 b, .int .i64 u, .int .i64 v, .int .i64 n, .string t'] 26)).cell? ⟨w2.heap.size, 0, none⟩ = some (.int .i64 u) := by rw [keepc eB w2.heap.size lt6, Q5]; simp
    have E1 : ((w4.alloc (.cells #[.int .i64 k, .int .i64 c, .int .i64 d, .int .i64 a, .int .i64 b, .int .i64 n, .string t'] 26)).alloc (.cells #[.int .i64 k, .int .i64 a, .int .i64 b, .int .i64 u, .int .i64 v, .int .i64 n, .string t'] 26)).cell? ⟨w2.heap.size, 1, none⟩ = some (.int .i64 v) := by rw [keepc eB w2.heap.size lt6, Q5]; simp
    have lx : w4.heap.size < ((w4.alloc (.cells #[.int .i64 k, .int .i64 c, .int .i64 d, .int .i64 a, .int .i64 b, .int .i64 n, .string t'] 26)).alloc (.cells #[.int .i64 k, .int .i64 a, .int .i64 b, .int .i64 u, .int .i64 v, .int .i64 n, .string t'] 26)).heap.size := by simp <;> omega
    have ly : w4.heap.size + 1 < ((w4.alloc (.cells #[.int .i64 k, .int .i64 c, .int .i64 d, .int .i64 a, .int .i64 b, .int .i64 n, .string t'] 26)).alloc (.cells #[.int .i64 k, .int .i64 a, .int .i64 b, .int .i64 u, .int .i64 v, .int .i64 n, .string t'] 26)).heap.size := by simp
    have le : w2.heap.size < ((w4.alloc (.cells #[.int .i64 k, .int .i64 c, .int .i64 d, .int .i64 a, .int .i64 b, .int .i64 n, .string t'] 26)).alloc (.cells #[.int .i64 k, .int .i64 a, .int .i64 b, .int .i64 u, .int .i64 v, .int .i64 n, .string t'] 26)).heap.size := Nat.lt_trans lt6 lx
    generalize hw0 : (w4.alloc (.cells #[.int .i64 k, .int .i64 c, .int .i64 d, .int .i64 a, .int .i64 b, .int .i64 n, .string t'] 26)).alloc (.cells #[.int .i64 k, .int .i64 a, .int .i64 b, .int .i64 u, .int .i64 v, .int .i64 n, .string t'] 26) = W0 at *
    clear hw0 eA eB P5 Q5
    have hmix : Tryd.prog.follows .mixedOrders = true := by kernel_rfl
    obtain ⟨VV, hVV⟩ : ∃ VV : Nat → Value, VV = fun j => [(.agg #[.int .i64 k, .int .i64 c, .int .i64 d, .int .i64 a, .int .i64 b, .int .i64 n, .string t'] : Value), .bool true, .bool true, .agg #[.int .i64 k, .int .i64 a, .int .i64 b, .int .i64 u, .int .i64 v, .int .i64 n, .string t'], .bool Vb, .agg #[.int .i64 u, .int .i64 v], .bool Vb, .bool true, .bool true, .bool true].getD j undef := ⟨_, rfl⟩
    have V0 : VV 0 = .agg #[.int .i64 k, .int .i64 c, .int .i64 d, .int .i64 a, .int .i64 b, .int .i64 n, .string t'] := by rw [hVV]; rfl
    have V1 : VV 1 = .bool true := by rw [hVV]; rfl
    have V2 : VV 2 = .bool true := by rw [hVV]; rfl
    have V3 : VV 3 = .agg #[.int .i64 k, .int .i64 a, .int .i64 b, .int .i64 u, .int .i64 v, .int .i64 n, .string t'] := by rw [hVV]; rfl
    have V4 : VV 4 = .bool Vb := by rw [hVV]; rfl
    have V5 : VV 5 = .agg #[.int .i64 u, .int .i64 v] := by rw [hVV]; rfl
    have V6 : VV 6 = .bool Vb := by rw [hVV]; rfl
    have V7 : VV 7 = .bool true := by rw [hVV]; rfl
    have V8 : VV 8 = .bool true := by rw [hVV]; rfl
    have V9 : VV 9 = .bool true := by rw [hVV]; rfl
    clear hVV
    refine wp_region_any hmix ?_
    refine Ri.any_inv (I := fun l a' w' => l.size = 10 ∧ ∃ t : Nat → Value, a' = { tmps := #[(Value.slice a0 len0 cap0 : Value), Value.slice a1 len1 cap1, undef, undef, t 9, Value.pointer (some { block := w1.heap.size, off := 0 }), Value.pointer (some { block := w2.heap.size, off := 0 }), Value.bool true, Value.pointer (some { block := w4.heap.size, off := 0 }), Value.pointer (some { block := w4.heap.size + 1, off := 0 }), Value.slice a0 len0 cap0, Value.int IntKind.i64 ↑len0, Value.bool (decide ((1048576 : Int) < (len0 : Int))), Value.bool (decide ((1048576 : Int) < (len0 : Int))), Value.slice a1 len1 cap1, Value.int IntKind.i64 ↑len1, Value.bool (decide ((1048576 : Int) < (len1 : Int))), Value.bool (decide ((1048576 : Int) < (len0 : Int)) || decide ((1048576 : Int) < (len1 : Int))), Value.slice a0 len0 cap0, pktV k a b c d n t', Value.slice a1 len1 cap1, Draw.endV u v, Value.agg #[Value.int IntKind.i64 k, Value.int IntKind.i64 a, Value.int IntKind.i64 b, Value.int IntKind.i64 c, Value.int IntKind.i64 d, Value.int IntKind.i64 n, Value.string t'], Value.bool true, Value.bool true, Value.agg #[Value.int IntKind.i64 k, Value.int IntKind.i64 a, Value.int IntKind.i64 b, Value.int IntKind.i64 c, Value.int IntKind.i64 d, Value.int IntKind.i64 n, Value.string t'], Value.bool true, Value.bool false, Value.bool false, Value.bool true, Value.bool false, Value.bool false, undef, undef, undef, undef, Value.agg #[Value.int IntKind.i64 k, Value.int IntKind.i64 a, Value.int IntKind.i64 b, Value.int IntKind.i64 c, Value.int IntKind.i64 d, Value.int IntKind.i64 n, Value.string t'], Value.pointer (some { block := w1.heap.size, off := 3 }), Value.agg #[Value.int IntKind.i64 c, Value.int IntKind.i64 d], Value.pointer (some { block := w4.heap.size, off := 1 }), Value.pointer (some { block := w1.heap.size, off := 1 }), Value.agg #[Value.int IntKind.i64 a, Value.int IntKind.i64 b], Value.pointer (some { block := w4.heap.size, off := 3 }), Value.agg #[Value.int IntKind.i64 k, Value.int IntKind.i64 a, Value.int IntKind.i64 b, Value.int IntKind.i64 c, Value.int IntKind.i64 d, Value.int IntKind.i64 n, Value.string t'], Value.agg #[Value.int IntKind.i64 u, Value.int IntKind.i64 v], Value.pointer (some { block := w4.heap.size + 1, off := 3 }), t 0, t 1, t 2, t 3, t 4, t 5, t 6, t 7, t 8], defers := [] } ∧ Rg.Vals l VV t ∧ Hid (Below W0.heap.size W0 w')) ?sz ?low ?step ?fin _ _ _ _ ?start (Ri.closed_none _ _ _) (Rg.left_all _)
    case sz => exact fun l a' w' h => h.1
    case start => exact ⟨by simp, fun j => ([undef, undef, undef, undef, undef, undef, undef, undef, undef, Value.bool false] : List Value).getD j undef, rfl, Rg.vals_none _ _ _, (Below.refl _ _).drew⟩
    case low => exact Ri.low_of (by kernel_rfl)
    case step =>
      rintro l a' w' i ⟨hsz, t, rfl, hv, HW⟩ hcl hi
      obtain ⟨h0, op, ho, hd⟩ := mem_ready.1 hi
      have hin : i < 10 := (Array.getElem?_eq_some_iff.1 ho).1
      clear h0 hi hcl
      have hc : i = 0 ∨ i = 1 ∨ i = 2 ∨ i = 3 ∨ i = 4 ∨ i = 5 ∨ i = 6 ∨ i = 7 ∨ i = 8 ∨ i = 9 := by omega
      rcases hc with rfl | rfl | rfl | rfl | rfl | rfl | rfl | rfl | rfl | rfl
      · obtain rfl : _ = op := Option.some.inj (show some _ = some op from ho)
        have yX0 : w'.cell? ⟨w4.heap.size, 0, none⟩ = some (.int .i64 k) := (HW.out.cell (p := ⟨w4.heap.size, 0, none⟩) lx).trans X0
        have yX1 : w'.cell? ⟨w4.heap.size, 1, none⟩ = some (.int .i64 c) := (HW.out.cell (p := ⟨w4.heap.size, 1, none⟩) lx).trans X1
        have yX2 : w'.cell? ⟨w4.heap.size, 2, none⟩ = some (.int .i64 d) := (HW.out.cell (p := ⟨w4.heap.size, 2, none⟩) lx).trans X2
        have yX3 : w'.cell? ⟨w4.heap.size, 3, none⟩ = some (.int .i64 a) := (HW.out.cell (p := ⟨w4.heap.size, 3, none⟩) lx).trans X3
        have yX4 : w'.cell? ⟨w4.heap.size, 4, none⟩ = some (.int .i64 b) := (HW.out.cell (p := ⟨w4.heap.size, 4, none⟩) lx).trans X4
        have yX5 : w'.cell? ⟨w4.heap.size, 5, none⟩ = some (.int .i64 n) := (HW.out.cell (p := ⟨w4.heap.size, 5, none⟩) lx).trans X5
        have yX6 : w'.cell? ⟨w4.heap.size, 6, none⟩ = some (.string t') := (HW.out.cell (p := ⟨w4.heap.size, 6, none⟩) lx).trans X6
        have yY0 : w'.cell? ⟨w4.heap.size + 1, 0, none⟩ = some (.int .i64 k) := (HW.out.cell (p := ⟨w4.heap.size + 1, 0, none⟩) ly).trans Y0
        have yY1 : w'.cell? ⟨w4.heap.size + 1, 1, none⟩ = some (.int .i64 a) := (HW.out.cell (p := ⟨w4.heap.size + 1, 1, none⟩) ly).trans Y1
        have yY2 : w'.cell? ⟨w4.heap.size + 1, 2, none⟩ = some (.int .i64 b) := (HW.out.cell (p := ⟨w4.heap.size + 1, 2, none⟩) ly).trans Y2
        have yY3 : w'.cell? ⟨w4.heap.size + 1, 3, none⟩ = some (.int .i64 u) := (HW.out.cell (p := ⟨w4.heap.size + 1, 3, none⟩) ly).trans Y3
        have yY4 : w'.cell? ⟨w4.heap.size + 1, 4, none⟩ = some (.int .i64 v) := (HW.out.cell (p := ⟨w4.heap.size + 1, 4, none⟩) ly).trans Y4
        have yY5 : w'.cell? ⟨w4.heap.size + 1, 5, none⟩ = some (.int .i64 n) := (HW.out.cell (p := ⟨w4.heap.size + 1, 5, none⟩) ly).trans Y5
        have yY6 : w'.cell? ⟨w4.heap.size + 1, 6, none⟩ = some (.string t') := (HW.out.cell (p := ⟨w4.heap.size + 1, 6, none⟩) ly).trans Y6
        have yE0 : w'.cell? ⟨w2.heap.size, 0, none⟩ = some (.int .i64 u) := (HW.out.cell (p := ⟨w2.heap.size, 0, none⟩) le).trans E0
        have yE1 : w'.cell? ⟨w2.heap.size, 1, none⟩ = some (.int .i64 v) := (HW.out.cell (p := ⟨w2.heap.size, 1, none⟩) le).trans E1
        have HV := (show Hid (Rg.Vals l VV t) from hv)
        clear hv hd ho
        refine wpOp_step rfl fun K9 hK9 => ?_
        have HKK := (show Hid _ from hK9)
        clear hK9
        go_simp
        exact HKK.out _ _ ⟨by simp [hsz], fun j => if j = 0 then .agg #[.int .i64 k, .int .i64 c, .int .i64 d, .int .i64 a, .int .i64 b, .int .i64 n, .string t'] else t j, by simp, HV.out.put 0 _ V0.symm, HW⟩
      · obtain rfl : _ = op := Option.some.inj (show some _ = some op from ho)
        have e0 : t 0 = .agg #[.int .i64 k, .int .i64 c, .int .i64 d, .int .i64 a, .int .i64 b, .int .i64 n, .string t'] := (hv 0 (hd { on := 0, ground := .data } (by simp) rfl)).trans V0
        have HV := (show Hid (Rg.Vals l VV t) from hv)
        clear hv hd ho
        refine wpOp_step rfl fun K9 hK9 => ?_
        have HKK := (show Hid _ from hK9)
        clear hK9
        go_simp
        refine (pktOk_is k c d a b n t' true hx _).mono ?_
        rintro e w9 ⟨rfl, k9⟩
        refine HKK.out _ _ ⟨by simp [hsz], fun j => if j = 1 then .bool true else t j, by simp [e0], HV.out.put 1 _ V1.symm, HW.out.trans (k9.mono HW.out.size)⟩
      · obtain rfl : _ = op := Option.some.inj (show some _ = some op from ho)
        have e1 : t 1 = .bool true := (hv 1 (hd { on := 1, ground := .data } (by simp) rfl)).trans V1
        have HV := (show Hid (Rg.Vals l VV t) from hv)
        clear hv hd ho
        refine wpOp_step rfl fun K9 hK9 => ?_
        have HKK := (show Hid _ from hK9)
        clear hK9
        go_simp
        exact HKK.out _ _ ⟨by simp [hsz], fun j => if j = 2 then .bool true else t j, by simp [e1], HV.out.put 2 _ V2.symm, HW⟩
      · obtain rfl : _ = op := Option.some.inj (show some _ = some op from ho)
        have e2 : t 2 = .bool true := (hv 2 (hd { on := 2, ground := .guard } (by simp) rfl)).trans V2
        have yX0 : w'.cell? ⟨w4.heap.size, 0, none⟩ = some (.int .i64 k) := (HW.out.cell (p := ⟨w4.heap.size, 0, none⟩) lx).trans X0
        have yX1 : w'.cell? ⟨w4.heap.size, 1, none⟩ = some (.int .i64 c) := (HW.out.cell (p := ⟨w4.heap.size, 1, none⟩) lx).trans X1
        have yX2 : w'.cell? ⟨w4.heap.size, 2, none⟩ = some (.int .i64 d) := (HW.out.cell (p := ⟨w4.heap.size, 2, none⟩) lx).trans X2
        have yX3 : w'.cell? ⟨w4.heap.size, 3, none⟩ = some (.int .i64 a) := (HW.out.cell (p := ⟨w4.heap.size, 3, none⟩) lx).trans X3
        have yX4 : w'.cell? ⟨w4.heap.size, 4, none⟩ = some (.int .i64 b) := (HW.out.cell (p := ⟨w4.heap.size, 4, none⟩) lx).trans X4
        have yX5 : w'.cell? ⟨w4.heap.size, 5, none⟩ = some (.int .i64 n) := (HW.out.cell (p := ⟨w4.heap.size, 5, none⟩) lx).trans X5
        have yX6 : w'.cell? ⟨w4.heap.size, 6, none⟩ = some (.string t') := (HW.out.cell (p := ⟨w4.heap.size, 6, none⟩) lx).trans X6
        have yY0 : w'.cell? ⟨w4.heap.size + 1, 0, none⟩ = some (.int .i64 k) := (HW.out.cell (p := ⟨w4.heap.size + 1, 0, none⟩) ly).trans Y0
        have yY1 : w'.cell? ⟨w4.heap.size + 1, 1, none⟩ = some (.int .i64 a) := (HW.out.cell (p := ⟨w4.heap.size + 1, 1, none⟩) ly).trans Y1
        have yY2 : w'.cell? ⟨w4.heap.size + 1, 2, none⟩ = some (.int .i64 b) := (HW.out.cell (p := ⟨w4.heap.size + 1, 2, none⟩) ly).trans Y2
        have yY3 : w'.cell? ⟨w4.heap.size + 1, 3, none⟩ = some (.int .i64 u) := (HW.out.cell (p := ⟨w4.heap.size + 1, 3, none⟩) ly).trans Y3
        have yY4 : w'.cell? ⟨w4.heap.size + 1, 4, none⟩ = some (.int .i64 v) := (HW.out.cell (p := ⟨w4.heap.size + 1, 4, none⟩) ly).trans Y4
        have yY5 : w'.cell? ⟨w4.heap.size + 1, 5, none⟩ = some (.int .i64 n) := (HW.out.cell (p := ⟨w4.heap.size + 1, 5, none⟩) ly).trans Y5
        have yY6 : w'.cell? ⟨w4.heap.size + 1, 6, none⟩ = some (.string t') := (HW.out.cell (p := ⟨w4.heap.size + 1, 6, none⟩) ly).trans Y6
        have yE0 : w'.cell? ⟨w2.heap.size, 0, none⟩ = some (.int .i64 u) := (HW.out.cell (p := ⟨w2.heap.size, 0, none⟩) le).trans E0
        have yE1 : w'.cell? ⟨w2.heap.size, 1, none⟩ = some (.int .i64 v) := (HW.out.cell (p := ⟨w2.heap.size, 1, none⟩) le).trans E1
        have HV := (show Hid (Rg.Vals l VV t) from hv)
        clear hv hd ho
        refine wpOp_step rfl fun K9 hK9 => ?_
        have HKK := (show Hid _ from hK9)
        clear hK9
        go_simp
        exact HKK.out _ _ ⟨by simp [hsz], fun j => if j = 3 then .agg #[.int .i64 k, .int .i64 a, .int .i64 b, .int .i64 u, .int .i64 v, .int .i64 n, .string t'] else t j, by simp [e2], HV.out.put 3 _ V3.symm, HW⟩
      · obtain rfl : _ = op := Option.some.inj (show some _ = some op from ho)
        have e3 : t 3 = .agg #[.int .i64 k, .int .i64 a, .int .i64 b, .int .i64 u, .int .i64 v, .int .i64 n, .string t'] := (hv 3 (hd { on := 3, ground := .data } (by simp) rfl)).trans V3
        have e2 : t 2 = .bool true := (hv 2 (hd { on := 2, ground := .guard } (by simp) rfl)).trans V2
        have HV := (show Hid (Rg.Vals l VV t) from hv)
        clear hv hd ho
        refine wpOp_step rfl fun K9 hK9 => ?_
        have HKK := (show Hid _ from hK9)
        clear hK9
        go_simp
        refine (pktOk_is k a b u v n t' Vb hy _).mono ?_
        rintro e w9 ⟨rfl, k9⟩
        refine HKK.out _ _ ⟨by simp [hsz], fun j => if j = 4 then .bool Vb else t j, by simp [e3, e2], HV.out.put 4 _ V4.symm, HW.out.trans (k9.mono HW.out.size)⟩
      · obtain rfl : _ = op := Option.some.inj (show some _ = some op from ho)
        have e2 : t 2 = .bool true := (hv 2 (hd { on := 2, ground := .guard } (by simp) rfl)).trans V2
        have yX0 : w'.cell? ⟨w4.heap.size, 0, none⟩ = some (.int .i64 k) := (HW.out.cell (p := ⟨w4.heap.size, 0, none⟩) lx).trans X0
        have yX1 : w'.cell? ⟨w4.heap.size, 1, none⟩ = some (.int .i64 c) := (HW.out.cell (p := ⟨w4.heap.size, 1, none⟩) lx).trans X1
        have yX2 : w'.cell? ⟨w4.heap.size, 2, none⟩ = some (.int .i64 d) := (HW.out.cell (p := ⟨w4.heap.size, 2, none⟩) lx).trans X2
        have yX3 : w'.cell? ⟨w4.heap.size, 3, none⟩ = some (.int .i64 a) := (HW.out.cell (p := ⟨w4.heap.size, 3, none⟩) lx).trans X3
        have yX4 : w'.cell? ⟨w4.heap.size, 4, none⟩ = some (.int .i64 b) := (HW.out.cell (p := ⟨w4.heap.size, 4, none⟩) lx).trans X4
        have yX5 : w'.cell? ⟨w4.heap.size, 5, none⟩ = some (.int .i64 n) := (HW.out.cell (p := ⟨w4.heap.size, 5, none⟩) lx).trans X5
        have yX6 : w'.cell? ⟨w4.heap.size, 6, none⟩ = some (.string t') := (HW.out.cell (p := ⟨w4.heap.size, 6, none⟩) lx).trans X6
        have yY0 : w'.cell? ⟨w4.heap.size + 1, 0, none⟩ = some (.int .i64 k) := (HW.out.cell (p := ⟨w4.heap.size + 1, 0, none⟩) ly).trans Y0
        have yY1 : w'.cell? ⟨w4.heap.size + 1, 1, none⟩ = some (.int .i64 a) := (HW.out.cell (p := ⟨w4.heap.size + 1, 1, none⟩) ly).trans Y1
        have yY2 : w'.cell? ⟨w4.heap.size + 1, 2, none⟩ = some (.int .i64 b) := (HW.out.cell (p := ⟨w4.heap.size + 1, 2, none⟩) ly).trans Y2
        have yY3 : w'.cell? ⟨w4.heap.size + 1, 3, none⟩ = some (.int .i64 u) := (HW.out.cell (p := ⟨w4.heap.size + 1, 3, none⟩) ly).trans Y3
        have yY4 : w'.cell? ⟨w4.heap.size + 1, 4, none⟩ = some (.int .i64 v) := (HW.out.cell (p := ⟨w4.heap.size + 1, 4, none⟩) ly).trans Y4
        have yY5 : w'.cell? ⟨w4.heap.size + 1, 5, none⟩ = some (.int .i64 n) := (HW.out.cell (p := ⟨w4.heap.size + 1, 5, none⟩) ly).trans Y5
        have yY6 : w'.cell? ⟨w4.heap.size + 1, 6, none⟩ = some (.string t') := (HW.out.cell (p := ⟨w4.heap.size + 1, 6, none⟩) ly).trans Y6
        have yE0 : w'.cell? ⟨w2.heap.size, 0, none⟩ = some (.int .i64 u) := (HW.out.cell (p := ⟨w2.heap.size, 0, none⟩) le).trans E0
        have yE1 : w'.cell? ⟨w2.heap.size, 1, none⟩ = some (.int .i64 v) := (HW.out.cell (p := ⟨w2.heap.size, 1, none⟩) le).trans E1
        have HV := (show Hid (Rg.Vals l VV t) from hv)
        clear hv hd ho
        refine wpOp_step rfl fun K9 hK9 => ?_
        have HKK := (show Hid _ from hK9)
        clear hK9
        go_simp
        exact HKK.out _ _ ⟨by simp [hsz], fun j => if j = 5 then .agg #[.int .i64 u, .int .i64 v] else t j, by simp [e2], HV.out.put 5 _ V5.symm, HW⟩
      · obtain rfl : _ = op := Option.some.inj (show some _ = some op from ho)
        have e5 : t 5 = .agg #[.int .i64 u, .int .i64 v] := (hv 5 (hd { on := 5, ground := .data } (by simp) rfl)).trans V5
        have e2 : t 2 = .bool true := (hv 2 (hd { on := 2, ground := .guard } (by simp) rfl)).trans V2
        have HV := (show Hid (Rg.Vals l VV t) from hv)
        clear hv hd ho
        refine wpOp_step rfl fun K9 hK9 => ?_
        have HKK := (show Hid _ from hK9)
        clear hK9
        go_simp
        refine (anyV _).mono ?_
        rintro e w9 ⟨rfl, k9⟩
        refine HKK.out _ _ ⟨by simp [hsz], fun j => if j = 6 then .bool Vb else t j, by simp [e5, e2], HV.out.put 6 _ V6.symm, HW.out.trans (k9.mono HW.out.size)⟩
      · obtain rfl : _ = op := Option.some.inj (show some _ = some op from ho)
        have e4 : t 4 = .bool Vb := (hv 4 (hd { on := 4, ground := .data } (by simp) rfl)).trans V4
        have e6 : t 6 = .bool Vb := (hv 6 (hd { on := 6, ground := .data } (by simp) rfl)).trans V6
        have e2 : t 2 = .bool true := (hv 2 (hd { on := 2, ground := .guard } (by simp) rfl)).trans V2
        have HV := (show Hid (Rg.Vals l VV t) from hv)
        clear hv hd ho
        refine wpOp_step rfl fun K9 hK9 => ?_
        have HKK := (show Hid _ from hK9)
        clear hK9
        go_simp
        exact HKK.out _ _ ⟨by simp [hsz], fun j => if j = 7 then .bool true else t j, by simp [e4, e6, e2], HV.out.put 7 _ V7.symm, HW⟩
      · obtain rfl : _ = op := Option.some.inj (show some _ = some op from ho)
        have e2 : t 2 = .bool true := (hv 2 (hd { on := 2, ground := .data } (by simp) rfl)).trans V2
        have e7 : t 7 = .bool true := (hv 7 (hd { on := 7, ground := .data } (by simp) rfl)).trans V7
        have HV := (show Hid (Rg.Vals l VV t) from hv)
        clear hv hd ho
        refine wpOp_step rfl fun K9 hK9 => ?_
        have HKK := (show Hid _ from hK9)
        clear hK9
        go_simp
        exact HKK.out _ _ ⟨by simp [hsz], fun j => if j = 8 then .bool true else t j, by simp [e2, e7], HV.out.put 8 _ V8.symm, HW⟩
      · obtain rfl : _ = op := Option.some.inj (show some _ = some op from ho)
        have e8 : t 8 = .bool true := (hv 8 (hd { on := 8, ground := .data } (by simp) rfl)).trans V8
        have HV := (show Hid (Rg.Vals l VV t) from hv)
        clear hv hd ho
        refine wpOp_step rfl fun K9 hK9 => ?_
        have HKK := (show Hid _ from hK9)
        clear hK9
        go_simp
        exact HKK.out _ _ ⟨by simp [hsz], fun j => if j = 9 then .bool true else t j, by simp [e8], HV.out.put 9 _ V9.symm, HW⟩
    case fin =>
      rintro l a' w' ⟨hsz, t, rfl, hv, HW⟩ hall
      have e9 : t 9 = .bool true := (hv 9 (hall 9 (by simp))).trans V9
      rw [e9]
      clear hv hall e9
      go_wp2
      go_ret
      exact ⟨rfl, bel.trans (HW.out.mono bel.size)⟩
end Go.Proofs.YtnjggammbebpkaaDoor.LPktEnds

/- The walk of the law on one port for an end: it answers true. -/
import Derived.Test.YtcoengedikcneacDrawN
import Derived.Test.YtcoengedikcneacLzM
import Derived.Test.YtcoengedikcneacMi
import Derived.Test.YtcoengedikcneacMq
import Derived.Test.YtcoengedikcneacMpO
namespace Go.Proofs.Ytcoengedikcneac.LMapOnce
open Go.RowKit Go.Proofs.Ytcoengedikcneac.Kit Go.Proofs.Ytcoengedikcneac.Mp Go.Proofs.Ytcoengedikcneac.Mm Go.Proofs.Ytcoengedikcneac.Ml Go.Proofs.Ytcoengedikcneac.Ms Go.Proofs.Ytcoengedikcneac.App Go.Proofs.Ytcoengedikcneac.DrawM
open Go.Proofs.Ytcoengedikcneac.LzM (lz_same)
open Go.Proofs.Ytcoengedikcneac.EndW (endV)
set_option linter.unusedVariables false
set_option linter.unusedSimpArgs false

set_option maxHeartbeats 1000000 in
theorem long (a : Option Addr) (len cap : Nat) (w : World) (h : (1048576 : Int) < (len : Int)) :
    Calls Try.prog 4 #[.slice a len cap] w fun e w' => e = .returned (.bool true) ∧ Below w.heap.size w w' := by
  go_enter Try.func4, Try.ntmps4
  go_wp2
  go_ret
  exact ⟨rfl, Below.refl _ _⟩

set_option maxRecDepth 8000 in
set_option maxHeartbeats 8000000 in
theorem short (a : Option Addr) (len cap : Nat) (z : Nat → Int) (w : World) (hc : CodeIn w a len cap z) (h : (len : Int) ≤ 1048576) :
    Calls Try.prog 4 #[.slice a len cap] w fun e w' => e = .returned (.bool true) ∧ Below w.heap.size w w' := by
  go_enter Try.func4, Try.ntmps4
  go_wp2_with fail
  refine (drawOut a len cap z _ hc).mono ?_
  rintro e w1 ⟨v, m, x, y, rfl, hm1, hml, hsm, k1⟩
  obtain ⟨mo, HO⟩ : ∃ mo, Hid (mOut m (x, y) = mo) := ⟨_, rfl⟩
  have hmo : mo.1.length ≤ 8 := by rw [← HO.out]; exact mout_len m _
  obtain ⟨W, hW⟩ : ∃ W, W = w1.alloc (.cells #[.int .i64 x, .int .i64 y] 29) := ⟨_, rfl⟩
  have bW : Below w1.heap.size w1 W := by rw [hW]; exact (Below.refl _ _).alloc (Nat.le_refl _) _
  have hm : IsM W v m := hm1.below bW
  have p0 : W.cell? ⟨w1.heap.size, 0, none⟩ = some (.int .i64 x) := by rw [hW]; simp
  have p1 : W.cell? ⟨w1.heap.size, 1, none⟩ = some (.int .i64 y) := by rw [hW]; simp
  have hlW : w1.heap.size < W.heap.size := by rw [hW]; simp
  have b0 := k1.trans (bW.mono k1.size)
  go_wp2_with fail
  rw [← hW]
  clear hW hm1 bW
  refine (sout_any _ v m hm (by omega) (x, y)).mono ?_
  rintro e w2 ⟨vS, rfl, hrS, k2⟩
  rw [HO.out] at hrS
  rw [HO.out]
  have c0 := (k2.cell (p := ⟨w1.heap.size, 0, none⟩) hlW).trans p0
  have c1 := (k2.cell (p := ⟨w1.heap.size, 1, none⟩) hlW).trans p1
  have hS2 := isM_of_row hrS
  clear hrS
  go_wp2_with fail
  refine (out_any _ v m (hm.below k2) (x, y)).mono ?_
  rintro e w3 ⟨vX, rfl, hrX, k3⟩
  rw [HO.out] at hrX
  rw [HO.out]
  have b3 := k2.trans (k3.mono k2.size)
  have hS3 := hS2.below k3
  have hX3 := isM_of_row hrX
  obtain ⟨ax, cx, rfl⟩ := isM_slice hX3
  clear hrX hS2 k3 c0 c1
  obtain ⟨ml, mp, mb⟩ := mo
  cases mb
  · go_wp2_with fail
    refine (lz_same _ _ (Nat.le_trans hmo (by omega)) _ _ hX3 hS3).mono ?_
    rintro e w4 ⟨rfl, k4⟩
    go_wp2_with fail
    refine (lz_same _ _ (Nat.le_trans hmo (by omega)) _ _ (hX3.below k4) (hS3.below k4)).mono ?_
    rintro e w5 ⟨rfl, k5⟩
    go_wp2
    go_ret
    exact ⟨rfl, b0.trans ((b3.trans ((k4.trans (k5.mono k4.size)).mono b3.size)).mono b0.size)⟩
  · obtain ⟨q1, q2, q3, q4, q5, q6, q7, q8⟩ := mout_once m (x, y) (by rw [HO.out])
    rw [HO.out] at q1 q2 q3 q4 q5 q6 q7 q8
    have H1 : Hid (mIn ml mp = ((x, y), true)) := q1
    have H2 : Hid (mOut ml (x, y) = (ml, mp, true)) := q2
    have H5 : Hid (ml.take m.length = m) := q5
    have H6 : Hid (okM ml = true) := q6
    simp only at hmo hX3 hS3 q3 q4 q7 q8
    clear q1 q2 q5 q6
    have q3' : (m.length : Int) ≤ (ml.length : Int) := by omega
    have q4' : (ml.length : Int) ≤ (m.length : Int) + 1 := by omega
    go_wp2_with fail
    refine (lz_same _ ml (by omega) _ _ hX3 hS3).mono ?_
    rintro e w4 ⟨rfl, k4⟩
    have b4 := b3.trans (k4.mono b3.size)
    have hX4 := hX3.below k4
    clear k4 b3 hX3 hS3
    go_wp2_with fail
    refine (in_any _ _ ml hX4 mp (Mj.wf_small _ (by omega) (by omega))).mono ?_
    rintro e w5 ⟨rfl, k5⟩
    rw [H1.out]
    have b5 := b4.trans (k5.mono b4.size)
    have hX5 := hX4.below k5
    have bN : Below w5.heap.size w5 (w5.alloc (.cells #[.int .i64 x, .int .i64 y] 29)) := (Below.refl _ _).alloc (Nat.le_refl _) _
    have hX6 := hX5.below bN
    have b6 := b5.trans (bN.mono b5.size)
    have z5 := b5.size
    have d0 : (w5.alloc (.cells #[.int .i64 x, .int .i64 y] 29)).cell? ⟨w1.heap.size, 0, none⟩ = some (.int .i64 x) := (b6.cell (p := ⟨w1.heap.size, 0, none⟩) hlW).trans p0
    have d1 : (w5.alloc (.cells #[.int .i64 x, .int .i64 y] 29)).cell? ⟨w1.heap.size, 1, none⟩ = some (.int .i64 y) := (b6.cell (p := ⟨w1.heap.size, 1, none⟩) hlW).trans p1
    clear k5 hX4 hX5 b4 b5
    go_wp2_with fail
    refine (out_any _ _ ml hX6 (x, y)).mono ?_
    rintro e w7 ⟨vY, rfl, hrY, k7⟩
    rw [H2.out] at hrY
    rw [H2.out]
    have b7 := b6.trans (k7.mono b6.size)
    have hX7 := hX6.below k7
    have hY7 := isM_of_row hrY
    have e0 := (b7.cell (p := ⟨w1.heap.size, 0, none⟩) hlW).trans p0
    have e1 := (b7.cell (p := ⟨w1.heap.size, 1, none⟩) hlW).trans p1
    have i0 : w7.cell? ⟨w5.heap.size, 0, none⟩ = some (.int .i64 x) := (k7.cell (p := ⟨w5.heap.size, 0, none⟩) (by simp)).trans (by simp)
    have i1 : w7.cell? ⟨w5.heap.size, 1, none⟩ = some (.int .i64 y) := (k7.cell (p := ⟨w5.heap.size, 1, none⟩) (by simp)).trans (by simp)
    have hm7 := hm.below b7
    obtain ⟨av, cv, rfl⟩ := isM_slice hm7
    clear hrY k7 hX6 b6 d0 d1 bN hm
    go_wp2_with fail
    refine (lz_same _ ml (by omega) _ _ hY7 hX7).mono ?_
    rintro e w8 ⟨rfl, k8⟩
    have b8 := b7.trans (k8.mono b7.size)
    have hX8 := hX7.below k8
    have hm8 := hm7.below k8
    have hT8 : IsM w8 (.slice ax m.length cx) m := by
      have := isM_take hX8 m.length q3
      rwa [H5.out] at this
    have hcx : (m.length : Int) ≤ (cx : Int) := by
      rcases hX8 with ⟨e, he⟩ | ⟨_, _, _, e, h2, _⟩
      · have h0 : ml.length = 0 := by rw [he]; rfl
        omega
      · simp at e; obtain ⟨_, rfl⟩ := e; omega
    clear k8 hX7 hY7 hm7 b7
    go_wp2_with fail
    refine (lz_same _ m (by omega) _ _ hT8 hm8).mono ?_
    rintro e w9 ⟨rfl, k9⟩
    have b9 := b8.trans (k9.mono b8.size)
    have hX9 := hX8.below k9
    clear k9 hX8 hm8 hT8 b8
    go_wp2_with fail
    refine (ok_any _ _ ml hX9).mono ?_
    rintro e w10 ⟨rfl, k10⟩
    rw [H6.out]
    go_wp2
    go_ret
    exact ⟨rfl, b0.trans ((b9.trans (k10.mono b9.size)).mono b0.size)⟩
end Go.Proofs.Ytcoengedikcneac.LMapOnce

/- The walk of the exact law on MapOut: it answers true. -/
import Derived.Test.YtcoengedikcneayExM
import Derived.Test.YtcoengedikcneayMi
import Derived.Test.YtcoengedikcneayMq
namespace Go.Proofs.Ytcoengedikcneay.XMapOut
open Go.RowKit Go.Proofs.Ytcoengedikcneay.Kit Go.Proofs.Ytcoengedikcneay.Mp Go.Proofs.Ytcoengedikcneay.Mm Go.Proofs.Ytcoengedikcneay.ExM Go.Proofs.Ytcoengedikcneay.Ml Go.Proofs.Ytcoengedikcneay.Ms Go.Proofs.Ytcoengedikcneay.App
open Go.Proofs.Ytcoengedikcneay.EndW (endV)
set_option linter.unusedVariables false
set_option linter.unusedSimpArgs false

set_option maxHeartbeats 1000000 in
theorem long (a : Option Addr) (len cap : Nat) (m : List (Int × Int × Int)) (x y : Int) (w : World) (hA : ArgM w a len cap m) (h : (1048576 : Int) < (len : Int)) :
    Calls Try.prog 4 #[.slice a len cap, .agg #[.int .i64 x, .int .i64 y]] w fun e w' => e = .returned (.bool true) ∧ Below w.heap.size w w' := by
  have hm := Nat.le_trans hA.hc.1 hA.hc.2
  go_enter Try.func4, Try.ntmps4
  go_wp2_with fail
  refine (sz_big a len cap h hm _).mono ?_
  rintro e w1 ⟨rfl, rfl⟩
  go_wp2
  go_ret
  exact ⟨rfl, (Below.refl _ _).alloc (Nat.le_refl _) _⟩

theorem mout_len (m : List (Int × Int × Int)) (e : Int × Int) : (mOut m e).1.length ≤ 8 := by
  unfold mOut
  split
  · next h =>
    rw [prs_len]
    exact (outE_good _ _ (okM_out m h.1).1 h.2).len
  · exact Nat.zero_le _

set_option maxRecDepth 8000 in
set_option maxHeartbeats 8000000 in
theorem short (a : Option Addr) (len cap : Nat) (m : List (Int × Int × Int)) (x y : Int) (w : World) (hA0 : ArgM w a len cap m) (h : (len : Int) ≤ 1048576) :
    Calls Try.prog 4 #[.slice a len cap, .agg #[.int .i64 x, .int .i64 y]] w fun e w' => e = .returned (.bool true) ∧ Below w.heap.size w w' := by
  have hml : m.length ≤ 1048576 := by have hl := hA0.hl; omega
  have h1 : 0 ≤ 1048576 - (len : Int) := by omega
  obtain ⟨mo, HO⟩ : ∃ mo, Hid (mOut m (x, y) = mo) := ⟨_, rfl⟩
  have hmo : mo.1.length ≤ 8 := by rw [← HO.out]; exact mout_len m _
  obtain ⟨W, hW⟩ : ∃ W, W = w.alloc (.cells #[.int .i64 x, .int .i64 y] 30) := ⟨_, rfl⟩
  have bW : Below w.heap.size w W := by rw [hW]; exact (Below.refl _ _).alloc (Nat.le_refl _) _
  have hA : ArgM W a len cap m := hA0.below bW
  have p0 : W.cell? ⟨w.heap.size, 0, none⟩ = some (.int .i64 x) := by rw [hW]; simp
  have p1 : W.cell? ⟨w.heap.size, 1, none⟩ = some (.int .i64 y) := by rw [hW]; simp
  have hlW : w.heap.size < W.heap.size := by rw [hW]; simp
  go_enter Try.func4, Try.ntmps4
  go_wp2_with fail
  rw [← hW]
  clear hW hA0
  refine (sz_ok a len cap h _).mono ?_
  rintro e w1 ⟨rfl, rfl⟩
  go_wp2_with fail
  have bc : Below w1.heap.size w1 w1 := Below.refl _ _
  have c0 := p0
  have c1 := p1
  go_region_with (first
    | (go_at_call 8; refine (toS_any _ a len cap m (hA.below (by first | exact bc | exact bc.drew | exact bc.drew.drew | exact bc.drew.drew.drew)) hml).mono ?_; rintro e w2 ⟨v2, rfl, hr2, k2⟩; obtain ⟨bc, hm2, c0, c1⟩ : Below w1.heap.size w1 w2 ∧ IsM w2 v2 m ∧ w2.cell? ⟨w.heap.size, 0, none⟩ = some (.int .i64 x) ∧ w2.cell? ⟨w.heap.size, 1, none⟩ = some (.int .i64 y) := (by
        have q : Below w1.heap.size w1 w2 := (by first | exact bc.trans (k2.mono bc.size) | exact bc.drew.trans (k2.mono bc.size) | exact bc.drew.drew.trans (k2.mono bc.size) | exact bc.drew.drew.drew.trans (k2.mono bc.size))
        exact ⟨q, isM_of_row hr2, (q.cell (p := ⟨w.heap.size, 0, none⟩) hlW).trans p0, (q.cell (p := ⟨w.heap.size, 1, none⟩) hlW).trans p1⟩); clear k2 hr2)
    | (go_at_call 12; refine (toEnd_any x y _).mono ?_; rintro e w3 ⟨rfl, k3⟩; try (have hm2 := hm2.below (by first | exact k3 | exact (Below.refl _ _).drew.trans k3 | exact (Below.refl _ _).drew.drew.trans k3 | exact (Below.refl _ _).drew.drew.drew.trans k3)); obtain ⟨bc, c0, c1⟩ : Below w1.heap.size w1 w3 ∧ w3.cell? ⟨w.heap.size, 0, none⟩ = some (.int .i64 x) ∧ w3.cell? ⟨w.heap.size, 1, none⟩ = some (.int .i64 y) := (by
        have q : Below w1.heap.size w1 w3 := (by first | exact bc.trans (k3.mono bc.size) | exact bc.drew.trans (k3.mono bc.size) | exact bc.drew.drew.trans (k3.mono bc.size) | exact bc.drew.drew.drew.trans (k3.mono bc.size))
        exact ⟨q, (q.cell (p := ⟨w.heap.size, 0, none⟩) hlW).trans p0, (q.cell (p := ⟨w.heap.size, 1, none⟩) hlW).trans p1⟩); clear k3)
    | (go_at_call 11; refine (sout_any _ v2 m (by first | exact hm2 | exact hm2.below (Below.refl _ _).drew | exact hm2.below (Below.refl _ _).drew.drew | exact hm2.below (Below.refl _ _).drew.drew.drew) (by omega) (x, y)).mono ?_; rintro e w4 ⟨vS, rfl, hrS, k4⟩; rw [HO.out] at hrS; rw [HO.out]; obtain ⟨bc, c0, c1, hrS⟩ : Below w1.heap.size w1 w4 ∧ w4.cell? ⟨w.heap.size, 0, none⟩ = some (.int .i64 x) ∧ w4.cell? ⟨w.heap.size, 1, none⟩ = some (.int .i64 y) ∧ w4.ownsRow w1.heap.size 42 3 vS mo.1.length (cellsM mo.1) := (by
        have q : Below w1.heap.size w1 w4 := (by first | exact bc.trans (k4.mono bc.size) | exact bc.drew.trans (k4.mono bc.size) | exact bc.drew.drew.trans (k4.mono bc.size) | exact bc.drew.drew.drew.trans (k4.mono bc.size))
        exact ⟨q, (q.cell (p := ⟨w.heap.size, 0, none⟩) hlW).trans p0, (q.cell (p := ⟨w.heap.size, 1, none⟩) hlW).trans p1, ownsRow_base hrS bc.size⟩); clear k4))
  all_goals
    go_wp2_with fail
    refine (toS_any _ a len cap m (hA.below (by first | exact bc | exact bc.drew | exact bc.drew.drew | exact bc.drew.drew.drew)) hml).mono ?_
    rintro e w5 ⟨vX, rfl, hrX, k5⟩
    have b5 : Below w1.heap.size w1 w5 := (by first | exact bc.trans (k5.mono bc.size) | exact bc.drew.trans (k5.mono bc.size) | exact bc.drew.drew.trans (k5.mono bc.size) | exact bc.drew.drew.drew.trans (k5.mono bc.size))
    have sS : w4.heap.size ≤ w5.heap.size := k5.size
    have hrS5 := row_below hrS (by first | exact k5 | exact (Below.refl _ _).drew.trans k5 | exact (Below.refl _ _).drew.drew.trans k5 | exact (Below.refl _ _).drew.drew.drew.trans k5)
    have hrX := ownsRow_base (b' := w4.heap.size) hrX (Nat.le_refl _)
    have hapSX := row_apart' hrS hrX (Nat.le_refl _)
    have c0 := (b5.cell (p := ⟨w.heap.size, 0, none⟩) hlW).trans p0
    have c1 := (b5.cell (p := ⟨w.heap.size, 1, none⟩) hlW).trans p1
    have bS := bc.size
    clear k5 hrS bc hm2
    go_wp2_with fail
    refine (toEnd_any x y _).mono ?_
    rintro e w6 ⟨rfl, k6⟩
    have b6 := b5.trans (k6.mono b5.size)
    have hrS6 := row_below hrS5 k6
    have hrX6 := row_below hrX k6
    clear c0 c1 hrS5 hrX b5 k6
    go_wp2_with fail
    refine (out_any _ vX m (isM_of_row hrX6) (x, y)).mono ?_
    rintro e w7 ⟨vG, rfl, hrG, k7⟩
    rw [HO.out] at hrG
    rw [HO.out]
    have hapGX := row_apart hrX6 hrG (Nat.le_refl _)
    have hapSG := row_apart' hrS6 hrG (Nat.le_refl _)
    have b7 := b6.trans (k7.mono b6.size)
    have hb6 := b6.size
    have hrS7 := row_below hrS6 k7
    have hrX7 := row_below hrX6 k7
    clear hrS6 hrX6 b6 k7
    go_wp2_with fail
    refine (eqM_true _ mo.1 (by omega) _ _ (isM_of_row hrG) (isM_of_row hrS7)).mono ?_
    rintro e w8 ⟨rfl, k8⟩
    have b8 := b7.trans (k8.mono b7.size)
    have hrS8 := row_below hrS7 k8
    have hrX8 := row_below hrX7 k8
    have hrG8 := row_below hrG k8
    clear hrS7 hrX7 hrG b7 k8
    go_wp2_with fail
    refine (toS_any _ a len cap m (hA.below b8) hml).mono ?_
    rintro e w9 ⟨vY, rfl, hrY, k9⟩
    have b9 := b8.trans (k9.mono b8.size)
    have hrS9 := row_below hrS8 k9
    have hrX9 := row_below hrX8 k9
    have hrG9 := row_below hrG8 k9
    clear hrS8 hrX8 hrG8 b8 k9
    go_wp2_with fail
    refine (eqM_true _ m hml _ _ (isM_of_row hrX9) (isM_of_row hrY)).mono ?_
    rintro e w10 ⟨rfl, k10⟩
    have b10 := b9.trans (k10.mono b9.size)
    have hrS10 := row_below hrS9 k10
    have hrX10 := row_below hrX9 k10
    have hrG10 := row_below hrG9 k10
    clear hrS9 hrX9 hrG9 b9 k10 hrY
    go_wp2_with fail
    refine (mark_any _ _ _ vX m.length _ hrX10 hml).mono ?_
    rintro e w11 ⟨rfl, g11, _⟩
    have b11 := b10.trans (row_grown hrX10 g11 b10.size (by omega))
    have hrS11 := hrS10.kept g11 hapSX
    have hrG11 := hrG10.kept g11 hapGX
    clear hrS10 hrX10 hrG10 b10 g11
    go_wp2_with fail
    refine (eqM_true _ mo.1 (by omega) _ _ (isM_of_row hrG11) (isM_of_row hrS11)).mono ?_
    rintro e w12 ⟨rfl, k12⟩
    have b12 := b11.trans (k12.mono b11.size)
    have hrS12 := row_below hrS11 k12
    have hrG12 := row_below hrG11 k12
    clear hrS11 hrG11 b11 k12
    go_wp2_with fail
    refine (mark_any _ _ _ vG mo.1.length _ hrG12 (by omega)).mono ?_
    rintro e w13 ⟨rfl, g13, hMG⟩
    have b13 := b12.trans (row_grown hrG12 g13 b12.size (by omega))
    have hrS13 := hrS12.kept g13 hapSG
    clear hrS12 hrG12 b12 g13
    go_wp2_with fail
    refine (held_any _ vG mo.1.length hMG (by omega)).mono ?_
    rintro e w14 ⟨rfl, rfl⟩
    have bc := b13
    have kc : Below w14.heap.size w14 w14 := Below.refl _ _
    have c0 := (bc.cell (p := ⟨w.heap.size, 0, none⟩) hlW).trans p0
    have c1 := (bc.cell (p := ⟨w.heap.size, 1, none⟩) hlW).trans p1
    clear b13
    go_wp2_with fail
    go_region_with (first
        | (go_at_call 8; refine (toS_any _ a len cap m (hA.below (by first | exact bc | exact bc.drew | exact bc.drew.drew | exact bc.drew.drew.drew)) hml).mono ?_; rintro e wp ⟨vp, rfl, hrp, kp⟩; obtain ⟨bc, hmp, c0, c1⟩ : Below w1.heap.size w1 wp ∧ IsM wp vp m ∧ wp.cell? ⟨w.heap.size, 0, none⟩ = some (.int .i64 x) ∧ wp.cell? ⟨w.heap.size, 1, none⟩ = some (.int .i64 y) := (by
            have q : Below w1.heap.size w1 wp := (by first | exact bc.trans (kp.mono bc.size) | exact bc.drew.trans (kp.mono bc.size) | exact bc.drew.drew.trans (kp.mono bc.size) | exact bc.drew.drew.drew.trans (kp.mono bc.size))
            exact ⟨q, isM_of_row hrp, (q.cell (p := ⟨w.heap.size, 0, none⟩) hlW).trans p0, (q.cell (p := ⟨w.heap.size, 1, none⟩) hlW).trans p1⟩); have kc := (show Below w14.heap.size w14 wp from (by first | exact kc.trans (kp.mono kc.size) | exact kc.drew.trans (kp.mono kc.size) | exact kc.drew.drew.trans (kp.mono kc.size) | exact kc.drew.drew.drew.trans (kp.mono kc.size))); clear kp hrp)
        | (go_at_call 12; refine (toEnd_any x y _).mono ?_; rintro e wq ⟨rfl, kq⟩; try (have hmp := hmp.below (by first | exact kq | exact (Below.refl _ _).drew.trans kq | exact (Below.refl _ _).drew.drew.trans kq | exact (Below.refl _ _).drew.drew.drew.trans kq)); obtain ⟨bc, c0, c1⟩ : Below w1.heap.size w1 wq ∧ wq.cell? ⟨w.heap.size, 0, none⟩ = some (.int .i64 x) ∧ wq.cell? ⟨w.heap.size, 1, none⟩ = some (.int .i64 y) := (by
            have q : Below w1.heap.size w1 wq := (by first | exact bc.trans (kq.mono bc.size) | exact bc.drew.trans (kq.mono bc.size) | exact bc.drew.drew.trans (kq.mono bc.size) | exact bc.drew.drew.drew.trans (kq.mono bc.size))
            exact ⟨q, (q.cell (p := ⟨w.heap.size, 0, none⟩) hlW).trans p0, (q.cell (p := ⟨w.heap.size, 1, none⟩) hlW).trans p1⟩); have kc := (show Below w14.heap.size w14 wq from (by first | exact kc.trans (kq.mono kc.size) | exact kc.drew.trans (kq.mono kc.size) | exact kc.drew.drew.trans (kq.mono kc.size) | exact kc.drew.drew.drew.trans (kq.mono kc.size))); clear kq)
        | (go_at_call 13; refine (out_any _ vp m (by first | exact hmp | exact hmp.below (Below.refl _ _).drew | exact hmp.below (Below.refl _ _).drew.drew | exact hmp.below (Below.refl _ _).drew.drew.drew) (x, y)).mono ?_; rintro e wr ⟨vH, rfl, hrH, kr⟩; rw [HO.out] at hrH; rw [HO.out]; obtain ⟨bc, c0, c1⟩ : Below w1.heap.size w1 wr ∧ wr.cell? ⟨w.heap.size, 0, none⟩ = some (.int .i64 x) ∧ wr.cell? ⟨w.heap.size, 1, none⟩ = some (.int .i64 y) := (by
            have q : Below w1.heap.size w1 wr := (by first | exact bc.trans (kr.mono bc.size) | exact bc.drew.trans (kr.mono bc.size) | exact bc.drew.drew.trans (kr.mono bc.size) | exact bc.drew.drew.drew.trans (kr.mono bc.size))
            exact ⟨q, (q.cell (p := ⟨w.heap.size, 0, none⟩) hlW).trans p0, (q.cell (p := ⟨w.heap.size, 1, none⟩) hlW).trans p1⟩); have kc := (show Below w14.heap.size w14 wr from (by first | exact kc.trans (kr.mono kc.size) | exact kc.drew.trans (kr.mono kc.size) | exact kc.drew.drew.trans (kr.mono kc.size) | exact kc.drew.drew.drew.trans (kr.mono kc.size))); clear kr))
    all_goals
      go_wp2_with fail
      refine (eqM_true _ mo.1 (by omega) _ _ (by first | exact isM_of_row hrH | exact (isM_of_row hrH).below (Below.refl _ _).drew | exact (isM_of_row hrH).below (Below.refl _ _).drew.drew | exact (isM_of_row hrH).below (Below.refl _ _).drew.drew.drew) (by first | exact isM_of_row (row_below hrS13 kc) | exact (isM_of_row (row_below hrS13 kc)).below (Below.refl _ _).drew | exact (isM_of_row (row_below hrS13 kc)).below (Below.refl _ _).drew.drew | exact (isM_of_row (row_below hrS13 kc)).below (Below.refl _ _).drew.drew.drew)).mono ?_
      rintro e w15 ⟨rfl, k15⟩
      have b15 : Below w1.heap.size w1 w15 := (by first | exact bc.trans (k15.mono bc.size) | exact bc.drew.trans (k15.mono bc.size) | exact bc.drew.drew.trans (k15.mono bc.size) | exact bc.drew.drew.drew.trans (k15.mono bc.size))
      have kc15 : Below w14.heap.size w14 w15 := (by first | exact kc.trans (k15.mono kc.size) | exact kc.drew.trans (k15.mono kc.size) | exact kc.drew.drew.trans (k15.mono kc.size) | exact kc.drew.drew.drew.trans (k15.mono kc.size))
      clear hrH hrS13 k15 kc bc c0 c1
      go_wp2_with fail
      refine (held_any _ vG mo.1.length (hMG.below kc15) (by omega)).mono ?_
      rintro e w16 ⟨rfl, rfl⟩
      go_wp2
      go_ret
      exact ⟨rfl, bW.trans (b15.mono (by omega))⟩
end Go.Proofs.Ytcoengedikcneay.XMapOut

/- The walk of a law on StreamPut: it answers true. -/
import Derived.Test.YtdggchcapjidjabGreatDoorIg
import Derived.Test.YtdggchcapjidjabGreatDoorPr
namespace Go.Proofs.YtdggchcapjidjabGreatDoor.LPutHeld
open Go.RowKit Go.Shelf Go.Proofs.YtdggchcapjidjabGreatDoor.Kit Go.Proofs.YtdggchcapjidjabGreatDoor.Mp Go.Proofs.YtdggchcapjidjabGreatDoor.Mm Go.Proofs.YtdggchcapjidjabGreatDoor.Tx Go.Proofs.YtdggchcapjidjabGreatDoor.Nm Go.Proofs.YtdggchcapjidjabGreatDoor.App Go.Proofs.YtdggchcapjidjabGreatDoor.St Go.Proofs.YtdggchcapjidjabGreatDoor.StP Go.Proofs.YtdggchcapjidjabGreatDoor.Ip
open Go.Proofs.YtdggchcapjidjabGreatDoor.Read (Errs)
set_option linter.unusedSimpArgs false
set_option linter.unusedVariables false

theorem held_k (l : List UInt8) : heldN (l ++ [107]) = 0 := by
  rw [heldN_snoc]
  have h := heldN_le l
  unfold stepN
  have e : (107 : UInt8).toNat = 107 := rfl
  rw [e]
  simp
/-- a letter behind: nothing is held -/
theorem put_k {o : Bool} {es : List (Int × Int)} {S : ByteArray} {ps : List (Int × ByteArray)} (hg : GoodE es) (hst : stB S ps = true) (h : S.size < 40) :
    ∃ es2 S2 ps2, putG o es S ps S.size ⟨#[107]⟩ = (es2, S2, ps2, true) ∧ GoodE es2 ∧ stB S2 ps2 = true ∧ S2.size = S.size + 1 ∧ backZ S2 ps2 ((txW ps2).size : Nat) = (S2.size : Nat) := by
  have ok1 : okB (⟨#[107]⟩ : ByteArray).data.toList = true := by decide
  have z1 : (⟨#[107]⟩ : ByteArray).size = 1 := rfl
  obtain ⟨es2, S2, ps2, e, hS2⟩ : ∃ es2 S2 ps2, putF o es S ps (S.size : Nat) ⟨#[107]⟩ = (es2, S2, ps2, true) ∧ S2.data.toList = S.data.toList ++ [107] :=
    ⟨_, _, _, putF_all o es S ps S.size ⟨#[107]⟩ 0 hst (Nat.le_refl _) (by omega) (by omega), by rw [mkB_list]; rfl⟩
  have g := putF_ok o S.size ⟨#[107]⟩ hg hst ok1
  have sz := putF_size e
  rw [e] at g
  obtain ⟨g1, g2, _⟩ := g
  simp only at g1 g2
  refine ⟨es2, S2, ps2, (putG_ok hst ok1).trans e, g1, g2, ?_, ?_⟩
  · have := sz.2.2.2; omega
  · have hh : heldN S2.data.toList = 0 := by rw [hS2]; exact held_k _
    have hs := sm_in g2
    rw [hh] at hs
    have ho := sm_out ps2
    unfold backZ
    rw [if_pos ⟨g2, by omega, by omega⟩, acr_full _ (out_pos (stB_small g2)) _ (by omega), hs]
    omega
set_option maxRecDepth 8000 in
set_option maxHeartbeats 4000000 in
theorem long (a0 : Option Addr) (len0 cap0 : Nat) (w : World) (h : (1048576 : Int) < (len0 : Int)) :
    Calls Tryz.prog 3 #[.slice a0 len0 cap0] w fun e w' => e = .returned (.bool true) ∧ Below w.heap.size w w' := by
  go_enter Tryz.func3, Tryz.ntmps3
  go_wp2
  go_ret
  exact ⟨rfl, Below.refl _ _⟩
set_option maxRecDepth 20000 in
set_option maxHeartbeats 16000000 in
theorem short (a0 : Option Addr) (len0 cap0 : Nat) (w : World) (z : Nat → Int) (hc : CodeIn w a0 len0 cap0 z) (h : (len0 : Int) ≤ 1048576) (herr : Errs w) :
    Calls Tryz.prog 3 #[.slice a0 len0 cap0] w fun e w' => e = .returned (.bool true) ∧ Below w.heap.size w w' := by
  go_enter Tryz.func3, Tryz.ntmps3
  go_wp2_with fail
  refine (drawStreamPut a0 len0 cap0 z _ hc).mono ?_
  rintro e w1 ⟨v, es, S, pv, ps, qi, T, o, rfl, hg, hM, hT, hSm, hq, hTs, k1⟩
  obtain ⟨q, rfl⟩ : ∃ q : Nat, qi = (q : Int) := ⟨qi.toNat, by omega⟩
  have hq40 : q ≤ 40 := by omega
  obtain ⟨va, vc, rfl⟩ := isM_slice hM
  obtain ⟨pa, pc, rfl, hT'⟩ := id hT
  clear hT' hq
  have hbM : (prs es).length ≤ 1048576 := by have := hg.len; rw [prs_len]; omega
  have hbT : ps.length ≤ 1048576 := by have := hSm.2.1; omega
  have hS41 : S.size ≤ 41 := hSm.1
  have hpp : ∀ p ∈ ps, p.2.size ≤ 1073741824 := fun p hp => by have := (hSm.2.2 p hp).2; omega
  have hTml : T.size ≤ maxLen := by unfold maxLen; omega
  have HPP := (show Hid (∀ p ∈ ps, p.2.size ≤ 1073741824) from hpp)
  clear hpp
  have hokm := okM_prs es hg
  obtain ⟨es1, S1, ps1, b, hG⟩ : ∃ es1 S1 ps1 b, putG o es S ps q T = (es1, S1, ps1, b) := ⟨_, _, _, _, rfl⟩
  have hgood := putG_good (o := o) (S := S) (ps := ps) (q := q) (T := T) hg
  rw [hG] at hgood
  obtain ⟨hg1, hst1⟩ := hgood
  simp only at hg1 hst1
  have hb1 : ps1.length ≤ 1048576 := by have := (stB_small hst1).1; omega
  have hb2 : (prs es1).length ≤ 1048576 := by have := hg1.len; rw [prs_len]; omega
  have HG := (show Hid (putG o es S ps q T = (es1, S1, ps1, b)) from hG)
  have HST1 := (show Hid (stB S1 ps1 = true) from hst1)
  clear hG hst1
  have kA : Below w1.heap.size w1 (w1.alloc (.cells #[.string S, .slice pa ps.length pc] 26)) := (Below.refl _ _).alloc (Nat.le_refl _) _
  have x0 : (w1.alloc (.cells #[.string S, .slice pa ps.length pc] 26)).cell? ⟨w1.heap.size, 0, none⟩ = some (.string S) := by simp
  have x1 : (w1.alloc (.cells #[.string S, .slice pa ps.length pc] 26)).cell? ⟨w1.heap.size, 1, none⟩ = some (.slice pa ps.length pc) := by simp
  have hx : w1.heap.size < (w1.alloc (.cells #[.string S, .slice pa ps.length pc] 26)).heap.size := by simp
  have HMX := (show Hid (IsM (w1.alloc (.cells #[.string S, .slice pa ps.length pc] 26)) (.slice va (prs es).length vc) (prs es)) from hM.below kA)
  have HTX := (show Hid (IsT (w1.alloc (.cells #[.string S, .slice pa ps.length pc] 26)) (.slice pa ps.length pc) ps) from hT.below kA)
  have HE := (show Hid (Errs (w1.alloc (.cells #[.string S, .slice pa ps.length pc] 26))) from (herr.below k1).below kA)
  have HB := (show Hid (Below w.heap.size w (w1.alloc (.cells #[.string S, .slice pa ps.length pc] 26))) from k1.trans (kA.mono k1.size))
  clear hM hT herr k1 kA
  go_wp2_with fail
  generalize (w1.alloc (.cells #[.string S, .slice pa ps.length pc] 26)) = u0 at *
  generalize w1.heap.size = X at *
  have hX : X < u0.heap.size := hx
  have cX0 := x0
  have cX1 := x1
  clear x0 x1 hx
  refine (sput_h _ _ es hg HMX.out S _ ps HTX.out hSm q hq40 T hTs o HG.out).mono ?_
  rintro e w21 ⟨ya, yc, yb, yd, rfl, hM', hT', kk1⟩
  have kA : Below u0.heap.size u0 (w21.alloc (.cells #[.string S1, .slice yb ps1.length yd] 26)) := kk1.alloc kk1.size _
  have x0 : (w21.alloc (.cells #[.string S1, .slice yb ps1.length yd] 26)).cell? ⟨w21.heap.size, 0, none⟩ = some (.string S1) := by simp
  have x1 : (w21.alloc (.cells #[.string S1, .slice yb ps1.length yd] 26)).cell? ⟨w21.heap.size, 1, none⟩ = some (.slice yb ps1.length yd) := by simp
  have hx : w21.heap.size < (w21.alloc (.cells #[.string S1, .slice yb ps1.length yd] 26)).heap.size := by simp
  have bz : Below w21.heap.size w21 (w21.alloc (.cells #[.string S1, .slice yb ps1.length yd] 26)) := (Below.refl _ _).alloc (Nat.le_refl _) _
  have HMY := (show Hid (IsM (w21.alloc (.cells #[.string S1, .slice yb ps1.length yd] 26)) (.slice ya (prs es1).length yc) (prs es1)) from hM'.below bz)
  have HTY := (show Hid (IsT (w21.alloc (.cells #[.string S1, .slice yb ps1.length yd] 26)) (.slice yb ps1.length yd) ps1) from hT'.below bz)
  clear hM' hT' bz kk1
  replace cX0 := (kA.cell (p := ⟨X, 0, none⟩) hX).trans cX0
  replace cX1 := (kA.cell (p := ⟨X, 1, none⟩) hX).trans cX1
  replace hX : X < (w21.alloc (.cells #[.string S1, .slice yb ps1.length yd] 26)).heap.size := Nat.lt_of_lt_of_le hX kA.size
  replace HMX := (show Hid (IsM (w21.alloc (.cells #[.string S1, .slice yb ps1.length yd] 26)) (.slice va (prs es).length vc) (prs es)) from HMX.out.below kA)
  replace HTX := (show Hid (IsT (w21.alloc (.cells #[.string S1, .slice yb ps1.length yd] 26)) (.slice pa ps.length pc) ps) from HTX.out.below kA)
  replace HE := (show Hid (Errs (w21.alloc (.cells #[.string S1, .slice yb ps1.length yd] 26))) from HE.out.below kA)
  replace HB := (show Hid (Below w.heap.size w (w21.alloc (.cells #[.string S1, .slice yb ps1.length yd] 26))) from HB.out.trans (kA.mono HB.out.size))
  clear kA
  go_wp2_with fail
  generalize (w21.alloc (.cells #[.string S1, .slice yb ps1.length yd] 26)) = u2 at *
  generalize w21.heap.size = Y at *
  have hY : Y < u2.heap.size := hx
  have cY0 := x0
  have cY1 := x1
  clear x0 x1 hx
  refine (iput_h _ _ es hg HMX.out S _ ps HTX.out q hq40 T o HE.out HG.out).mono ?_
  rintro e w23 ⟨za, zc, zb, zd, rfl, hM', hT', kk3⟩
  have kA : Below u2.heap.size u2 (w23.alloc (.cells #[.string S1, .slice zb ps1.length zd] 26)) := kk3.alloc kk3.size _
  have x0 : (w23.alloc (.cells #[.string S1, .slice zb ps1.length zd] 26)).cell? ⟨w23.heap.size, 0, none⟩ = some (.string S1) := by simp
  have x1 : (w23.alloc (.cells #[.string S1, .slice zb ps1.length zd] 26)).cell? ⟨w23.heap.size, 1, none⟩ = some (.slice zb ps1.length zd) := by simp
  have hx : w23.heap.size < (w23.alloc (.cells #[.string S1, .slice zb ps1.length zd] 26)).heap.size := by simp
  have bz : Below w23.heap.size w23 (w23.alloc (.cells #[.string S1, .slice zb ps1.length zd] 26)) := (Below.refl _ _).alloc (Nat.le_refl _) _
  have HMZ := (show Hid (IsM (w23.alloc (.cells #[.string S1, .slice zb ps1.length zd] 26)) (.slice za (prs es1).length zc) (prs es1)) from hM'.below bz)
  have HTZ := (show Hid (IsT (w23.alloc (.cells #[.string S1, .slice zb ps1.length zd] 26)) (.slice zb ps1.length zd) ps1) from hT'.below bz)
  clear hM' hT' bz kk3
  replace cX0 := (kA.cell (p := ⟨X, 0, none⟩) hX).trans cX0
  replace cX1 := (kA.cell (p := ⟨X, 1, none⟩) hX).trans cX1
  replace cY0 := (kA.cell (p := ⟨Y, 0, none⟩) hY).trans cY0
  replace cY1 := (kA.cell (p := ⟨Y, 1, none⟩) hY).trans cY1
  replace hX : X < (w23.alloc (.cells #[.string S1, .slice zb ps1.length zd] 26)).heap.size := Nat.lt_of_lt_of_le hX kA.size
  replace hY : Y < (w23.alloc (.cells #[.string S1, .slice zb ps1.length zd] 26)).heap.size := Nat.lt_of_lt_of_le hY kA.size
  replace HMX := (show Hid (IsM (w23.alloc (.cells #[.string S1, .slice zb ps1.length zd] 26)) (.slice va (prs es).length vc) (prs es)) from HMX.out.below kA)
  replace HTX := (show Hid (IsT (w23.alloc (.cells #[.string S1, .slice zb ps1.length zd] 26)) (.slice pa ps.length pc) ps) from HTX.out.below kA)
  replace HMY := (show Hid (IsM (w23.alloc (.cells #[.string S1, .slice zb ps1.length zd] 26)) (.slice ya (prs es1).length yc) (prs es1)) from HMY.out.below kA)
  replace HTY := (show Hid (IsT (w23.alloc (.cells #[.string S1, .slice zb ps1.length zd] 26)) (.slice yb ps1.length yd) ps1) from HTY.out.below kA)
  replace HE := (show Hid (Errs (w23.alloc (.cells #[.string S1, .slice zb ps1.length zd] 26))) from HE.out.below kA)
  replace HB := (show Hid (Below w.heap.size w (w23.alloc (.cells #[.string S1, .slice zb ps1.length zd] 26))) from HB.out.trans (kA.mono HB.out.size))
  clear kA
  go_wp2_with fail
  generalize (w23.alloc (.cells #[.string S1, .slice zb ps1.length zd] 26)) = u4 at *
  generalize w23.heap.size = Z at *
  have hZ : Z < u4.heap.size := hx
  have cZ0 := x0
  have cZ1 := x1
  clear x0 x1 hx
  refine (LzT.lzs_same _ S1 _ _ ps1 hb1 HTZ.out HTY.out).mono ?_
  rintro e v5 ⟨rfl, k55⟩
  replace cX0 := (k55.cell (p := ⟨X, 0, none⟩) hX).trans cX0
  replace cX1 := (k55.cell (p := ⟨X, 1, none⟩) hX).trans cX1
  replace cY0 := (k55.cell (p := ⟨Y, 0, none⟩) hY).trans cY0
  replace cY1 := (k55.cell (p := ⟨Y, 1, none⟩) hY).trans cY1
  replace cZ0 := (k55.cell (p := ⟨Z, 0, none⟩) hZ).trans cZ0
  replace cZ1 := (k55.cell (p := ⟨Z, 1, none⟩) hZ).trans cZ1
  replace hX : X < v5.heap.size := Nat.lt_of_lt_of_le hX k55.size
  replace hY : Y < v5.heap.size := Nat.lt_of_lt_of_le hY k55.size
  replace hZ : Z < v5.heap.size := Nat.lt_of_lt_of_le hZ k55.size
  replace HMX := (show Hid (IsM v5 (.slice va (prs es).length vc) (prs es)) from HMX.out.below k55)
  replace HTX := (show Hid (IsT v5 (.slice pa ps.length pc) ps) from HTX.out.below k55)
  replace HMY := (show Hid (IsM v5 (.slice ya (prs es1).length yc) (prs es1)) from HMY.out.below k55)
  replace HTY := (show Hid (IsT v5 (.slice yb ps1.length yd) ps1) from HTY.out.below k55)
  replace HMZ := (show Hid (IsM v5 (.slice za (prs es1).length zc) (prs es1)) from HMZ.out.below k55)
  replace HTZ := (show Hid (IsT v5 (.slice zb ps1.length zd) ps1) from HTZ.out.below k55)
  replace HE := (show Hid (Errs v5) from HE.out.below k55)
  replace HB := (show Hid (Below w.heap.size w v5) from HB.out.trans (k55.mono HB.out.size))
  clear k55
  go_wp2_with fail
  refine (LzM.lz_same _ (prs es1) hb2 _ _ HMZ.out HMY.out).mono ?_
  rintro e v6 ⟨rfl, k56⟩
  replace cX0 := (k56.cell (p := ⟨X, 0, none⟩) hX).trans cX0
  replace cX1 := (k56.cell (p := ⟨X, 1, none⟩) hX).trans cX1
  replace cY0 := (k56.cell (p := ⟨Y, 0, none⟩) hY).trans cY0
  replace cY1 := (k56.cell (p := ⟨Y, 1, none⟩) hY).trans cY1
  replace cZ0 := (k56.cell (p := ⟨Z, 0, none⟩) hZ).trans cZ0
  replace cZ1 := (k56.cell (p := ⟨Z, 1, none⟩) hZ).trans cZ1
  replace hX : X < v6.heap.size := Nat.lt_of_lt_of_le hX k56.size
  replace hY : Y < v6.heap.size := Nat.lt_of_lt_of_le hY k56.size
  replace hZ : Z < v6.heap.size := Nat.lt_of_lt_of_le hZ k56.size
  replace HMX := (show Hid (IsM v6 (.slice va (prs es).length vc) (prs es)) from HMX.out.below k56)
  replace HTX := (show Hid (IsT v6 (.slice pa ps.length pc) ps) from HTX.out.below k56)
  replace HMY := (show Hid (IsM v6 (.slice ya (prs es1).length yc) (prs es1)) from HMY.out.below k56)
  replace HTY := (show Hid (IsT v6 (.slice yb ps1.length yd) ps1) from HTY.out.below k56)
  replace HMZ := (show Hid (IsM v6 (.slice za (prs es1).length zc) (prs es1)) from HMZ.out.below k56)
  replace HTZ := (show Hid (IsT v6 (.slice zb ps1.length zd) ps1) from HTZ.out.below k56)
  replace HE := (show Hid (Errs v6) from HE.out.below k56)
  replace HB := (show Hid (Below w.heap.size w v6) from HB.out.trans (k56.mono HB.out.size))
  clear k56
  cases b
  · skip
    go_wp2_with fail
    refine (LzT.lzs_same _ S1 _ _ ps1 hb1 HTZ.out HTY.out).mono ?_
    rintro e v7 ⟨rfl, k57⟩
    replace cX0 := (k57.cell (p := ⟨X, 0, none⟩) hX).trans cX0
    replace cX1 := (k57.cell (p := ⟨X, 1, none⟩) hX).trans cX1
    replace cY0 := (k57.cell (p := ⟨Y, 0, none⟩) hY).trans cY0
    replace cY1 := (k57.cell (p := ⟨Y, 1, none⟩) hY).trans cY1
    replace cZ0 := (k57.cell (p := ⟨Z, 0, none⟩) hZ).trans cZ0
    replace cZ1 := (k57.cell (p := ⟨Z, 1, none⟩) hZ).trans cZ1
    replace hX : X < v7.heap.size := Nat.lt_of_lt_of_le hX k57.size
    replace hY : Y < v7.heap.size := Nat.lt_of_lt_of_le hY k57.size
    replace hZ : Z < v7.heap.size := Nat.lt_of_lt_of_le hZ k57.size
    replace HMX := (show Hid (IsM v7 (.slice va (prs es).length vc) (prs es)) from HMX.out.below k57)
    replace HTX := (show Hid (IsT v7 (.slice pa ps.length pc) ps) from HTX.out.below k57)
    replace HMY := (show Hid (IsM v7 (.slice ya (prs es1).length yc) (prs es1)) from HMY.out.below k57)
    replace HTY := (show Hid (IsT v7 (.slice yb ps1.length yd) ps1) from HTY.out.below k57)
    replace HMZ := (show Hid (IsM v7 (.slice za (prs es1).length zc) (prs es1)) from HMZ.out.below k57)
    replace HTZ := (show Hid (IsT v7 (.slice zb ps1.length zd) ps1) from HTZ.out.below k57)
    replace HE := (show Hid (Errs v7) from HE.out.below k57)
    replace HB := (show Hid (Below w.heap.size w v7) from HB.out.trans (k57.mono HB.out.size))
    clear k57
    go_wp2_with fail
    refine (LzM.lz_same _ (prs es1) hb2 _ _ HMZ.out HMY.out).mono ?_
    rintro e v8 ⟨rfl, k58⟩
    replace cX0 := (k58.cell (p := ⟨X, 0, none⟩) hX).trans cX0
    replace cX1 := (k58.cell (p := ⟨X, 1, none⟩) hX).trans cX1
    replace cY0 := (k58.cell (p := ⟨Y, 0, none⟩) hY).trans cY0
    replace cY1 := (k58.cell (p := ⟨Y, 1, none⟩) hY).trans cY1
    replace cZ0 := (k58.cell (p := ⟨Z, 0, none⟩) hZ).trans cZ0
    replace cZ1 := (k58.cell (p := ⟨Z, 1, none⟩) hZ).trans cZ1
    replace hX : X < v8.heap.size := Nat.lt_of_lt_of_le hX k58.size
    replace hY : Y < v8.heap.size := Nat.lt_of_lt_of_le hY k58.size
    replace hZ : Z < v8.heap.size := Nat.lt_of_lt_of_le hZ k58.size
    replace HMX := (show Hid (IsM v8 (.slice va (prs es).length vc) (prs es)) from HMX.out.below k58)
    replace HTX := (show Hid (IsT v8 (.slice pa ps.length pc) ps) from HTX.out.below k58)
    replace HMY := (show Hid (IsM v8 (.slice ya (prs es1).length yc) (prs es1)) from HMY.out.below k58)
    replace HTY := (show Hid (IsT v8 (.slice yb ps1.length yd) ps1) from HTY.out.below k58)
    replace HMZ := (show Hid (IsM v8 (.slice za (prs es1).length zc) (prs es1)) from HMZ.out.below k58)
    replace HTZ := (show Hid (IsT v8 (.slice zb ps1.length zd) ps1) from HTZ.out.below k58)
    replace HE := (show Hid (Errs v8) from HE.out.below k58)
    replace HB := (show Hid (Below w.heap.size w v8) from HB.out.trans (k58.mono HB.out.size))
    clear k58
    go_wp2
    go_ret
    exact ⟨rfl, HB.out⟩
  · skip
    have hboth : stB S ps = true ∧ okB T.data.toList = true := by
      by_cases h9 : stB S ps = true ∧ okB T.data.toList = true
      · exact h9
      · have := HG.out
        rw [putG_no h9] at this
        simp at this
    obtain ⟨hst, hTok⟩ := hboth
    have hF : putF o es S ps (q : Nat) T = (es1, S1, ps1, true) := (putG_ok hst hTok).symm.trans HG.out
    obtain ⟨sz1, sz2, sz3, sz4⟩ := putF_size hF
    have hS1 := (ok_parts _ (stB_parts.1 HST1.out).1).1
    rw [lenL] at hS1
    clear sz1 sz2 sz3 sz4 hF hst hTok
    by_cases h40 : (S1.size : Int) = 40
    · skip
      go_wp2_with fail
      refine (LzT.lzs_same _ S1 _ _ ps1 hb1 HTZ.out HTY.out).mono ?_
      rintro e v9 ⟨rfl, k59⟩
      replace cX0 := (k59.cell (p := ⟨X, 0, none⟩) hX).trans cX0
      replace cX1 := (k59.cell (p := ⟨X, 1, none⟩) hX).trans cX1
      replace cY0 := (k59.cell (p := ⟨Y, 0, none⟩) hY).trans cY0
      replace cY1 := (k59.cell (p := ⟨Y, 1, none⟩) hY).trans cY1
      replace cZ0 := (k59.cell (p := ⟨Z, 0, none⟩) hZ).trans cZ0
      replace cZ1 := (k59.cell (p := ⟨Z, 1, none⟩) hZ).trans cZ1
      replace hX : X < v9.heap.size := Nat.lt_of_lt_of_le hX k59.size
      replace hY : Y < v9.heap.size := Nat.lt_of_lt_of_le hY k59.size
      replace hZ : Z < v9.heap.size := Nat.lt_of_lt_of_le hZ k59.size
      replace HMX := (show Hid (IsM v9 (.slice va (prs es).length vc) (prs es)) from HMX.out.below k59)
      replace HTX := (show Hid (IsT v9 (.slice pa ps.length pc) ps) from HTX.out.below k59)
      replace HMY := (show Hid (IsM v9 (.slice ya (prs es1).length yc) (prs es1)) from HMY.out.below k59)
      replace HTY := (show Hid (IsT v9 (.slice yb ps1.length yd) ps1) from HTY.out.below k59)
      replace HMZ := (show Hid (IsM v9 (.slice za (prs es1).length zc) (prs es1)) from HMZ.out.below k59)
      replace HTZ := (show Hid (IsT v9 (.slice zb ps1.length zd) ps1) from HTZ.out.below k59)
      replace HE := (show Hid (Errs v9) from HE.out.below k59)
      replace HB := (show Hid (Below w.heap.size w v9) from HB.out.trans (k59.mono HB.out.size))
      clear k59
      go_wp2_with fail
      refine (LzM.lz_same _ (prs es1) hb2 _ _ HMZ.out HMY.out).mono ?_
      rintro e v10 ⟨rfl, k60⟩
      replace cX0 := (k60.cell (p := ⟨X, 0, none⟩) hX).trans cX0
      replace cX1 := (k60.cell (p := ⟨X, 1, none⟩) hX).trans cX1
      replace cY0 := (k60.cell (p := ⟨Y, 0, none⟩) hY).trans cY0
      replace cY1 := (k60.cell (p := ⟨Y, 1, none⟩) hY).trans cY1
      replace cZ0 := (k60.cell (p := ⟨Z, 0, none⟩) hZ).trans cZ0
      replace cZ1 := (k60.cell (p := ⟨Z, 1, none⟩) hZ).trans cZ1
      replace hX : X < v10.heap.size := Nat.lt_of_lt_of_le hX k60.size
      replace hY : Y < v10.heap.size := Nat.lt_of_lt_of_le hY k60.size
      replace hZ : Z < v10.heap.size := Nat.lt_of_lt_of_le hZ k60.size
      replace HMX := (show Hid (IsM v10 (.slice va (prs es).length vc) (prs es)) from HMX.out.below k60)
      replace HTX := (show Hid (IsT v10 (.slice pa ps.length pc) ps) from HTX.out.below k60)
      replace HMY := (show Hid (IsM v10 (.slice ya (prs es1).length yc) (prs es1)) from HMY.out.below k60)
      replace HTY := (show Hid (IsT v10 (.slice yb ps1.length yd) ps1) from HTY.out.below k60)
      replace HMZ := (show Hid (IsM v10 (.slice za (prs es1).length zc) (prs es1)) from HMZ.out.below k60)
      replace HTZ := (show Hid (IsT v10 (.slice zb ps1.length zd) ps1) from HTZ.out.below k60)
      replace HE := (show Hid (Errs v10) from HE.out.below k60)
      replace HB := (show Hid (Below w.heap.size w v10) from HB.out.trans (k60.mono HB.out.size))
      clear k60
      go_wp2
      go_ret
      exact ⟨rfl, HB.out⟩
    · skip
      obtain ⟨es2, S2, ps2, hG2, hg2, hst2, hs2, hbk⟩ := put_k (o := o) hg1 HST1.out (show S1.size < 40 by omega)
      obtain ⟨TX, hTX⟩ : ∃ TX, outB S2 ps2 = TX := ⟨_, rfl⟩
      have hTX' : txW ps2 = TX := by rw [← outB_ok hst2]; exact hTX
      rw [hTX'] at hbk
      have HTX2 := (show Hid (outB S2 ps2 = TX) from hTX)
      have HBK := (show Hid (backZ S2 ps2 (TX.size : Nat) = (S2.size : Nat)) from hbk)
      have hsz2 : (S2.size : Int) = (S1.size : Int) + 1 := by omega
      have HSZ2 := (show Hid ((S2.size : Int) = (S1.size : Int) + 1) from hsz2)
      have hw1 : IntKind.i64.wrap ((S1.size : Int) + 1) = (S1.size : Int) + 1 := by simp [IntKind.wrap, IntKind.bits, IntKind.signed]; omega
      have h40' : ¬ S1.size = 40 := by omega
      clear hst2 hbk hTX hTX' hs2 hsz2
      go_wp2_with fail
      refine (iput_h _ _ es1 hg1 HMZ.out S1 _ ps1 HTZ.out S1.size hS1 ⟨#[107]⟩ o HE.out hG2).mono ?_
      rintro e w31 ⟨ta, tc, tb, td, rfl, hM', hT', kk11⟩
      have kA : Below v6.heap.size v6 (w31.alloc (.cells #[.string S2, .slice tb ps2.length td] 26)) := kk11.alloc kk11.size _
      have x0 : (w31.alloc (.cells #[.string S2, .slice tb ps2.length td] 26)).cell? ⟨w31.heap.size, 0, none⟩ = some (.string S2) := by simp
      have x1 : (w31.alloc (.cells #[.string S2, .slice tb ps2.length td] 26)).cell? ⟨w31.heap.size, 1, none⟩ = some (.slice tb ps2.length td) := by simp
      have hx : w31.heap.size < (w31.alloc (.cells #[.string S2, .slice tb ps2.length td] 26)).heap.size := by simp
      have bz : Below w31.heap.size w31 (w31.alloc (.cells #[.string S2, .slice tb ps2.length td] 26)) := (Below.refl _ _).alloc (Nat.le_refl _) _
      have HMU := (show Hid (IsM (w31.alloc (.cells #[.string S2, .slice tb ps2.length td] 26)) (.slice ta (prs es2).length tc) (prs es2)) from hM'.below bz)
      have HTU := (show Hid (IsT (w31.alloc (.cells #[.string S2, .slice tb ps2.length td] 26)) (.slice tb ps2.length td) ps2) from hT'.below bz)
      clear hM' hT' bz kk11
      replace cX0 := (kA.cell (p := ⟨X, 0, none⟩) hX).trans cX0
      replace cX1 := (kA.cell (p := ⟨X, 1, none⟩) hX).trans cX1
      replace cY0 := (kA.cell (p := ⟨Y, 0, none⟩) hY).trans cY0
      replace cY1 := (kA.cell (p := ⟨Y, 1, none⟩) hY).trans cY1
      replace cZ0 := (kA.cell (p := ⟨Z, 0, none⟩) hZ).trans cZ0
      replace cZ1 := (kA.cell (p := ⟨Z, 1, none⟩) hZ).trans cZ1
      replace hX : X < (w31.alloc (.cells #[.string S2, .slice tb ps2.length td] 26)).heap.size := Nat.lt_of_lt_of_le hX kA.size
      replace hY : Y < (w31.alloc (.cells #[.string S2, .slice tb ps2.length td] 26)).heap.size := Nat.lt_of_lt_of_le hY kA.size
      replace hZ : Z < (w31.alloc (.cells #[.string S2, .slice tb ps2.length td] 26)).heap.size := Nat.lt_of_lt_of_le hZ kA.size
      replace HMX := (show Hid (IsM (w31.alloc (.cells #[.string S2, .slice tb ps2.length td] 26)) (.slice va (prs es).length vc) (prs es)) from HMX.out.below kA)
      replace HTX := (show Hid (IsT (w31.alloc (.cells #[.string S2, .slice tb ps2.length td] 26)) (.slice pa ps.length pc) ps) from HTX.out.below kA)
      replace HMY := (show Hid (IsM (w31.alloc (.cells #[.string S2, .slice tb ps2.length td] 26)) (.slice ya (prs es1).length yc) (prs es1)) from HMY.out.below kA)
      replace HTY := (show Hid (IsT (w31.alloc (.cells #[.string S2, .slice tb ps2.length td] 26)) (.slice yb ps1.length yd) ps1) from HTY.out.below kA)
      replace HMZ := (show Hid (IsM (w31.alloc (.cells #[.string S2, .slice tb ps2.length td] 26)) (.slice za (prs es1).length zc) (prs es1)) from HMZ.out.below kA)
      replace HTZ := (show Hid (IsT (w31.alloc (.cells #[.string S2, .slice tb ps2.length td] 26)) (.slice zb ps1.length zd) ps1) from HTZ.out.below kA)
      replace HE := (show Hid (Errs (w31.alloc (.cells #[.string S2, .slice tb ps2.length td] 26))) from HE.out.below kA)
      replace HB := (show Hid (Below w.heap.size w (w31.alloc (.cells #[.string S2, .slice tb ps2.length td] 26))) from HB.out.trans (kA.mono HB.out.size))
      clear kA
      go_wp2_with fail
      generalize (w31.alloc (.cells #[.string S2, .slice tb ps2.length td] 26)) = u12 at *
      generalize w31.heap.size = U at *
      have hU : U < u12.heap.size := hx
      have cU0 := x0
      have cU1 := x1
      clear x0 x1 hx
      have hmix : Tryz.prog.follows .mixedOrders = true := by kernel_rfl
      obtain ⟨VV, hVV⟩ : ∃ VV : Nat → Value, VV = fun j => [(.bool true : Value), .bool true, .agg #[.string S2, .slice tb ps2.length td], .agg #[.string S2, .slice tb ps2.length td], .string TX, .int .i64 (TX.size : Nat), .int .i64 (S2.size : Nat), .pointer (some ⟨U, 0, none⟩), .string S2, .int .i64 (S2.size : Nat), .bool true, .bool true, .bool true, .pointer (some ⟨U, 0, none⟩), .string S2, .int .i64 (S2.size : Nat), .pointer (some ⟨Z, 0, none⟩), .string S1, .int .i64 (S1.size : Nat), .int .i64 ((S1.size : Int) + 1), .bool true, .bool true, .bool true].getD j undef := ⟨_, rfl⟩
      have V0 : VV 0 = .bool true := by rw [hVV]; rfl
      have V1 : VV 1 = .bool true := by rw [hVV]; rfl
      have V2 : VV 2 = .agg #[.string S2, .slice tb ps2.length td] := by rw [hVV]; rfl
      have V3 : VV 3 = .agg #[.string S2, .slice tb ps2.length td] := by rw [hVV]; rfl
      have V4 : VV 4 = .string TX := by rw [hVV]; rfl
      have V5 : VV 5 = .int .i64 (TX.size : Nat) := by rw [hVV]; rfl
      have V6 : VV 6 = .int .i64 (S2.size : Nat) := by rw [hVV]; rfl
      have V7 : VV 7 = .pointer (some ⟨U, 0, none⟩) := by rw [hVV]; rfl
      have V8 : VV 8 = .string S2 := by rw [hVV]; rfl
      have V9 : VV 9 = .int .i64 (S2.size : Nat) := by rw [hVV]; rfl
      have V10 : VV 10 = .bool true := by rw [hVV]; rfl
      have V11 : VV 11 = .bool true := by rw [hVV]; rfl
      have V12 : VV 12 = .bool true := by rw [hVV]; rfl
      have V13 : VV 13 = .pointer (some ⟨U, 0, none⟩) := by rw [hVV]; rfl
      have V14 : VV 14 = .string S2 := by rw [hVV]; rfl
      have V15 : VV 15 = .int .i64 (S2.size : Nat) := by rw [hVV]; rfl
      have V16 : VV 16 = .pointer (some ⟨Z, 0, none⟩) := by rw [hVV]; rfl
      have V17 : VV 17 = .string S1 := by rw [hVV]; rfl
      have V18 : VV 18 = .int .i64 (S1.size : Nat) := by rw [hVV]; rfl
      have V19 : VV 19 = .int .i64 ((S1.size : Int) + 1) := by rw [hVV]; rfl
      have V20 : VV 20 = .bool true := by rw [hVV]; rfl
      have V21 : VV 21 = .bool true := by rw [hVV]; rfl
      have V22 : VV 22 = .bool true := by rw [hVV]; rfl
      clear hVV
      go_upto_region 9 with fail
      refine wp_region_any hmix ?_
      refine Ri.any_inv (I := fun l a' w' => l.size = 23 ∧ ∃ t : Nat → Value, a' = { tmps := #[(Value.slice a0 len0 cap0 : Value), undef, t 22, Value.slice va (prs es).length vc, Value.pointer (some { block := X, off := 0 }), Value.int IntKind.i64 ↑q, Value.string T, Value.bool o, Value.slice ya (prs es1).length yc, Value.pointer (some { block := Y, off := 0 }), Value.bool true, Value.slice za (prs es1).length zc, Value.pointer (some { block := Z, off := 0 }), Value.bool true, Value.slice ta (prs es2).length tc, Value.pointer (some { block := U, off := 0 }), Value.bool true, Value.slice a0 len0 cap0, Value.int IntKind.i64 ↑len0, Value.bool (decide ((1048576 : Int) < (len0 : Int))), Value.tuple #[Value.slice va (prs es).length vc, Value.agg #[Value.string S, Value.slice pa ps.length pc], Value.int IntKind.i64 ↑q, Value.string T, Value.bool o], Value.slice a0 len0 cap0, Value.tuple #[Value.slice va (prs es).length vc, Value.agg #[Value.string S, Value.slice pa ps.length pc], Value.int IntKind.i64 ↑q, Value.string T, Value.bool o], Value.slice va (prs es).length vc, Value.agg #[Value.string S, Value.slice pa ps.length pc], Value.int IntKind.i64 ↑q, Value.string T, Value.bool o, Value.tuple #[Value.slice ya (prs es1).length yc, Value.agg #[Value.string S1, Value.slice yb ps1.length yd], Value.bool true], Value.slice va (prs es).length vc, Value.agg #[Value.string S, Value.slice pa ps.length pc], Value.int IntKind.i64 ↑q, Value.string T, Value.bool o, Value.tuple #[Value.slice ya (prs es1).length yc, Value.agg #[Value.string S1, Value.slice yb ps1.length yd], Value.bool true], Value.slice ya (prs es1).length yc, Value.agg #[Value.string S1, Value.slice yb ps1.length yd], Value.bool true, Value.tuple #[Value.slice za (prs es1).length zc, Value.agg #[Value.string S1, Value.slice zb ps1.length zd], Value.bool true], Value.slice va (prs es).length vc, Value.agg #[Value.string S, Value.slice pa ps.length pc], Value.int IntKind.i64 ↑q, Value.string T, Value.bool o, Value.tuple #[Value.slice za (prs es1).length zc, Value.agg #[Value.string S1, Value.slice zb ps1.length zd], Value.bool true], Value.slice za (prs es1).length zc, Value.agg #[Value.string S1, Value.slice zb ps1.length zd], Value.bool true, Value.bool true, Value.bool true, Value.bool false, Value.bool false, Value.agg #[Value.string S1, Value.slice zb ps1.length zd], Value.agg #[Value.string S1, Value.slice yb ps1.length yd], Value.bool true, Value.bool false, Value.bool false, Value.bool false, Value.slice za (prs es1).length zc, Value.slice ya (prs es1).length yc, Value.bool true, Value.bool false, Value.bool false, Value.bool false, Value.bool true, Value.bool false, Value.bool false, Value.bool false, Value.pointer (some { block := Z, off := 0 }), Value.string S1, Value.int IntKind.i64 ↑S1.size, Value.bool false, Value.bool false, undef, undef, undef, undef, undef, undef, undef, undef, undef, undef, undef, undef, undef, Value.tuple #[Value.slice ta (prs es2).length tc, Value.agg #[Value.string S2, Value.slice tb ps2.length td], Value.bool true], Value.slice za (prs es1).length zc, Value.agg #[Value.string S1, Value.slice zb ps1.length zd], Value.pointer (some { block := Z, off := 0 }), Value.string S1, Value.int IntKind.i64 ↑S1.size, Value.bool o, Value.tuple #[Value.slice ta (prs es2).length tc, Value.agg #[Value.string S2, Value.slice tb ps2.length td], Value.bool true], Value.slice ta (prs es2).length tc, Value.agg #[Value.string S2, Value.slice tb ps2.length td], Value.bool true, t 0, t 1, t 2, t 3, t 4, t 5, t 6, t 7, t 8, t 9, t 10, t 11, t 12, t 13, t 14, t 15, t 16, t 17, t 18, t 19, t 20, t 21], defers := [] } ∧ Rg.Vals l VV t ∧ Hid (Below u12.heap.size u12 w')) ?sz ?low ?step ?fin _ _ _ _ ?start (Ri.closed_none _ _ _) (Rg.left_all _)
      case sz => exact fun l a' w' h => h.1
      case start => exact ⟨by simp, fun j => ([undef, undef, undef, undef, undef, undef, undef, undef, undef, undef, undef, undef, undef, undef, undef, undef, undef, undef, undef, undef, undef, undef, Value.bool false] : List Value).getD j undef, rfl, Rg.vals_none _ _ _, (Below.refl _ _).drew⟩
      case low => exact Ri.low_of (by kernel_rfl)
      case step =>
        rintro l a' w' i ⟨hsz, t, rfl, hv, HW⟩ hcl hi
        obtain ⟨h0, op, ho, hd⟩ := mem_ready.1 hi
        have hin : i < 23 := (Array.getElem?_eq_some_iff.1 ho).1
        clear h0 hi hcl
        have hc : i = 0 ∨ i = 1 ∨ i = 2 ∨ i = 3 ∨ i = 4 ∨ i = 5 ∨ i = 6 ∨ i = 7 ∨ i = 8 ∨ i = 9 ∨ i = 10 ∨ i = 11 ∨ i = 12 ∨ i = 13 ∨ i = 14 ∨ i = 15 ∨ i = 16 ∨ i = 17 ∨ i = 18 ∨ i = 19 ∨ i = 20 ∨ i = 21 ∨ i = 22 := by omega
        rcases hc with rfl | rfl | rfl | rfl | rfl | rfl | rfl | rfl | rfl | rfl | rfl | rfl | rfl | rfl | rfl | rfl | rfl | rfl | rfl | rfl | rfl | rfl | rfl
        · obtain rfl : _ = op := Option.some.inj (show some _ = some op from ho)
          have HV := (show Hid (Rg.Vals l VV t) from hv)
          clear hv hd ho
          refine wpOp_step rfl fun K9 hK9 => ?_
          have HKK := (show Hid _ from hK9)
          clear hK9
          go_simp
          exact HKK.out _ _ ⟨by simp [hsz], fun j => if j = 0 then .bool true else t j, by simp, HV.out.put 0 _ V0.symm, HW⟩
        · obtain rfl : _ = op := Option.some.inj (show some _ = some op from ho)
          have e0 : t 0 = .bool true := (hv 0 (hd { on := 0, ground := .data } (by simp) rfl)).trans V0
          have HV := (show Hid (Rg.Vals l VV t) from hv)
          clear hv hd ho
          refine wpOp_step rfl fun K9 hK9 => ?_
          have HKK := (show Hid _ from hK9)
          clear hK9
          go_simp
          exact HKK.out _ _ ⟨by simp [hsz], fun j => if j = 1 then .bool true else t j, by simp [e0], HV.out.put 1 _ V1.symm, HW⟩
        · obtain rfl : _ = op := Option.some.inj (show some _ = some op from ho)
          have e1 : t 1 = .bool true := (hv 1 (hd { on := 1, ground := .guard } (by simp) rfl)).trans V1
          have ycU0 : w'.cell? ⟨U, 0, none⟩ = some (.string S2) := (HW.out.cell (p := ⟨U, 0, none⟩) hU).trans cU0
          have ycU1 : w'.cell? ⟨U, 1, none⟩ = some (.slice tb ps2.length td) := (HW.out.cell (p := ⟨U, 1, none⟩) hU).trans cU1
          have ycZ0 : w'.cell? ⟨Z, 0, none⟩ = some (.string S1) := (HW.out.cell (p := ⟨Z, 0, none⟩) hZ).trans cZ0
          have HV := (show Hid (Rg.Vals l VV t) from hv)
          clear hv hd ho
          refine wpOp_step rfl fun K9 hK9 => ?_
          have HKK := (show Hid _ from hK9)
          clear hK9
          go_simp
          exact HKK.out _ _ ⟨by simp [hsz], fun j => if j = 2 then .agg #[.string S2, .slice tb ps2.length td] else t j, by simp [e1], HV.out.put 2 _ V2.symm, HW⟩
        · obtain rfl : _ = op := Option.some.inj (show some _ = some op from ho)
          have e1 : t 1 = .bool true := (hv 1 (hd { on := 1, ground := .guard } (by simp) rfl)).trans V1
          have ycU0 : w'.cell? ⟨U, 0, none⟩ = some (.string S2) := (HW.out.cell (p := ⟨U, 0, none⟩) hU).trans cU0
          have ycU1 : w'.cell? ⟨U, 1, none⟩ = some (.slice tb ps2.length td) := (HW.out.cell (p := ⟨U, 1, none⟩) hU).trans cU1
          have ycZ0 : w'.cell? ⟨Z, 0, none⟩ = some (.string S1) := (HW.out.cell (p := ⟨Z, 0, none⟩) hZ).trans cZ0
          have HV := (show Hid (Rg.Vals l VV t) from hv)
          clear hv hd ho
          refine wpOp_step rfl fun K9 hK9 => ?_
          have HKK := (show Hid _ from hK9)
          clear hK9
          go_simp
          exact HKK.out _ _ ⟨by simp [hsz], fun j => if j = 3 then .agg #[.string S2, .slice tb ps2.length td] else t j, by simp [e1], HV.out.put 3 _ V3.symm, HW⟩
        · obtain rfl : _ = op := Option.some.inj (show some _ = some op from ho)
          have e3 : t 3 = .agg #[.string S2, .slice tb ps2.length td] := (hv 3 (hd { on := 3, ground := .data } (by simp) rfl)).trans V3
          have e1 : t 1 = .bool true := (hv 1 (hd { on := 1, ground := .guard } (by simp) rfl)).trans V1
          have HV := (show Hid (Rg.Vals l VV t) from hv)
          clear hv hd ho
          refine wpOp_step rfl fun K9 hK9 => ?_
          have HKK := (show Hid _ from hK9)
          clear hK9
          go_simp
          refine (St.out_stream S2 _ ps2 _ (HTU.out.below HW.out) (HE.out.below HW.out)).mono ?_
          rintro e w9 ⟨rfl, k9⟩
          rw [HTX2.out]
          refine HKK.out _ _ ⟨by simp [hsz], fun j => if j = 4 then .string TX else t j, by simp [e3, e1], HV.out.put 4 _ V4.symm, HW.out.trans (k9.mono HW.out.size)⟩
        · obtain rfl : _ = op := Option.some.inj (show some _ = some op from ho)
          have e4 : t 4 = .string TX := (hv 4 (hd { on := 4, ground := .data } (by simp) rfl)).trans V4
          have e1 : t 1 = .bool true := (hv 1 (hd { on := 1, ground := .guard } (by simp) rfl)).trans V1
          have HV := (show Hid (Rg.Vals l VV t) from hv)
          clear hv hd ho
          refine wpOp_step rfl fun K9 hK9 => ?_
          have HKK := (show Hid _ from hK9)
          clear hK9
          go_simp
          exact HKK.out _ _ ⟨by simp [hsz], fun j => if j = 5 then .int .i64 (TX.size : Nat) else t j, by simp [e4, e1], HV.out.put 5 _ V5.symm, HW⟩
        · obtain rfl : _ = op := Option.some.inj (show some _ = some op from ho)
          have e2 : t 2 = .agg #[.string S2, .slice tb ps2.length td] := (hv 2 (hd { on := 2, ground := .data } (by simp) rfl)).trans V2
          have e5 : t 5 = .int .i64 (TX.size : Nat) := (hv 5 (hd { on := 5, ground := .data } (by simp) rfl)).trans V5
          have e1 : t 1 = .bool true := (hv 1 (hd { on := 1, ground := .guard } (by simp) rfl)).trans V1
          have HV := (show Hid (Rg.Vals l VV t) from hv)
          clear hv hd ho
          refine wpOp_step rfl fun K9 hK9 => ?_
          have HKK := (show Hid _ from hK9)
          clear hK9
          go_simp
          refine (St.back_stream S2 _ ps2 (TX.size : Nat) _ (HTU.out.below HW.out) (HE.out.below HW.out)).mono ?_
          rintro e w9 ⟨rfl, k9⟩
          rw [HBK.out]
          refine HKK.out _ _ ⟨by simp [hsz], fun j => if j = 6 then .int .i64 (S2.size : Nat) else t j, by simp [e2, e5, e1], HV.out.put 6 _ V6.symm, HW.out.trans (k9.mono HW.out.size)⟩
        · obtain rfl : _ = op := Option.some.inj (show some _ = some op from ho)
          have e1 : t 1 = .bool true := (hv 1 (hd { on := 1, ground := .guard } (by simp) rfl)).trans V1
          have HV := (show Hid (Rg.Vals l VV t) from hv)
          clear hv hd ho
          refine wpOp_step rfl fun K9 hK9 => ?_
          have HKK := (show Hid _ from hK9)
          clear hK9
          go_simp
          exact HKK.out _ _ ⟨by simp [hsz], fun j => if j = 7 then .pointer (some ⟨U, 0, none⟩) else t j, by simp [e1], HV.out.put 7 _ V7.symm, HW⟩
        · obtain rfl : _ = op := Option.some.inj (show some _ = some op from ho)
          have e7 : t 7 = .pointer (some ⟨U, 0, none⟩) := (hv 7 (hd { on := 7, ground := .data } (by simp) rfl)).trans V7
          have e1 : t 1 = .bool true := (hv 1 (hd { on := 1, ground := .guard } (by simp) rfl)).trans V1
          have ycU0 : w'.cell? ⟨U, 0, none⟩ = some (.string S2) := (HW.out.cell (p := ⟨U, 0, none⟩) hU).trans cU0
          have ycU1 : w'.cell? ⟨U, 1, none⟩ = some (.slice tb ps2.length td) := (HW.out.cell (p := ⟨U, 1, none⟩) hU).trans cU1
          have ycZ0 : w'.cell? ⟨Z, 0, none⟩ = some (.string S1) := (HW.out.cell (p := ⟨Z, 0, none⟩) hZ).trans cZ0
          have HV := (show Hid (Rg.Vals l VV t) from hv)
          clear hv hd ho
          refine wpOp_step rfl fun K9 hK9 => ?_
          have HKK := (show Hid _ from hK9)
          clear hK9
          go_simp
          exact HKK.out _ _ ⟨by simp [hsz], fun j => if j = 8 then .string S2 else t j, by simp [e7, e1], HV.out.put 8 _ V8.symm, HW⟩
        · obtain rfl : _ = op := Option.some.inj (show some _ = some op from ho)
          have e8 : t 8 = .string S2 := (hv 8 (hd { on := 8, ground := .data } (by simp) rfl)).trans V8
          have e1 : t 1 = .bool true := (hv 1 (hd { on := 1, ground := .guard } (by simp) rfl)).trans V1
          have HV := (show Hid (Rg.Vals l VV t) from hv)
          clear hv hd ho
          refine wpOp_step rfl fun K9 hK9 => ?_
          have HKK := (show Hid _ from hK9)
          clear hK9
          go_simp
          exact HKK.out _ _ ⟨by simp [hsz], fun j => if j = 9 then .int .i64 (S2.size : Nat) else t j, by simp [e8, e1], HV.out.put 9 _ V9.symm, HW⟩
        · obtain rfl : _ = op := Option.some.inj (show some _ = some op from ho)
          have e6 : t 6 = .int .i64 (S2.size : Nat) := (hv 6 (hd { on := 6, ground := .data } (by simp) rfl)).trans V6
          have e9 : t 9 = .int .i64 (S2.size : Nat) := (hv 9 (hd { on := 9, ground := .data } (by simp) rfl)).trans V9
          have e1 : t 1 = .bool true := (hv 1 (hd { on := 1, ground := .guard } (by simp) rfl)).trans V1
          have HV := (show Hid (Rg.Vals l VV t) from hv)
          clear hv hd ho
          refine wpOp_step rfl fun K9 hK9 => ?_
          have HKK := (show Hid _ from hK9)
          clear hK9
          go_simp
          exact HKK.out _ _ ⟨by simp [hsz], fun j => if j = 10 then .bool true else t j, by simp [e6, e9, e1], HV.out.put 10 _ V10.symm, HW⟩
        · obtain rfl : _ = op := Option.some.inj (show some _ = some op from ho)
          have e1 : t 1 = .bool true := (hv 1 (hd { on := 1, ground := .data } (by simp) rfl)).trans V1
          have e10 : t 10 = .bool true := (hv 10 (hd { on := 10, ground := .data } (by simp) rfl)).trans V10
          have HV := (show Hid (Rg.Vals l VV t) from hv)
          clear hv hd ho
          refine wpOp_step rfl fun K9 hK9 => ?_
          have HKK := (show Hid _ from hK9)
          clear hK9
          go_simp
          exact HKK.out _ _ ⟨by simp [hsz], fun j => if j = 11 then .bool true else t j, by simp [e1, e10], HV.out.put 11 _ V11.symm, HW⟩
        · obtain rfl : _ = op := Option.some.inj (show some _ = some op from ho)
          have e11 : t 11 = .bool true := (hv 11 (hd { on := 11, ground := .data } (by simp) rfl)).trans V11
          have HV := (show Hid (Rg.Vals l VV t) from hv)
          clear hv hd ho
          refine wpOp_step rfl fun K9 hK9 => ?_
          have HKK := (show Hid _ from hK9)
          clear hK9
          go_simp
          exact HKK.out _ _ ⟨by simp [hsz], fun j => if j = 12 then .bool true else t j, by simp [e11], HV.out.put 12 _ V12.symm, HW⟩
        · obtain rfl : _ = op := Option.some.inj (show some _ = some op from ho)
          have e12 : t 12 = .bool true := (hv 12 (hd { on := 12, ground := .guard } (by simp) rfl)).trans V12
          have HV := (show Hid (Rg.Vals l VV t) from hv)
          clear hv hd ho
          refine wpOp_step rfl fun K9 hK9 => ?_
          have HKK := (show Hid _ from hK9)
          clear hK9
          go_simp
          exact HKK.out _ _ ⟨by simp [hsz], fun j => if j = 13 then .pointer (some ⟨U, 0, none⟩) else t j, by simp [e12], HV.out.put 13 _ V13.symm, HW⟩
        · obtain rfl : _ = op := Option.some.inj (show some _ = some op from ho)
          have e13 : t 13 = .pointer (some ⟨U, 0, none⟩) := (hv 13 (hd { on := 13, ground := .data } (by simp) rfl)).trans V13
          have e12 : t 12 = .bool true := (hv 12 (hd { on := 12, ground := .guard } (by simp) rfl)).trans V12
          have ycU0 : w'.cell? ⟨U, 0, none⟩ = some (.string S2) := (HW.out.cell (p := ⟨U, 0, none⟩) hU).trans cU0
          have ycU1 : w'.cell? ⟨U, 1, none⟩ = some (.slice tb ps2.length td) := (HW.out.cell (p := ⟨U, 1, none⟩) hU).trans cU1
          have ycZ0 : w'.cell? ⟨Z, 0, none⟩ = some (.string S1) := (HW.out.cell (p := ⟨Z, 0, none⟩) hZ).trans cZ0
          have HV := (show Hid (Rg.Vals l VV t) from hv)
          clear hv hd ho
          refine wpOp_step rfl fun K9 hK9 => ?_
          have HKK := (show Hid _ from hK9)
          clear hK9
          go_simp
          exact HKK.out _ _ ⟨by simp [hsz], fun j => if j = 14 then .string S2 else t j, by simp [e13, e12], HV.out.put 14 _ V14.symm, HW⟩
        · obtain rfl : _ = op := Option.some.inj (show some _ = some op from ho)
          have e14 : t 14 = .string S2 := (hv 14 (hd { on := 14, ground := .data } (by simp) rfl)).trans V14
          have e12 : t 12 = .bool true := (hv 12 (hd { on := 12, ground := .guard } (by simp) rfl)).trans V12
          have HV := (show Hid (Rg.Vals l VV t) from hv)
          clear hv hd ho
          refine wpOp_step rfl fun K9 hK9 => ?_
          have HKK := (show Hid _ from hK9)
          clear hK9
          go_simp
          exact HKK.out _ _ ⟨by simp [hsz], fun j => if j = 15 then .int .i64 (S2.size : Nat) else t j, by simp [e14, e12], HV.out.put 15 _ V15.symm, HW⟩
        · obtain rfl : _ = op := Option.some.inj (show some _ = some op from ho)
          have e12 : t 12 = .bool true := (hv 12 (hd { on := 12, ground := .guard } (by simp) rfl)).trans V12
          have HV := (show Hid (Rg.Vals l VV t) from hv)
          clear hv hd ho
          refine wpOp_step rfl fun K9 hK9 => ?_
          have HKK := (show Hid _ from hK9)
          clear hK9
          go_simp
          exact HKK.out _ _ ⟨by simp [hsz], fun j => if j = 16 then .pointer (some ⟨Z, 0, none⟩) else t j, by simp [e12], HV.out.put 16 _ V16.symm, HW⟩
        · obtain rfl : _ = op := Option.some.inj (show some _ = some op from ho)
          have e16 : t 16 = .pointer (some ⟨Z, 0, none⟩) := (hv 16 (hd { on := 16, ground := .data } (by simp) rfl)).trans V16
          have e12 : t 12 = .bool true := (hv 12 (hd { on := 12, ground := .guard } (by simp) rfl)).trans V12
          have ycU0 : w'.cell? ⟨U, 0, none⟩ = some (.string S2) := (HW.out.cell (p := ⟨U, 0, none⟩) hU).trans cU0
          have ycU1 : w'.cell? ⟨U, 1, none⟩ = some (.slice tb ps2.length td) := (HW.out.cell (p := ⟨U, 1, none⟩) hU).trans cU1
          have ycZ0 : w'.cell? ⟨Z, 0, none⟩ = some (.string S1) := (HW.out.cell (p := ⟨Z, 0, none⟩) hZ).trans cZ0
          have HV := (show Hid (Rg.Vals l VV t) from hv)
          clear hv hd ho
          refine wpOp_step rfl fun K9 hK9 => ?_
          have HKK := (show Hid _ from hK9)
          clear hK9
          go_simp
          exact HKK.out _ _ ⟨by simp [hsz], fun j => if j = 17 then .string S1 else t j, by simp [e16, e12], HV.out.put 17 _ V17.symm, HW⟩
        · obtain rfl : _ = op := Option.some.inj (show some _ = some op from ho)
          have e17 : t 17 = .string S1 := (hv 17 (hd { on := 17, ground := .data } (by simp) rfl)).trans V17
          have e12 : t 12 = .bool true := (hv 12 (hd { on := 12, ground := .guard } (by simp) rfl)).trans V12
          have HV := (show Hid (Rg.Vals l VV t) from hv)
          clear hv hd ho
          refine wpOp_step rfl fun K9 hK9 => ?_
          have HKK := (show Hid _ from hK9)
          clear hK9
          go_simp
          exact HKK.out _ _ ⟨by simp [hsz], fun j => if j = 18 then .int .i64 (S1.size : Nat) else t j, by simp [e17, e12], HV.out.put 18 _ V18.symm, HW⟩
        · obtain rfl : _ = op := Option.some.inj (show some _ = some op from ho)
          have e18 : t 18 = .int .i64 (S1.size : Nat) := (hv 18 (hd { on := 18, ground := .data } (by simp) rfl)).trans V18
          have e12 : t 12 = .bool true := (hv 12 (hd { on := 12, ground := .guard } (by simp) rfl)).trans V12
          have HV := (show Hid (Rg.Vals l VV t) from hv)
          clear hv hd ho
          refine wpOp_step rfl fun K9 hK9 => ?_
          have HKK := (show Hid _ from hK9)
          clear hK9
          go_simp
          exact HKK.out _ _ ⟨by simp [hsz], fun j => if j = 19 then .int .i64 ((S1.size : Int) + 1) else t j, by simp [e18, e12], HV.out.put 19 _ V19.symm, HW⟩
        · obtain rfl : _ = op := Option.some.inj (show some _ = some op from ho)
          have e15 : t 15 = .int .i64 (S2.size : Nat) := (hv 15 (hd { on := 15, ground := .data } (by simp) rfl)).trans V15
          have e19 : t 19 = .int .i64 ((S1.size : Int) + 1) := (hv 19 (hd { on := 19, ground := .data } (by simp) rfl)).trans V19
          have e12 : t 12 = .bool true := (hv 12 (hd { on := 12, ground := .guard } (by simp) rfl)).trans V12
          have HV := (show Hid (Rg.Vals l VV t) from hv)
          clear hv hd ho
          refine wpOp_step rfl fun K9 hK9 => ?_
          have HKK := (show Hid _ from hK9)
          clear hK9
          go_simp
          exact HKK.out _ _ ⟨by simp [hsz], fun j => if j = 20 then .bool true else t j, by simp [e15, e19, e12, HSZ2.out], HV.out.put 20 _ V20.symm, HW⟩
        · obtain rfl : _ = op := Option.some.inj (show some _ = some op from ho)
          have e12 : t 12 = .bool true := (hv 12 (hd { on := 12, ground := .data } (by simp) rfl)).trans V12
          have e20 : t 20 = .bool true := (hv 20 (hd { on := 20, ground := .data } (by simp) rfl)).trans V20
          have HV := (show Hid (Rg.Vals l VV t) from hv)
          clear hv hd ho
          refine wpOp_step rfl fun K9 hK9 => ?_
          have HKK := (show Hid _ from hK9)
          clear hK9
          go_simp
          exact HKK.out _ _ ⟨by simp [hsz], fun j => if j = 21 then .bool true else t j, by simp [e12, e20], HV.out.put 21 _ V21.symm, HW⟩
        · obtain rfl : _ = op := Option.some.inj (show some _ = some op from ho)
          have e21 : t 21 = .bool true := (hv 21 (hd { on := 21, ground := .data } (by simp) rfl)).trans V21
          have HV := (show Hid (Rg.Vals l VV t) from hv)
          clear hv hd ho
          refine wpOp_step rfl fun K9 hK9 => ?_
          have HKK := (show Hid _ from hK9)
          clear hK9
          go_simp
          exact HKK.out _ _ ⟨by simp [hsz], fun j => if j = 22 then .bool true else t j, by simp [e21], HV.out.put 22 _ V22.symm, HW⟩
      case fin =>
        rintro l a' w' ⟨hsz, t, rfl, hv, HW⟩ hall
        have z22 := (hv 22 (hall 22 (by simp))).trans V22
        rw [z22]
        have hb9 := HB.out.trans (HW.out.mono HB.out.size)
        clear hv hall z22
        go_wp2
        go_ret
        exact ⟨rfl, hb9⟩
end Go.Proofs.YtdggchcapjidjabGreatDoor.LPutHeld

/- The walk of a law on StreamPut: it answers true. -/
import Derived.Test.YtdggchcapjidjaaGreatDoorIg
import Derived.Test.YtdggchcapjidjaaGreatDoorPr
import Derived.Test.YtdggchcapjidjaaGreatDoorSp9
namespace Go.Proofs.YtdggchcapjidjaaGreatDoor.LPutParts
open Go.RowKit Go.Shelf Go.Proofs.YtdggchcapjidjaaGreatDoor.Kit Go.Proofs.YtdggchcapjidjaaGreatDoor.Mp Go.Proofs.YtdggchcapjidjaaGreatDoor.Mm Go.Proofs.YtdggchcapjidjaaGreatDoor.Tx Go.Proofs.YtdggchcapjidjaaGreatDoor.Nm Go.Proofs.YtdggchcapjidjaaGreatDoor.App Go.Proofs.YtdggchcapjidjaaGreatDoor.St Go.Proofs.YtdggchcapjidjaaGreatDoor.StP Go.Proofs.YtdggchcapjidjaaGreatDoor.Ip
open Go.Proofs.YtdggchcapjidjaaGreatDoor.Read (Errs)
set_option linter.unusedSimpArgs false
set_option linter.unusedVariables false

set_option maxRecDepth 8000 in
set_option maxHeartbeats 4000000 in
theorem long (a0 a1 : Option Addr) (len0 cap0 len1 cap1 : Nat) (w : World) (h : (1048576 : Int) < (len0 : Int)) :
    Calls Tryz.prog 5 #[.slice a0 len0 cap0, .slice a1 len1 cap1] w fun e w' => e = .returned (.bool true) ∧ Below w.heap.size w w' := by
  go_enter Tryz.func5, Tryz.ntmps5
  go_wp2
  go_ret
  exact ⟨rfl, Below.refl _ _⟩
set_option maxRecDepth 8000 in
set_option maxHeartbeats 4000000 in
theorem long2 (a0 a1 : Option Addr) (len0 cap0 len1 cap1 : Nat) (w : World) (h0 : (len0 : Int) ≤ 1048576) (h : (1048576 : Int) < (len1 : Int)) :
    Calls Tryz.prog 5 #[.slice a0 len0 cap0, .slice a1 len1 cap1] w fun e w' => e = .returned (.bool true) ∧ Below w.heap.size w w' := by
  go_enter Tryz.func5, Tryz.ntmps5
  go_wp2
  go_ret
  exact ⟨rfl, Below.refl _ _⟩
set_option maxRecDepth 20000 in
set_option maxHeartbeats 16000000 in
theorem short (a0 a1 : Option Addr) (len0 cap0 len1 cap1 : Nat) (w : World) (z y : Nat → Int) (hc : CodeIn w a0 len0 cap0 z) (hc1 : CodeIn w a1 len1 cap1 y) (h : (len0 : Int) ≤ 1048576) (h1 : (len1 : Int) ≤ 1048576) (herr : Errs w) :
    Calls Tryz.prog 5 #[.slice a0 len0 cap0, .slice a1 len1 cap1] w fun e w' => e = .returned (.bool true) ∧ Below w.heap.size w w' := by
  go_enter Tryz.func5, Tryz.ntmps5
  go_wp2_with fail
  refine (drawStreamPut a0 len0 cap0 z _ hc).mono ?_
  rintro e w1 ⟨v, es, S, pv, ps, qi, T, o, rfl, hg, hM, hT, hSm, hq, hTs, k1⟩
  obtain ⟨q, rfl⟩ : ∃ q : Nat, qi = (q : Int) := ⟨qi.toNat, by omega⟩
  have hq40 : q ≤ 40 := by omega
  obtain ⟨va, vc, rfl⟩ := isM_slice hM
  obtain ⟨pa, pc, rfl, hT'⟩ := id hT
  clear hT' hq
  have hbM : (prs es).length ≤ 1048576 := by have := hg.len; rw [prs_len]; omega
  have hbT : ps.length ≤ 1048576 := by have := hSm.2.1; omega
  have hS41 : S.size ≤ 41 := hSm.1
  have hpp : ∀ p ∈ ps, p.2.size ≤ 1073741824 := fun p hp => by have := (hSm.2.2 p hp).2; omega
  have hTml : T.size ≤ maxLen := by unfold maxLen; omega
  have HPP := (show Hid (∀ p ∈ ps, p.2.size ≤ 1073741824) from hpp)
  clear hpp
  have hokm := okM_prs es hg
  obtain ⟨es1, S1, ps1, b, hG⟩ : ∃ es1 S1 ps1 b, putG o es S ps q T = (es1, S1, ps1, b) := ⟨_, _, _, _, rfl⟩
  have hgood := putG_good (o := o) (S := S) (ps := ps) (q := q) (T := T) hg
  rw [hG] at hgood
  obtain ⟨hg1, hst1⟩ := hgood
  simp only at hg1 hst1
  have hb1 : ps1.length ≤ 1048576 := by have := (stB_small hst1).1; omega
  have hb2 : (prs es1).length ≤ 1048576 := by have := hg1.len; rw [prs_len]; omega
  have HG := (show Hid (putG o es S ps q T = (es1, S1, ps1, b)) from hG)
  have HST1 := (show Hid (stB S1 ps1 = true) from hst1)
  clear hG hst1
  have kA : Below w1.heap.size w1 (w1.alloc (.cells #[.string S, .slice pa ps.length pc] 26)) := (Below.refl _ _).alloc (Nat.le_refl _) _
  have x0 : (w1.alloc (.cells #[.string S, .slice pa ps.length pc] 26)).cell? ⟨w1.heap.size, 0, none⟩ = some (.string S) := by simp
  have x1 : (w1.alloc (.cells #[.string S, .slice pa ps.length pc] 26)).cell? ⟨w1.heap.size, 1, none⟩ = some (.slice pa ps.length pc) := by simp
  have hx : w1.heap.size < (w1.alloc (.cells #[.string S, .slice pa ps.length pc] 26)).heap.size := by simp
  have HMX := (show Hid (IsM (w1.alloc (.cells #[.string S, .slice pa ps.length pc] 26)) (.slice va (prs es).length vc) (prs es)) from hM.below kA)
  have HTX := (show Hid (IsT (w1.alloc (.cells #[.string S, .slice pa ps.length pc] 26)) (.slice pa ps.length pc) ps) from hT.below kA)
  have HE := (show Hid (Errs (w1.alloc (.cells #[.string S, .slice pa ps.length pc] 26))) from (herr.below k1).below kA)
  have HB := (show Hid (Below w.heap.size w (w1.alloc (.cells #[.string S, .slice pa ps.length pc] 26))) from k1.trans (kA.mono k1.size))
  clear hM hT herr k1 kA
  go_wp2_with fail
  generalize (w1.alloc (.cells #[.string S, .slice pa ps.length pc] 26)) = u0 at *
  generalize w1.heap.size = X at *
  have hX : X < u0.heap.size := hx
  have cX0 := x0
  have cX1 := x1
  clear x0 x1 hx
  refine (sput_h _ _ es hg HMX.out S _ ps HTX.out hSm q hq40 T hTs o HG.out).mono ?_
  rintro e w21 ⟨ya, yc, yb, yd, rfl, hM', hT', kk1⟩
  have kA : Below u0.heap.size u0 (w21.alloc (.cells #[.string S1, .slice yb ps1.length yd] 26)) := kk1.alloc kk1.size _
  have x0 : (w21.alloc (.cells #[.string S1, .slice yb ps1.length yd] 26)).cell? ⟨w21.heap.size, 0, none⟩ = some (.string S1) := by simp
  have x1 : (w21.alloc (.cells #[.string S1, .slice yb ps1.length yd] 26)).cell? ⟨w21.heap.size, 1, none⟩ = some (.slice yb ps1.length yd) := by simp
  have hx : w21.heap.size < (w21.alloc (.cells #[.string S1, .slice yb ps1.length yd] 26)).heap.size := by simp
  have bz : Below w21.heap.size w21 (w21.alloc (.cells #[.string S1, .slice yb ps1.length yd] 26)) := (Below.refl _ _).alloc (Nat.le_refl _) _
  have HMY := (show Hid (IsM (w21.alloc (.cells #[.string S1, .slice yb ps1.length yd] 26)) (.slice ya (prs es1).length yc) (prs es1)) from hM'.below bz)
  have HTY := (show Hid (IsT (w21.alloc (.cells #[.string S1, .slice yb ps1.length yd] 26)) (.slice yb ps1.length yd) ps1) from hT'.below bz)
  clear hM' hT' bz kk1
  replace cX0 := (kA.cell (p := ⟨X, 0, none⟩) hX).trans cX0
  replace cX1 := (kA.cell (p := ⟨X, 1, none⟩) hX).trans cX1
  replace hX : X < (w21.alloc (.cells #[.string S1, .slice yb ps1.length yd] 26)).heap.size := Nat.lt_of_lt_of_le hX kA.size
  replace HMX := (show Hid (IsM (w21.alloc (.cells #[.string S1, .slice yb ps1.length yd] 26)) (.slice va (prs es).length vc) (prs es)) from HMX.out.below kA)
  replace HTX := (show Hid (IsT (w21.alloc (.cells #[.string S1, .slice yb ps1.length yd] 26)) (.slice pa ps.length pc) ps) from HTX.out.below kA)
  replace HE := (show Hid (Errs (w21.alloc (.cells #[.string S1, .slice yb ps1.length yd] 26))) from HE.out.below kA)
  replace HB := (show Hid (Below w.heap.size w (w21.alloc (.cells #[.string S1, .slice yb ps1.length yd] 26))) from HB.out.trans (kA.mono HB.out.size))
  clear kA
  go_wp2_with fail
  generalize (w21.alloc (.cells #[.string S1, .slice yb ps1.length yd] 26)) = u2 at *
  generalize w21.heap.size = Y at *
  have hY : Y < u2.heap.size := hx
  have cY0 := x0
  have cY1 := x1
  clear x0 x1 hx
  refine (iput_h _ _ es hg HMX.out S _ ps HTX.out q hq40 T o HE.out HG.out).mono ?_
  rintro e w23 ⟨za, zc, zb, zd, rfl, hM', hT', kk3⟩
  have kA : Below u2.heap.size u2 (w23.alloc (.cells #[.string S1, .slice zb ps1.length zd] 26)) := kk3.alloc kk3.size _
  have x0 : (w23.alloc (.cells #[.string S1, .slice zb ps1.length zd] 26)).cell? ⟨w23.heap.size, 0, none⟩ = some (.string S1) := by simp
  have x1 : (w23.alloc (.cells #[.string S1, .slice zb ps1.length zd] 26)).cell? ⟨w23.heap.size, 1, none⟩ = some (.slice zb ps1.length zd) := by simp
  have hx : w23.heap.size < (w23.alloc (.cells #[.string S1, .slice zb ps1.length zd] 26)).heap.size := by simp
  have bz : Below w23.heap.size w23 (w23.alloc (.cells #[.string S1, .slice zb ps1.length zd] 26)) := (Below.refl _ _).alloc (Nat.le_refl _) _
  have HMZ := (show Hid (IsM (w23.alloc (.cells #[.string S1, .slice zb ps1.length zd] 26)) (.slice za (prs es1).length zc) (prs es1)) from hM'.below bz)
  have HTZ := (show Hid (IsT (w23.alloc (.cells #[.string S1, .slice zb ps1.length zd] 26)) (.slice zb ps1.length zd) ps1) from hT'.below bz)
  clear hM' hT' bz kk3
  replace cX0 := (kA.cell (p := ⟨X, 0, none⟩) hX).trans cX0
  replace cX1 := (kA.cell (p := ⟨X, 1, none⟩) hX).trans cX1
  replace cY0 := (kA.cell (p := ⟨Y, 0, none⟩) hY).trans cY0
  replace cY1 := (kA.cell (p := ⟨Y, 1, none⟩) hY).trans cY1
  replace hX : X < (w23.alloc (.cells #[.string S1, .slice zb ps1.length zd] 26)).heap.size := Nat.lt_of_lt_of_le hX kA.size
  replace hY : Y < (w23.alloc (.cells #[.string S1, .slice zb ps1.length zd] 26)).heap.size := Nat.lt_of_lt_of_le hY kA.size
  replace HMX := (show Hid (IsM (w23.alloc (.cells #[.string S1, .slice zb ps1.length zd] 26)) (.slice va (prs es).length vc) (prs es)) from HMX.out.below kA)
  replace HTX := (show Hid (IsT (w23.alloc (.cells #[.string S1, .slice zb ps1.length zd] 26)) (.slice pa ps.length pc) ps) from HTX.out.below kA)
  replace HMY := (show Hid (IsM (w23.alloc (.cells #[.string S1, .slice zb ps1.length zd] 26)) (.slice ya (prs es1).length yc) (prs es1)) from HMY.out.below kA)
  replace HTY := (show Hid (IsT (w23.alloc (.cells #[.string S1, .slice zb ps1.length zd] 26)) (.slice yb ps1.length yd) ps1) from HTY.out.below kA)
  replace HE := (show Hid (Errs (w23.alloc (.cells #[.string S1, .slice zb ps1.length zd] 26))) from HE.out.below kA)
  replace HB := (show Hid (Below w.heap.size w (w23.alloc (.cells #[.string S1, .slice zb ps1.length zd] 26))) from HB.out.trans (kA.mono HB.out.size))
  clear kA
  go_wp2_with fail
  generalize (w23.alloc (.cells #[.string S1, .slice zb ps1.length zd] 26)) = u4 at *
  generalize w23.heap.size = Z at *
  have hZ : Z < u4.heap.size := hx
  have cZ0 := x0
  have cZ1 := x1
  clear x0 x1 hx
  refine (LzT.lzs_same _ S1 _ _ ps1 hb1 HTZ.out HTY.out).mono ?_
  rintro e v5 ⟨rfl, k55⟩
  replace cX0 := (k55.cell (p := ⟨X, 0, none⟩) hX).trans cX0
  replace cX1 := (k55.cell (p := ⟨X, 1, none⟩) hX).trans cX1
  replace cY0 := (k55.cell (p := ⟨Y, 0, none⟩) hY).trans cY0
  replace cY1 := (k55.cell (p := ⟨Y, 1, none⟩) hY).trans cY1
  replace cZ0 := (k55.cell (p := ⟨Z, 0, none⟩) hZ).trans cZ0
  replace cZ1 := (k55.cell (p := ⟨Z, 1, none⟩) hZ).trans cZ1
  replace hX : X < v5.heap.size := Nat.lt_of_lt_of_le hX k55.size
  replace hY : Y < v5.heap.size := Nat.lt_of_lt_of_le hY k55.size
  replace hZ : Z < v5.heap.size := Nat.lt_of_lt_of_le hZ k55.size
  replace HMX := (show Hid (IsM v5 (.slice va (prs es).length vc) (prs es)) from HMX.out.below k55)
  replace HTX := (show Hid (IsT v5 (.slice pa ps.length pc) ps) from HTX.out.below k55)
  replace HMY := (show Hid (IsM v5 (.slice ya (prs es1).length yc) (prs es1)) from HMY.out.below k55)
  replace HTY := (show Hid (IsT v5 (.slice yb ps1.length yd) ps1) from HTY.out.below k55)
  replace HMZ := (show Hid (IsM v5 (.slice za (prs es1).length zc) (prs es1)) from HMZ.out.below k55)
  replace HTZ := (show Hid (IsT v5 (.slice zb ps1.length zd) ps1) from HTZ.out.below k55)
  replace HE := (show Hid (Errs v5) from HE.out.below k55)
  replace HB := (show Hid (Below w.heap.size w v5) from HB.out.trans (k55.mono HB.out.size))
  clear k55
  go_wp2_with fail
  refine (LzM.lz_same _ (prs es1) hb2 _ _ HMZ.out HMY.out).mono ?_
  rintro e v6 ⟨rfl, k56⟩
  replace cX0 := (k56.cell (p := ⟨X, 0, none⟩) hX).trans cX0
  replace cX1 := (k56.cell (p := ⟨X, 1, none⟩) hX).trans cX1
  replace cY0 := (k56.cell (p := ⟨Y, 0, none⟩) hY).trans cY0
  replace cY1 := (k56.cell (p := ⟨Y, 1, none⟩) hY).trans cY1
  replace cZ0 := (k56.cell (p := ⟨Z, 0, none⟩) hZ).trans cZ0
  replace cZ1 := (k56.cell (p := ⟨Z, 1, none⟩) hZ).trans cZ1
  replace hX : X < v6.heap.size := Nat.lt_of_lt_of_le hX k56.size
  replace hY : Y < v6.heap.size := Nat.lt_of_lt_of_le hY k56.size
  replace hZ : Z < v6.heap.size := Nat.lt_of_lt_of_le hZ k56.size
  replace HMX := (show Hid (IsM v6 (.slice va (prs es).length vc) (prs es)) from HMX.out.below k56)
  replace HTX := (show Hid (IsT v6 (.slice pa ps.length pc) ps) from HTX.out.below k56)
  replace HMY := (show Hid (IsM v6 (.slice ya (prs es1).length yc) (prs es1)) from HMY.out.below k56)
  replace HTY := (show Hid (IsT v6 (.slice yb ps1.length yd) ps1) from HTY.out.below k56)
  replace HMZ := (show Hid (IsM v6 (.slice za (prs es1).length zc) (prs es1)) from HMZ.out.below k56)
  replace HTZ := (show Hid (IsT v6 (.slice zb ps1.length zd) ps1) from HTZ.out.below k56)
  replace HE := (show Hid (Errs v6) from HE.out.below k56)
  replace HB := (show Hid (Below w.heap.size w v6) from HB.out.trans (k56.mono HB.out.size))
  clear k56
  cases b
  · skip
    go_wp2_with fail
    refine (LzT.lzs_same _ S1 _ _ ps1 hb1 HTZ.out HTY.out).mono ?_
    rintro e v7 ⟨rfl, k57⟩
    replace cX0 := (k57.cell (p := ⟨X, 0, none⟩) hX).trans cX0
    replace cX1 := (k57.cell (p := ⟨X, 1, none⟩) hX).trans cX1
    replace cY0 := (k57.cell (p := ⟨Y, 0, none⟩) hY).trans cY0
    replace cY1 := (k57.cell (p := ⟨Y, 1, none⟩) hY).trans cY1
    replace cZ0 := (k57.cell (p := ⟨Z, 0, none⟩) hZ).trans cZ0
    replace cZ1 := (k57.cell (p := ⟨Z, 1, none⟩) hZ).trans cZ1
    replace hX : X < v7.heap.size := Nat.lt_of_lt_of_le hX k57.size
    replace hY : Y < v7.heap.size := Nat.lt_of_lt_of_le hY k57.size
    replace hZ : Z < v7.heap.size := Nat.lt_of_lt_of_le hZ k57.size
    replace HMX := (show Hid (IsM v7 (.slice va (prs es).length vc) (prs es)) from HMX.out.below k57)
    replace HTX := (show Hid (IsT v7 (.slice pa ps.length pc) ps) from HTX.out.below k57)
    replace HMY := (show Hid (IsM v7 (.slice ya (prs es1).length yc) (prs es1)) from HMY.out.below k57)
    replace HTY := (show Hid (IsT v7 (.slice yb ps1.length yd) ps1) from HTY.out.below k57)
    replace HMZ := (show Hid (IsM v7 (.slice za (prs es1).length zc) (prs es1)) from HMZ.out.below k57)
    replace HTZ := (show Hid (IsT v7 (.slice zb ps1.length zd) ps1) from HTZ.out.below k57)
    replace HE := (show Hid (Errs v7) from HE.out.below k57)
    replace HB := (show Hid (Below w.heap.size w v7) from HB.out.trans (k57.mono HB.out.size))
    clear k57
    go_wp2_with fail
    refine (LzM.lz_same _ (prs es1) hb2 _ _ HMZ.out HMY.out).mono ?_
    rintro e v8 ⟨rfl, k58⟩
    replace cX0 := (k58.cell (p := ⟨X, 0, none⟩) hX).trans cX0
    replace cX1 := (k58.cell (p := ⟨X, 1, none⟩) hX).trans cX1
    replace cY0 := (k58.cell (p := ⟨Y, 0, none⟩) hY).trans cY0
    replace cY1 := (k58.cell (p := ⟨Y, 1, none⟩) hY).trans cY1
    replace cZ0 := (k58.cell (p := ⟨Z, 0, none⟩) hZ).trans cZ0
    replace cZ1 := (k58.cell (p := ⟨Z, 1, none⟩) hZ).trans cZ1
    replace hX : X < v8.heap.size := Nat.lt_of_lt_of_le hX k58.size
    replace hY : Y < v8.heap.size := Nat.lt_of_lt_of_le hY k58.size
    replace hZ : Z < v8.heap.size := Nat.lt_of_lt_of_le hZ k58.size
    replace HMX := (show Hid (IsM v8 (.slice va (prs es).length vc) (prs es)) from HMX.out.below k58)
    replace HTX := (show Hid (IsT v8 (.slice pa ps.length pc) ps) from HTX.out.below k58)
    replace HMY := (show Hid (IsM v8 (.slice ya (prs es1).length yc) (prs es1)) from HMY.out.below k58)
    replace HTY := (show Hid (IsT v8 (.slice yb ps1.length yd) ps1) from HTY.out.below k58)
    replace HMZ := (show Hid (IsM v8 (.slice za (prs es1).length zc) (prs es1)) from HMZ.out.below k58)
    replace HTZ := (show Hid (IsT v8 (.slice zb ps1.length zd) ps1) from HTZ.out.below k58)
    replace HE := (show Hid (Errs v8) from HE.out.below k58)
    replace HB := (show Hid (Below w.heap.size w v8) from HB.out.trans (k58.mono HB.out.size))
    clear k58
    go_wp2
    go_ret
    exact ⟨rfl, HB.out⟩
  · skip
    have hboth : stB S ps = true ∧ okB T.data.toList = true := by
      by_cases h9 : stB S ps = true ∧ okB T.data.toList = true
      · exact h9
      · have := HG.out
        rw [putG_no h9] at this
        simp at this
    obtain ⟨hst, hTok⟩ := hboth
    have hF : putF o es S ps (q : Nat) T = (es1, S1, ps1, true) := (putG_ok hst hTok).symm.trans HG.out
    obtain ⟨sz1, sz2, sz3, sz4⟩ := putF_size hF
    have hS1 := (ok_parts _ (stB_parts.1 HST1.out).1).1
    rw [lenL] at hS1
    obtain ⟨K, hK⟩ : ∃ K : Nat, K = len1 % (T.size + 1) := ⟨_, rfl⟩
    have hKT : K ≤ T.size := by rw [hK]; have := Nat.mod_lt len1 (show 0 < T.size + 1 by omega); omega
    have hKm : (len1 : Int) % ((T.size : Int) + 1) = (K : Int) := by rw [hK]; push_cast; rfl
    have hKt : (len1 : Int).tmod ((T.size : Int) + 1) = (K : Int) := by rw [Int.tmod_eq_emod_of_nonneg (by omega)]; exact hKm
    have hKn : ¬ (T.size : Int) + 1 = 0 := by omega
    have hKw : IntKind.i64.wrap ((T.size : Int) + 1) = (T.size : Int) + 1 := by simp [IntKind.wrap, IntKind.bits, IntKind.signed]; omega
    have hK0 : (0 : Int) ≤ (K : Int) := by omega
    have hKT' : (K : Int) ≤ (T.size : Int) := by omega
    obtain ⟨M, hM⟩ : ∃ M : Nat, M = q + K := ⟨_, rfl⟩
    have hM40 : M ≤ 40 := by omega
    have hqe : (q : Int) + (K : Int) = (M : Int) := by omega
    have hwm : IntKind.i64.wrap (M : Int) = (M : Int) := by simp [IntKind.wrap, IntKind.bits, IntKind.signed]; omega
    have HQK := (show Hid (IntKind.i64.wrap (M : Int) = (M : Int)) from hwm)
    have HQK' := (show Hid ((q : Int) + (K : Int) = (M : Int)) from hqe)
    have xs1 : (T.extract 0 K).size = K := by rw [ByteArray.size_extract]; omega
    have xs2 : (T.extract K T.size).size = T.size - K := by rw [ByteArray.size_extract]; omega
    have xo1 : okB (T.extract 0 K).data.toList = true := by rw [ext0k]; exact ok_take _ _ hTok
    have xo2 : okB (T.extract K T.size).data.toList = true := by rw [ext_from]; exact ok_drop _ _ hTok
    clear hK hwm hqe
    obtain ⟨es2, S2, ps2, hp1, hp2⟩ := putF_parts hg hst hTok hF K hKT
    have hgg := putF_ok o q (T.extract 0 K) hg hst xo1
    rw [hp1] at hgg
    obtain ⟨hg2, hst2, _⟩ := hgg
    simp only at hg2 hst2
    have hb12 : ps2.length ≤ 1048576 := by have := (stB_small hst2).1; omega
    rw [← hM] at hp2
    have HG2 := (show Hid (putG o es S ps q (T.extract 0 K) = (es2, S2, ps2, true)) from (putG_ok hst xo1).trans hp1)
    have HG3 := (show Hid (putG o es2 S2 ps2 M (T.extract K T.size) = (es1, S1, ps1, true)) from (putG_ok hst2 xo2).trans hp2)
    clear hst hTok hF sz4 xs1 xs2 xo1 xo2 hM hp1 hp2 hst2
    have hmix : Tryz.prog.follows .mixedOrders = true := by kernel_rfl
    obtain ⟨VV, hVV⟩ : ∃ VV : Value → Value → Nat → Value, VV = fun c0 c1 j => [(.slice va (prs es).length vc : Value), .agg #[.string S, .slice pa ps.length pc], .int .i64 (q : Nat), .string T, .int .i64 (K : Nat), .string (T.extract 0 K), .bool o, .tuple #[c0, c1, .bool true], .tuple #[c0, c1, .bool true], c0, c1, .bool true, undef, c0, undef, .bool true].getD j undef := ⟨_, rfl⟩
    have V0 : ∀ c0 c1, VV c0 c1 0 = .slice va (prs es).length vc := fun _ _ => by rw [hVV]; rfl
    have V1 : ∀ c0 c1, VV c0 c1 1 = .agg #[.string S, .slice pa ps.length pc] := fun _ _ => by rw [hVV]; rfl
    have V2 : ∀ c0 c1, VV c0 c1 2 = .int .i64 (q : Nat) := fun _ _ => by rw [hVV]; rfl
    have V3 : ∀ c0 c1, VV c0 c1 3 = .string T := fun _ _ => by rw [hVV]; rfl
    have V4 : ∀ c0 c1, VV c0 c1 4 = .int .i64 (K : Nat) := fun _ _ => by rw [hVV]; rfl
    have V5 : ∀ c0 c1, VV c0 c1 5 = .string (T.extract 0 K) := fun _ _ => by rw [hVV]; rfl
    have V6 : ∀ c0 c1, VV c0 c1 6 = .bool o := fun _ _ => by rw [hVV]; rfl
    have V7 : ∀ c0 c1, VV c0 c1 7 = .tuple #[c0, c1, .bool true] := fun _ _ => by rw [hVV]; rfl
    have V8 : ∀ c0 c1, VV c0 c1 8 = .tuple #[c0, c1, .bool true] := fun _ _ => by rw [hVV]; rfl
    have V9 : ∀ c0 c1, VV c0 c1 9 = c0 := fun _ _ => by rw [hVV]; rfl
    have V10 : ∀ c0 c1, VV c0 c1 10 = c1 := fun _ _ => by rw [hVV]; rfl
    have V11 : ∀ c0 c1, VV c0 c1 11 = .bool true := fun _ _ => by rw [hVV]; rfl
    have V12 : ∀ c0 c1, VV c0 c1 12 = undef := fun _ _ => by rw [hVV]; rfl
    have V13 : ∀ c0 c1, VV c0 c1 13 = c0 := fun _ _ => by rw [hVV]; rfl
    have V14 : ∀ c0 c1, VV c0 c1 14 = undef := fun _ _ => by rw [hVV]; rfl
    have V15 : ∀ c0 c1, VV c0 c1 15 = .bool true := fun _ _ => by rw [hVV]; rfl
    clear hVV
    go_upto_region 9 with fail
    refine wp_region_any hmix ?_
    refine Ri.any_inv (I := fun l a' w' => l.size = 16 ∧ ∃ (t : Nat → Value) (x c0 c1 : Value), a' = { tmps := #[(Value.slice a0 len0 cap0 : Value), Value.slice a1 len1 cap1, undef, undef, Value.bool false, Value.slice va (prs es).length vc, Value.pointer (some { block := X, off := 0 }), Value.int IntKind.i64 ↑q, Value.string T, Value.bool o, Value.slice ya (prs es1).length yc, Value.pointer (some { block := Y, off := 0 }), Value.bool true, Value.slice za (prs es1).length zc, Value.pointer (some { block := Z, off := 0 }), Value.bool true, Value.int IntKind.i64 ↑K, t 13, x, t 15, undef, undef, undef, Value.slice a0 len0 cap0, Value.int IntKind.i64 ↑len0, Value.bool (decide ((1048576 : Int) < (len0 : Int))), Value.bool (decide ((1048576 : Int) < (len0 : Int))), Value.slice a1 len1 cap1, Value.int IntKind.i64 ↑len1, Value.bool (decide ((1048576 : Int) < (len1 : Int))), Value.bool (decide ((1048576 : Int) < (len0 : Int)) || decide ((1048576 : Int) < (len1 : Int))), Value.tuple #[Value.slice va (prs es).length vc, Value.agg #[Value.string S, Value.slice pa ps.length pc], Value.int IntKind.i64 ↑q, Value.string T, Value.bool o], Value.slice a0 len0 cap0, Value.tuple #[Value.slice va (prs es).length vc, Value.agg #[Value.string S, Value.slice pa ps.length pc], Value.int IntKind.i64 ↑q, Value.string T, Value.bool o], Value.slice va (prs es).length vc, Value.agg #[Value.string S, Value.slice pa ps.length pc], Value.int IntKind.i64 ↑q, Value.string T, Value.bool o, Value.tuple #[Value.slice ya (prs es1).length yc, Value.agg #[Value.string S1, Value.slice yb ps1.length yd], Value.bool true], Value.slice va (prs es).length vc, Value.agg #[Value.string S, Value.slice pa ps.length pc], Value.int IntKind.i64 ↑q, Value.string T, Value.bool o, Value.tuple #[Value.slice ya (prs es1).length yc, Value.agg #[Value.string S1, Value.slice yb ps1.length yd], Value.bool true], Value.slice ya (prs es1).length yc, Value.agg #[Value.string S1, Value.slice yb ps1.length yd], Value.bool true, Value.tuple #[Value.slice za (prs es1).length zc, Value.agg #[Value.string S1, Value.slice zb ps1.length zd], Value.bool true], Value.slice va (prs es).length vc, Value.agg #[Value.string S, Value.slice pa ps.length pc], Value.int IntKind.i64 ↑q, Value.string T, Value.bool o, Value.tuple #[Value.slice za (prs es1).length zc, Value.agg #[Value.string S1, Value.slice zb ps1.length zd], Value.bool true], Value.slice za (prs es1).length zc, Value.agg #[Value.string S1, Value.slice zb ps1.length zd], Value.bool true, Value.bool true, Value.bool true, Value.bool false, Value.bool false, Value.agg #[Value.string S1, Value.slice zb ps1.length zd], Value.agg #[Value.string S1, Value.slice yb ps1.length yd], Value.bool true, Value.bool false, Value.bool false, Value.bool false, Value.slice za (prs es1).length zc, Value.slice ya (prs es1).length yc, Value.bool true, Value.bool false, Value.bool false, Value.bool false, Value.bool true, Value.bool false, Value.bool false, undef, undef, undef, undef, undef, undef, undef, undef, undef, undef, undef, undef, undef, Value.slice a1 len1 cap1, Value.int IntKind.i64 ↑len1, Value.string T, Value.int IntKind.i64 ↑T.size, Value.int IntKind.i64 (↑T.size + 1), Value.int IntKind.i64 ↑K, t 8, t 0, t 1, t 2, t 3, t 4, t 5, t 6, t 7, t 9, t 10, t 11, undef, undef, undef, undef, undef, undef, undef, undef, undef, undef, undef, undef, undef, undef, undef, undef, undef, undef, undef, undef, undef, undef, undef, undef, undef, undef, undef, undef], defers := [] } ∧ Rg.Vals l (VV c0 c1) t ∧ Sp9 v6 es2 S2 ps2 12 14 7 l x c0 c1 w') ?sz ?low ?step ?fin _ _ _ _ ?start (Ri.closed_none _ _ _) (Rg.left_all _)
    case sz => exact fun l a' w' h => h.1
    case start => exact ⟨by simp, fun j => ([undef, undef, undef, undef, undef, undef, undef, undef, undef, undef, undef, undef, undef, undef, undef, undef] : List Value).getD j undef, undef, undef, undef, rfl, Rg.vals_none _ _ _, Sp9.start _ (Below.refl _ _).drew⟩
    case low => exact Ri.low_of (by kernel_rfl)
    case step =>
      rintro l a' w' i ⟨hsz, t, x, c0, c1, rfl, hv, HM⟩ hcl hi
      obtain ⟨h0, op, ho, hd⟩ := mem_ready.1 hi
      have hin : i < 16 := (Array.getElem?_eq_some_iff.1 ho).1
      have hnl := Rg.not_listed h0
      have hS7 : l.getD 14 false = true → l.getD 7 false = true := fun h => Ri.reach_sound hcl 10 14 7 (by kernel_rfl) h
      have hS12 : l.getD 14 false = true → l.getD 12 false = true := fun h => Ri.reach_sound hcl 10 14 12 (by kernel_rfl) h
      have hD8 : l.getD 8 false = true → l.getD 7 false = true := fun h => Ri.reach_sound hcl 10 8 7 (by kernel_rfl) h
      have hD9 : l.getD 9 false = true → l.getD 7 false = true := fun h => Ri.reach_sound hcl 10 9 7 (by kernel_rfl) h
      have hD10 : l.getD 10 false = true → l.getD 7 false = true := fun h => Ri.reach_sound hcl 10 10 7 (by kernel_rfl) h
      have hD11 : l.getD 11 false = true → l.getD 7 false = true := fun h => Ri.reach_sound hcl 10 11 7 (by kernel_rfl) h
      have hD13 : l.getD 13 false = true → l.getD 7 false = true := fun h => Ri.reach_sound hcl 10 13 7 (by kernel_rfl) h
      have hD14 : l.getD 14 false = true → l.getD 7 false = true := fun h => Ri.reach_sound hcl 10 14 7 (by kernel_rfl) h
      have hD15 : l.getD 15 false = true → l.getD 7 false = true := fun h => Ri.reach_sound hcl 10 15 7 (by kernel_rfl) h
      clear h0 hi hcl
      have hc : i = 0 ∨ i = 1 ∨ i = 2 ∨ i = 3 ∨ i = 4 ∨ i = 5 ∨ i = 6 ∨ i = 7 ∨ i = 8 ∨ i = 9 ∨ i = 10 ∨ i = 11 ∨ i = 12 ∨ i = 13 ∨ i = 14 ∨ i = 15 := by omega
      rcases hc with rfl | rfl | rfl | rfl | rfl | rfl | rfl | rfl | rfl | rfl | rfl | rfl | rfl | rfl | rfl | rfl
      · obtain rfl : _ = op := Option.some.inj (show some _ = some op from ho)
        have HV := (show Hid (Rg.Vals l (VV c0 c1) t) from hv)
        have HQ := (show Hid (Sp9 v6 es2 S2 ps2 12 14 7 l x c0 c1 w') from HM)
        clear hv hd ho HM
        refine wpOp_step rfl fun K9 hK9 => ?_
        have HKK := (show Hid _ from hK9)
        clear hK9
        go_simp
        exact HKK.out _ _ ⟨by simp [hsz], fun j => if j = 0 then (.slice va (prs es).length vc : Value) else t j, x, c0, c1, by simp, HV.out.put 0 _ (V0 _ _).symm, HQ.out.other (by decide) (by decide) (by decide)⟩
      · obtain rfl : _ = op := Option.some.inj (show some _ = some op from ho)
        have HW := (show Hid (Below v6.heap.size v6 w') from HM.bel)
        have y0 : w'.cell? ⟨X, 0, none⟩ = some (.string S) := (HW.out.cell (p := ⟨X, 0, none⟩) hX).trans cX0
        have y1 : w'.cell? ⟨X, 1, none⟩ = some (.slice pa ps.length pc) := (HW.out.cell (p := ⟨X, 1, none⟩) hX).trans cX1
        have HV := (show Hid (Rg.Vals l (VV c0 c1) t) from hv)
        have HQ := (show Hid (Sp9 v6 es2 S2 ps2 12 14 7 l x c0 c1 w') from HM)
        clear hv hd ho HM
        refine wpOp_step rfl fun K9 hK9 => ?_
        have HKK := (show Hid _ from hK9)
        clear hK9
        go_simp
        exact HKK.out _ _ ⟨by simp [hsz], fun j => if j = 1 then (.agg #[.string S, .slice pa ps.length pc] : Value) else t j, x, c0, c1, by simp, HV.out.put 1 _ (V1 _ _).symm, HQ.out.other (by decide) (by decide) (by decide)⟩
      · obtain rfl : _ = op := Option.some.inj (show some _ = some op from ho)
        have HV := (show Hid (Rg.Vals l (VV c0 c1) t) from hv)
        have HQ := (show Hid (Sp9 v6 es2 S2 ps2 12 14 7 l x c0 c1 w') from HM)
        clear hv hd ho HM
        refine wpOp_step rfl fun K9 hK9 => ?_
        have HKK := (show Hid _ from hK9)
        clear hK9
        go_simp
        exact HKK.out _ _ ⟨by simp [hsz], fun j => if j = 2 then (.int .i64 (q : Nat) : Value) else t j, x, c0, c1, by simp, HV.out.put 2 _ (V2 _ _).symm, HQ.out.other (by decide) (by decide) (by decide)⟩
      · obtain rfl : _ = op := Option.some.inj (show some _ = some op from ho)
        have HV := (show Hid (Rg.Vals l (VV c0 c1) t) from hv)
        have HQ := (show Hid (Sp9 v6 es2 S2 ps2 12 14 7 l x c0 c1 w') from HM)
        clear hv hd ho HM
        refine wpOp_step rfl fun K9 hK9 => ?_
        have HKK := (show Hid _ from hK9)
        clear hK9
        go_simp
        exact HKK.out _ _ ⟨by simp [hsz], fun j => if j = 3 then (.string T : Value) else t j, x, c0, c1, by simp, HV.out.put 3 _ (V3 _ _).symm, HQ.out.other (by decide) (by decide) (by decide)⟩
      · obtain rfl : _ = op := Option.some.inj (show some _ = some op from ho)
        have HV := (show Hid (Rg.Vals l (VV c0 c1) t) from hv)
        have HQ := (show Hid (Sp9 v6 es2 S2 ps2 12 14 7 l x c0 c1 w') from HM)
        clear hv hd ho HM
        refine wpOp_step rfl fun K9 hK9 => ?_
        have HKK := (show Hid _ from hK9)
        clear hK9
        go_simp
        exact HKK.out _ _ ⟨by simp [hsz], fun j => if j = 4 then (.int .i64 (K : Nat) : Value) else t j, x, c0, c1, by simp, HV.out.put 4 _ (V4 _ _).symm, HQ.out.other (by decide) (by decide) (by decide)⟩
      · obtain rfl : _ = op := Option.some.inj (show some _ = some op from ho)
        have e3 : t 3 = .string T := (hv 3 (hd { on := 3, ground := .data } (by simp) rfl)).trans (V3 c0 c1)
        have e4 : t 4 = .int .i64 (K : Nat) := (hv 4 (hd { on := 4, ground := .data } (by simp) rfl)).trans (V4 c0 c1)
        have HV := (show Hid (Rg.Vals l (VV c0 c1) t) from hv)
        have HQ := (show Hid (Sp9 v6 es2 S2 ps2 12 14 7 l x c0 c1 w') from HM)
        clear hv hd ho HM
        refine wpOp_step rfl fun K9 hK9 => ?_
        have HKK := (show Hid _ from hK9)
        clear hK9
        go_simp
        go_wp2_with fail
        exact HKK.out _ _ ⟨by simp [hsz], fun j => if j = 5 then (.string (T.extract 0 K) : Value) else t j, x, c0, c1, by simp [e3, e4], HV.out.put 5 _ (V5 _ _).symm, HQ.out.other (by decide) (by decide) (by decide)⟩
      · obtain rfl : _ = op := Option.some.inj (show some _ = some op from ho)
        have HV := (show Hid (Rg.Vals l (VV c0 c1) t) from hv)
        have HQ := (show Hid (Sp9 v6 es2 S2 ps2 12 14 7 l x c0 c1 w') from HM)
        clear hv hd ho HM
        refine wpOp_step rfl fun K9 hK9 => ?_
        have HKK := (show Hid _ from hK9)
        clear hK9
        go_simp
        exact HKK.out _ _ ⟨by simp [hsz], fun j => if j = 6 then (.bool o : Value) else t j, x, c0, c1, by simp, HV.out.put 6 _ (V6 _ _).symm, HQ.out.other (by decide) (by decide) (by decide)⟩
      · obtain rfl : _ = op := Option.some.inj (show some _ = some op from ho)
        have e0 : t 0 = .slice va (prs es).length vc := (hv 0 (hd { on := 0, ground := .data } (by simp) rfl)).trans (V0 c0 c1)
        have e1 : t 1 = .agg #[.string S, .slice pa ps.length pc] := (hv 1 (hd { on := 1, ground := .data } (by simp) rfl)).trans (V1 c0 c1)
        have e2 : t 2 = .int .i64 (q : Nat) := (hv 2 (hd { on := 2, ground := .data } (by simp) rfl)).trans (V2 c0 c1)
        have e5 : t 5 = .string (T.extract 0 K) := (hv 5 (hd { on := 5, ground := .data } (by simp) rfl)).trans (V5 c0 c1)
        have e6 : t 6 = .bool o := (hv 6 (hd { on := 6, ground := .data } (by simp) rfl)).trans (V6 c0 c1)
        have q9 : l.getD 14 false = false := by
          cases q : l.getD 14 false
          · rfl
          · rw [hS7 q] at hnl; cases hnl
        have hbw := HM.bel
        have HV := (show Hid (Rg.Vals l (VV c0 c1) t) from hv)
        have HQ := (show Hid (Sp9 v6 es2 S2 ps2 12 14 7 l x c0 c1 w') from HM)
        clear hv hd ho HM
        refine wpOp_step rfl fun K9 hK9 => ?_
        have HKK := (show Hid _ from hK9)
        clear hK9
        go_simp
        refine (iput_h _ _ es hg (HMX.out.below hbw) S _ ps (HTX.out.below hbw) q hq40 (T.extract 0 K) o (HE.out.below hbw) HG2.out).mono ?_
        rintro e w9 ⟨va9, vc9, pa9, pc9, rfl, hM9, hT9, k9⟩
        refine HKK.out _ _ ⟨by simp [hsz], fun j => if j = 7 then (.tuple #[.slice va9 (prs es2).length vc9, .agg #[.string S2, .slice pa9 ps2.length pc9], .bool true] : Value) else t j, x, .slice va9 (prs es2).length vc9, .agg #[.string S2, .slice pa9 ps2.length pc9], by simp [e0, e1, e2, e5, e6], vals_new HV.out 7 _ (V7 _ _).symm ?_, HQ.out.call (by decide) (by decide) q9 k9 hM9 hT9⟩
        intro j hj hl
        have hjn : j < 16 := by
          rcases Nat.lt_or_ge j l.size with q | q
          · omega
          · rw [Array.getD, dif_neg (by omega)] at hl; cases hl
        have hc : j = 0 ∨ j = 1 ∨ j = 2 ∨ j = 3 ∨ j = 4 ∨ j = 5 ∨ j = 6 ∨ j = 7 ∨ j = 8 ∨ j = 9 ∨ j = 10 ∨ j = 11 ∨ j = 12 ∨ j = 13 ∨ j = 14 ∨ j = 15 := by omega
        rcases hc with rfl | rfl | rfl | rfl | rfl | rfl | rfl | rfl | rfl | rfl | rfl | rfl | rfl | rfl | rfl | rfl
        · rw [V0, V0]
        · rw [V1, V1]
        · rw [V2, V2]
        · rw [V3, V3]
        · rw [V4, V4]
        · rw [V5, V5]
        · rw [V6, V6]
        · exact absurd rfl hj
        · rw [hD8 hl] at hnl; cases hnl
        · rw [hD9 hl] at hnl; cases hnl
        · rw [hD10 hl] at hnl; cases hnl
        · rw [hD11 hl] at hnl; cases hnl
        · rw [V12, V12]
        · rw [hD13 hl] at hnl; cases hnl
        · rw [hD14 hl] at hnl; cases hnl
        · rw [hD15 hl] at hnl; cases hnl
      · obtain rfl : _ = op := Option.some.inj (show some _ = some op from ho)
        have e7 : t 7 = .tuple #[c0, c1, .bool true] := (hv 7 (hd { on := 7, ground := .data } (by simp) rfl)).trans (V7 c0 c1)
        obtain ⟨va9, vc9, pa9, pc9, E0, E1, _, _⟩ := HM.called (hd { on := 7, ground := .data } (by simp) rfl)
        subst E0 E1
        have HV := (show Hid (Rg.Vals l (VV (.slice va9 (prs es2).length vc9) (.agg #[.string S2, .slice pa9 ps2.length pc9])) t) from hv)
        have HQ := (show Hid (Sp9 v6 es2 S2 ps2 12 14 7 l x (.slice va9 (prs es2).length vc9) (.agg #[.string S2, .slice pa9 ps2.length pc9]) w') from HM)
        clear hv hd ho HM
        refine wpOp_step rfl fun K9 hK9 => ?_
        have HKK := (show Hid _ from hK9)
        clear hK9
        rw [e7]
        go_simp
        exact HKK.out _ _ ⟨by simp [hsz], fun j => if j = 8 then (.tuple #[(.slice va9 (prs es2).length vc9), (.agg #[.string S2, .slice pa9 ps2.length pc9]), .bool true] : Value) else t j, x, (.slice va9 (prs es2).length vc9), (.agg #[.string S2, .slice pa9 ps2.length pc9]), by simp [e7], HV.out.put 8 _ (V8 _ _).symm, HQ.out.other (by decide) (by decide) (by decide)⟩
      · obtain rfl : _ = op := Option.some.inj (show some _ = some op from ho)
        have e8 : t 8 = .tuple #[c0, c1, .bool true] := (hv 8 (hd { on := 8, ground := .data } (by simp) rfl)).trans (V8 c0 c1)
        obtain ⟨va9, vc9, pa9, pc9, E0, E1, _, _⟩ := HM.called (hD8 (hd { on := 8, ground := .data } (by simp) rfl))
        subst E0 E1
        have HV := (show Hid (Rg.Vals l (VV (.slice va9 (prs es2).length vc9) (.agg #[.string S2, .slice pa9 ps2.length pc9])) t) from hv)
        have HQ := (show Hid (Sp9 v6 es2 S2 ps2 12 14 7 l x (.slice va9 (prs es2).length vc9) (.agg #[.string S2, .slice pa9 ps2.length pc9]) w') from HM)
        clear hv hd ho HM
        refine wpOp_step rfl fun K9 hK9 => ?_
        have HKK := (show Hid _ from hK9)
        clear hK9
        rw [e8]
        go_simp
        exact HKK.out _ _ ⟨by simp [hsz], fun j => if j = 9 then ((.slice va9 (prs es2).length vc9) : Value) else t j, x, (.slice va9 (prs es2).length vc9), (.agg #[.string S2, .slice pa9 ps2.length pc9]), by simp [e8], HV.out.put 9 _ (V9 _ _).symm, HQ.out.other (by decide) (by decide) (by decide)⟩
      · obtain rfl : _ = op := Option.some.inj (show some _ = some op from ho)
        have e8 : t 8 = .tuple #[c0, c1, .bool true] := (hv 8 (hd { on := 8, ground := .data } (by simp) rfl)).trans (V8 c0 c1)
        obtain ⟨va9, vc9, pa9, pc9, E0, E1, _, _⟩ := HM.called (hD8 (hd { on := 8, ground := .data } (by simp) rfl))
        subst E0 E1
        have HV := (show Hid (Rg.Vals l (VV (.slice va9 (prs es2).length vc9) (.agg #[.string S2, .slice pa9 ps2.length pc9])) t) from hv)
        have HQ := (show Hid (Sp9 v6 es2 S2 ps2 12 14 7 l x (.slice va9 (prs es2).length vc9) (.agg #[.string S2, .slice pa9 ps2.length pc9]) w') from HM)
        clear hv hd ho HM
        refine wpOp_step rfl fun K9 hK9 => ?_
        have HKK := (show Hid _ from hK9)
        clear hK9
        rw [e8]
        go_simp
        exact HKK.out _ _ ⟨by simp [hsz], fun j => if j = 10 then ((.agg #[.string S2, .slice pa9 ps2.length pc9]) : Value) else t j, x, (.slice va9 (prs es2).length vc9), (.agg #[.string S2, .slice pa9 ps2.length pc9]), by simp [e8], HV.out.put 10 _ (V10 _ _).symm, HQ.out.other (by decide) (by decide) (by decide)⟩
      · obtain rfl : _ = op := Option.some.inj (show some _ = some op from ho)
        have e8 : t 8 = .tuple #[c0, c1, .bool true] := (hv 8 (hd { on := 8, ground := .data } (by simp) rfl)).trans (V8 c0 c1)
        obtain ⟨va9, vc9, pa9, pc9, E0, E1, _, _⟩ := HM.called (hD8 (hd { on := 8, ground := .data } (by simp) rfl))
        subst E0 E1
        have HV := (show Hid (Rg.Vals l (VV (.slice va9 (prs es2).length vc9) (.agg #[.string S2, .slice pa9 ps2.length pc9])) t) from hv)
        have HQ := (show Hid (Sp9 v6 es2 S2 ps2 12 14 7 l x (.slice va9 (prs es2).length vc9) (.agg #[.string S2, .slice pa9 ps2.length pc9]) w') from HM)
        clear hv hd ho HM
        refine wpOp_step rfl fun K9 hK9 => ?_
        have HKK := (show Hid _ from hK9)
        clear hK9
        rw [e8]
        go_simp
        exact HKK.out _ _ ⟨by simp [hsz], fun j => if j = 11 then (.bool true : Value) else t j, x, (.slice va9 (prs es2).length vc9), (.agg #[.string S2, .slice pa9 ps2.length pc9]), by simp [e8], HV.out.put 11 _ (V11 _ _).symm, HQ.out.other (by decide) (by decide) (by decide)⟩
      · obtain rfl : _ = op := Option.some.inj (show some _ = some op from ho)
        have q9 : l.getD 14 false = false := by
          cases q : l.getD 14 false
          · rfl
          · rw [hS12 q] at hnl; cases hnl
        have HV := (show Hid (Rg.Vals l (VV c0 c1) t) from hv)
        have HQ := (show Hid (Sp9 v6 es2 S2 ps2 12 14 7 l x c0 c1 w') from HM)
        clear hv hd ho HM
        refine wpOp_step rfl fun K9 hK9 => ?_
        have HKK := (show Hid _ from hK9)
        clear hK9
        go_simp
        exact HKK.out _ _ ⟨by simp [hsz], fun j => if j = 12 then (undef : Value) else t j, _, c0, c1, by simp, HV.out.put 12 _ (V12 _ _).symm, HQ.out.make (by omega) (by decide) (by decide) q9⟩
      · obtain rfl : _ = op := Option.some.inj (show some _ = some op from ho)
        have e9 : t 9 = c0 := (hv 9 (hd { on := 9, ground := .data } (by simp) rfl)).trans (V9 c0 c1)
        obtain ⟨va9, vc9, pa9, pc9, E0, E1, _, _⟩ := HM.called (hD9 (hd { on := 9, ground := .data } (by simp) rfl))
        subst E0 E1
        have HV := (show Hid (Rg.Vals l (VV (.slice va9 (prs es2).length vc9) (.agg #[.string S2, .slice pa9 ps2.length pc9])) t) from hv)
        have HQ := (show Hid (Sp9 v6 es2 S2 ps2 12 14 7 l x (.slice va9 (prs es2).length vc9) (.agg #[.string S2, .slice pa9 ps2.length pc9]) w') from HM)
        clear hv hd ho HM
        refine wpOp_step rfl fun K9 hK9 => ?_
        have HKK := (show Hid _ from hK9)
        clear hK9
        rw [e9]
        go_simp
        exact HKK.out _ _ ⟨by simp [hsz], fun j => if j = 13 then ((.slice va9 (prs es2).length vc9) : Value) else t j, x, (.slice va9 (prs es2).length vc9), (.agg #[.string S2, .slice pa9 ps2.length pc9]), by simp [e9], HV.out.put 13 _ (V13 _ _).symm, HQ.out.other (by decide) (by decide) (by decide)⟩
      · obtain rfl : _ = op := Option.some.inj (show some _ = some op from ho)
        have e10 : t 10 = c1 := (hv 10 (hd { on := 10, ground := .data } (by simp) rfl)).trans (V10 c0 c1)
        have q9 : l.getD 14 false = false := by
          cases q : l.getD 14 false
          · rfl
          · rw [q] at hnl; cases hnl
        obtain ⟨va9, vc9, pa9, pc9, E0, E1, _, _⟩ := HM.called (hD10 (hd { on := 10, ground := .data } (by simp) rfl))
        subst E0 E1
        obtain ⟨gg, rfl, hgg, m1, _⟩ := HM.made (hd { on := 12, ground := .data } (by simp) rfl)
        have m2 := m1 q9
        have s0 : w'.cell? ⟨gg, 0, none⟩ = some (.string ⟨#[]⟩) := by unfold World.cell?; rw [m2]; rfl
        have s1 : w'.cell? ⟨gg, 1, none⟩ = some (.slice none 0 0) := by unfold World.cell?; rw [m2]; rfl
        have sf : ∀ j, w'.frozen? ⟨gg, j, none⟩ = false := fun j => by unfold World.frozen?; rw [m2]; simp
        have HM2 := (show Hid (w'.heap[gg]? = some (.cells #[.string ⟨#[]⟩, .slice none 0 0] 26 (0, 0))) from m2)
        clear m1 m2
        have HV := (show Hid (Rg.Vals l (VV (.slice va9 (prs es2).length vc9) (.agg #[.string S2, .slice pa9 ps2.length pc9])) t) from hv)
        have HQ := (show Hid (Sp9 v6 es2 S2 ps2 12 14 7 l (.pointer (some ⟨gg, 0, none⟩)) (.slice va9 (prs es2).length vc9) (.agg #[.string S2, .slice pa9 ps2.length pc9]) w') from HM)
        clear hv hd ho HM
        refine wpOp_step rfl fun K9 hK9 => ?_
        have HKK := (show Hid _ from hK9)
        clear hK9
        go_simp
        exact HKK.out _ _ ⟨by simp [hsz], fun j => if j = 14 then (undef : Value) else t j, _, _, _, by simp [e10], HV.out.put 14 _ (V14 _ _).symm, HQ.out.put (by omega) (by decide) (by decide) rfl hgg HM2.out rfl⟩
      · obtain rfl : _ = op := Option.some.inj (show some _ = some op from ho)
        have e11 : t 11 = .bool true := (hv 11 (hd { on := 11, ground := .data } (by simp) rfl)).trans (V11 c0 c1)
        obtain ⟨va9, vc9, pa9, pc9, E0, E1, _, _⟩ := HM.called (hD11 (hd { on := 11, ground := .data } (by simp) rfl))
        subst E0 E1
        have HV := (show Hid (Rg.Vals l (VV (.slice va9 (prs es2).length vc9) (.agg #[.string S2, .slice pa9 ps2.length pc9])) t) from hv)
        have HQ := (show Hid (Sp9 v6 es2 S2 ps2 12 14 7 l x (.slice va9 (prs es2).length vc9) (.agg #[.string S2, .slice pa9 ps2.length pc9]) w') from HM)
        clear hv hd ho HM
        refine wpOp_step rfl fun K9 hK9 => ?_
        have HKK := (show Hid _ from hK9)
        clear hK9
        rw [e11]
        go_simp
        exact HKK.out _ _ ⟨by simp [hsz], fun j => if j = 15 then (.bool true : Value) else t j, x, (.slice va9 (prs es2).length vc9), (.agg #[.string S2, .slice pa9 ps2.length pc9]), by simp [e11], HV.out.put 15 _ (V15 _ _).symm, HQ.out.other (by decide) (by decide) (by decide)⟩
    case fin =>
      rintro l a' r9 ⟨hsz, t, x, c0, c1, rfl, hv, HM⟩ hall
      have kR := HM.bel
      obtain ⟨R, hxU, hUg, _, mU0⟩ := HM.made (hall 12 (by simp))
      obtain ⟨sb, sd, E1', mU⟩ := mU0 (hall 14 (by simp))
      obtain ⟨sa, sc, pR, qR, E0, E1, hM9, hT9⟩ := HM.called (hall 7 (by simp))
      obtain ⟨rfl, rfl⟩ : pR = sb ∧ qR = sd := by rw [E1] at E1'; simpa using E1'
      subst E0
      clear mU0
      clear E1'
      subst E1
      subst hxU
      have z13 := (hv 13 (hall 13 (by simp))).trans (V13 _ _)
      have z15 := (hv 15 (hall 15 (by simp))).trans (V15 _ _)
      rw [z13, z15]
      have cR0 : r9.cell? ⟨R, 0, none⟩ = some (.string S2) := by simp [World.cell?, mU]
      have cR1 : r9.cell? ⟨R, 1, none⟩ = some (.slice pR ps2.length qR) := by simp [World.cell?, mU]
      have hR : R < r9.heap.size := (Array.getElem?_eq_some_iff.1 mU).1
      have HMR := (show Hid (IsM r9 (.slice sa (prs es2).length sc) (prs es2)) from hM9)
      have HTR := (show Hid (IsT r9 (.slice pR ps2.length qR) ps2) from hT9)
      clear hM9 hT9 mU hv hall HM hUg z13 z15 V0 V1 V2 V3 V4 V5 V6 V7 V8 V9 V10 V11 V12 V13 V14 V15
      replace cX0 := (kR.cell (p := ⟨X, 0, none⟩) hX).trans cX0
      replace cX1 := (kR.cell (p := ⟨X, 1, none⟩) hX).trans cX1
      replace cY0 := (kR.cell (p := ⟨Y, 0, none⟩) hY).trans cY0
      replace cY1 := (kR.cell (p := ⟨Y, 1, none⟩) hY).trans cY1
      replace cZ0 := (kR.cell (p := ⟨Z, 0, none⟩) hZ).trans cZ0
      replace cZ1 := (kR.cell (p := ⟨Z, 1, none⟩) hZ).trans cZ1
      replace hX : X < r9.heap.size := Nat.lt_of_lt_of_le hX kR.size
      replace hY : Y < r9.heap.size := Nat.lt_of_lt_of_le hY kR.size
      replace hZ : Z < r9.heap.size := Nat.lt_of_lt_of_le hZ kR.size
      replace HMX := (show Hid (IsM r9 (.slice va (prs es).length vc) (prs es)) from HMX.out.below kR)
      replace HTX := (show Hid (IsT r9 (.slice pa ps.length pc) ps) from HTX.out.below kR)
      replace HMY := (show Hid (IsM r9 (.slice ya (prs es1).length yc) (prs es1)) from HMY.out.below kR)
      replace HTY := (show Hid (IsT r9 (.slice yb ps1.length yd) ps1) from HTY.out.below kR)
      replace HMZ := (show Hid (IsM r9 (.slice za (prs es1).length zc) (prs es1)) from HMZ.out.below kR)
      replace HTZ := (show Hid (IsT r9 (.slice zb ps1.length zd) ps1) from HTZ.out.below kR)
      replace HE := (show Hid (Errs r9) from HE.out.below kR)
      replace HB := (show Hid (Below w.heap.size w r9) from HB.out.trans (kR.mono HB.out.size))
      clear kR
      have hqK := HQK.out
      have hqK' := HQK'.out
      have hmix : Tryz.prog.follows .mixedOrders = true := by kernel_rfl
      obtain ⟨VV, hVV⟩ : ∃ VV : Value → Value → Nat → Value, VV = fun c0 c1 j => [(.slice sa (prs es2).length sc : Value), .agg #[.string S2, .slice pR ps2.length qR], .int .i64 (q : Nat), .int .i64 (K : Nat), .int .i64 (M : Nat), .string T, .int .i64 (K : Nat), .string (T.extract K T.size), .bool o, .tuple #[c0, c1, .bool true], .tuple #[c0, c1, .bool true], c0, c1, .bool true, undef, c0, undef, .bool true].getD j undef := ⟨_, rfl⟩
      have V0 : ∀ c0 c1, VV c0 c1 0 = .slice sa (prs es2).length sc := fun _ _ => by rw [hVV]; rfl
      have V1 : ∀ c0 c1, VV c0 c1 1 = .agg #[.string S2, .slice pR ps2.length qR] := fun _ _ => by rw [hVV]; rfl
      have V2 : ∀ c0 c1, VV c0 c1 2 = .int .i64 (q : Nat) := fun _ _ => by rw [hVV]; rfl
      have V3 : ∀ c0 c1, VV c0 c1 3 = .int .i64 (K : Nat) := fun _ _ => by rw [hVV]; rfl
      have V4 : ∀ c0 c1, VV c0 c1 4 = .int .i64 (M : Nat) := fun _ _ => by rw [hVV]; rfl
      have V5 : ∀ c0 c1, VV c0 c1 5 = .string T := fun _ _ => by rw [hVV]; rfl
      have V6 : ∀ c0 c1, VV c0 c1 6 = .int .i64 (K : Nat) := fun _ _ => by rw [hVV]; rfl
      have V7 : ∀ c0 c1, VV c0 c1 7 = .string (T.extract K T.size) := fun _ _ => by rw [hVV]; rfl
      have V8 : ∀ c0 c1, VV c0 c1 8 = .bool o := fun _ _ => by rw [hVV]; rfl
      have V9 : ∀ c0 c1, VV c0 c1 9 = .tuple #[c0, c1, .bool true] := fun _ _ => by rw [hVV]; rfl
      have V10 : ∀ c0 c1, VV c0 c1 10 = .tuple #[c0, c1, .bool true] := fun _ _ => by rw [hVV]; rfl
      have V11 : ∀ c0 c1, VV c0 c1 11 = c0 := fun _ _ => by rw [hVV]; rfl
      have V12 : ∀ c0 c1, VV c0 c1 12 = c1 := fun _ _ => by rw [hVV]; rfl
      have V13 : ∀ c0 c1, VV c0 c1 13 = .bool true := fun _ _ => by rw [hVV]; rfl
      have V14 : ∀ c0 c1, VV c0 c1 14 = undef := fun _ _ => by rw [hVV]; rfl
      have V15 : ∀ c0 c1, VV c0 c1 15 = c0 := fun _ _ => by rw [hVV]; rfl
      have V16 : ∀ c0 c1, VV c0 c1 16 = undef := fun _ _ => by rw [hVV]; rfl
      have V17 : ∀ c0 c1, VV c0 c1 17 = .bool true := fun _ _ => by rw [hVV]; rfl
      clear hVV
      go_upto_region 10 with fail
      refine wp_region_any hmix ?_
      refine Ri.any_inv (I := fun l a' w' => l.size = 18 ∧ ∃ (t2 : Nat → Value) (x c0 c1 : Value), a' = { tmps := #[(Value.slice a0 len0 cap0 : Value), Value.slice a1 len1 cap1, undef, undef, Value.bool false, Value.slice va (prs es).length vc, Value.pointer (some { block := X, off := 0 }), Value.int IntKind.i64 ↑q, Value.string T, Value.bool o, Value.slice ya (prs es1).length yc, Value.pointer (some { block := Y, off := 0 }), Value.bool true, Value.slice za (prs es1).length zc, Value.pointer (some { block := Z, off := 0 }), Value.bool true, Value.int IntKind.i64 ↑K, Value.slice sa (prs es2).length sc, Value.pointer (some { block := R, off := 0 }), Value.bool true, t2 15, x, t2 17, Value.slice a0 len0 cap0, Value.int IntKind.i64 ↑len0, Value.bool (decide ((1048576 : Int) < (len0 : Int))), Value.bool (decide ((1048576 : Int) < (len0 : Int))), Value.slice a1 len1 cap1, Value.int IntKind.i64 ↑len1, Value.bool (decide ((1048576 : Int) < (len1 : Int))), Value.bool (decide ((1048576 : Int) < (len0 : Int)) || decide ((1048576 : Int) < (len1 : Int))), Value.tuple #[Value.slice va (prs es).length vc, Value.agg #[Value.string S, Value.slice pa ps.length pc], Value.int IntKind.i64 ↑q, Value.string T, Value.bool o], Value.slice a0 len0 cap0, Value.tuple #[Value.slice va (prs es).length vc, Value.agg #[Value.string S, Value.slice pa ps.length pc], Value.int IntKind.i64 ↑q, Value.string T, Value.bool o], Value.slice va (prs es).length vc, Value.agg #[Value.string S, Value.slice pa ps.length pc], Value.int IntKind.i64 ↑q, Value.string T, Value.bool o, Value.tuple #[Value.slice ya (prs es1).length yc, Value.agg #[Value.string S1, Value.slice yb ps1.length yd], Value.bool true], Value.slice va (prs es).length vc, Value.agg #[Value.string S, Value.slice pa ps.length pc], Value.int IntKind.i64 ↑q, Value.string T, Value.bool o, Value.tuple #[Value.slice ya (prs es1).length yc, Value.agg #[Value.string S1, Value.slice yb ps1.length yd], Value.bool true], Value.slice ya (prs es1).length yc, Value.agg #[Value.string S1, Value.slice yb ps1.length yd], Value.bool true, Value.tuple #[Value.slice za (prs es1).length zc, Value.agg #[Value.string S1, Value.slice zb ps1.length zd], Value.bool true], Value.slice va (prs es).length vc, Value.agg #[Value.string S, Value.slice pa ps.length pc], Value.int IntKind.i64 ↑q, Value.string T, Value.bool o, Value.tuple #[Value.slice za (prs es1).length zc, Value.agg #[Value.string S1, Value.slice zb ps1.length zd], Value.bool true], Value.slice za (prs es1).length zc, Value.agg #[Value.string S1, Value.slice zb ps1.length zd], Value.bool true, Value.bool true, Value.bool true, Value.bool false, Value.bool false, Value.agg #[Value.string S1, Value.slice zb ps1.length zd], Value.agg #[Value.string S1, Value.slice yb ps1.length yd], Value.bool true, Value.bool false, Value.bool false, Value.bool false, Value.slice za (prs es1).length zc, Value.slice ya (prs es1).length yc, Value.bool true, Value.bool false, Value.bool false, Value.bool false, Value.bool true, Value.bool false, Value.bool false, undef, undef, undef, undef, undef, undef, undef, undef, undef, undef, undef, undef, undef, Value.slice a1 len1 cap1, Value.int IntKind.i64 ↑len1, Value.string T, Value.int IntKind.i64 ↑T.size, Value.int IntKind.i64 (↑T.size + 1), Value.int IntKind.i64 ↑K, t 8, t 0, t 1, t 2, t 3, t 4, t 5, t 6, t 7, t 9, t 10, t 11, t2 10, t2 0, t2 1, t2 2, t2 3, t2 4, t2 5, t2 6, t2 7, t2 8, t2 9, t2 11, t2 12, t2 13, undef, undef, undef, undef, undef, undef, undef, undef, undef, undef, undef, undef, undef, undef], defers := [] } ∧ Rg.Vals l (VV c0 c1) t2 ∧ Sp9 r9 es1 S1 ps1 14 16 9 l x c0 c1 w') ?sz ?low ?step ?fin _ _ _ _ ?start (Ri.closed_none _ _ _) (Rg.left_all _)
      case sz => exact fun l a' w' h => h.1
      case start => exact ⟨by simp, fun j => ([undef, undef, undef, undef, undef, undef, undef, undef, undef, undef, undef, undef, undef, undef, undef, undef, undef, undef] : List Value).getD j undef, undef, undef, undef, rfl, Rg.vals_none _ _ _, Sp9.start _ (Below.refl _ _).drew⟩
      case low => exact Ri.low_of (by kernel_rfl)
      case step =>
        rintro l a' w' i ⟨hsz, t2, x, c0, c1, rfl, hv, HM⟩ hcl hi
        obtain ⟨h0, op, ho, hd⟩ := mem_ready.1 hi
        have hin : i < 18 := (Array.getElem?_eq_some_iff.1 ho).1
        have hnl := Rg.not_listed h0
        have hS9 : l.getD 16 false = true → l.getD 9 false = true := fun h => Ri.reach_sound hcl 10 16 9 (by kernel_rfl) h
        have hS14 : l.getD 16 false = true → l.getD 14 false = true := fun h => Ri.reach_sound hcl 10 16 14 (by kernel_rfl) h
        have hD10 : l.getD 10 false = true → l.getD 9 false = true := fun h => Ri.reach_sound hcl 10 10 9 (by kernel_rfl) h
        have hD11 : l.getD 11 false = true → l.getD 9 false = true := fun h => Ri.reach_sound hcl 10 11 9 (by kernel_rfl) h
        have hD12 : l.getD 12 false = true → l.getD 9 false = true := fun h => Ri.reach_sound hcl 10 12 9 (by kernel_rfl) h
        have hD13 : l.getD 13 false = true → l.getD 9 false = true := fun h => Ri.reach_sound hcl 10 13 9 (by kernel_rfl) h
        have hD15 : l.getD 15 false = true → l.getD 9 false = true := fun h => Ri.reach_sound hcl 10 15 9 (by kernel_rfl) h
        have hD16 : l.getD 16 false = true → l.getD 9 false = true := fun h => Ri.reach_sound hcl 10 16 9 (by kernel_rfl) h
        have hD17 : l.getD 17 false = true → l.getD 9 false = true := fun h => Ri.reach_sound hcl 10 17 9 (by kernel_rfl) h
        clear h0 hi hcl
        have hc : i = 0 ∨ i = 1 ∨ i = 2 ∨ i = 3 ∨ i = 4 ∨ i = 5 ∨ i = 6 ∨ i = 7 ∨ i = 8 ∨ i = 9 ∨ i = 10 ∨ i = 11 ∨ i = 12 ∨ i = 13 ∨ i = 14 ∨ i = 15 ∨ i = 16 ∨ i = 17 := by omega
        rcases hc with rfl | rfl | rfl | rfl | rfl | rfl | rfl | rfl | rfl | rfl | rfl | rfl | rfl | rfl | rfl | rfl | rfl | rfl
        · obtain rfl : _ = op := Option.some.inj (show some _ = some op from ho)
          have HV := (show Hid (Rg.Vals l (VV c0 c1) t2) from hv)
          have HQ := (show Hid (Sp9 r9 es1 S1 ps1 14 16 9 l x c0 c1 w') from HM)
          clear hv hd ho HM
          refine wpOp_step rfl fun K9 hK9 => ?_
          have HKK := (show Hid _ from hK9)
          clear hK9
          go_simp
          exact HKK.out _ _ ⟨by simp [hsz], fun j => if j = 0 then (.slice sa (prs es2).length sc : Value) else t2 j, x, c0, c1, by simp, HV.out.put 0 _ (V0 _ _).symm, HQ.out.other (by decide) (by decide) (by decide)⟩
        · obtain rfl : _ = op := Option.some.inj (show some _ = some op from ho)
          have HW := (show Hid (Below r9.heap.size r9 w') from HM.bel)
          have y0 : w'.cell? ⟨R, 0, none⟩ = some (.string S2) := (HW.out.cell (p := ⟨R, 0, none⟩) hR).trans cR0
          have y1 : w'.cell? ⟨R, 1, none⟩ = some (.slice pR ps2.length qR) := (HW.out.cell (p := ⟨R, 1, none⟩) hR).trans cR1
          have HV := (show Hid (Rg.Vals l (VV c0 c1) t2) from hv)
          have HQ := (show Hid (Sp9 r9 es1 S1 ps1 14 16 9 l x c0 c1 w') from HM)
          clear hv hd ho HM
          refine wpOp_step rfl fun K9 hK9 => ?_
          have HKK := (show Hid _ from hK9)
          clear hK9
          go_simp
          exact HKK.out _ _ ⟨by simp [hsz], fun j => if j = 1 then (.agg #[.string S2, .slice pR ps2.length qR] : Value) else t2 j, x, c0, c1, by simp, HV.out.put 1 _ (V1 _ _).symm, HQ.out.other (by decide) (by decide) (by decide)⟩
        · obtain rfl : _ = op := Option.some.inj (show some _ = some op from ho)
          have HV := (show Hid (Rg.Vals l (VV c0 c1) t2) from hv)
          have HQ := (show Hid (Sp9 r9 es1 S1 ps1 14 16 9 l x c0 c1 w') from HM)
          clear hv hd ho HM
          refine wpOp_step rfl fun K9 hK9 => ?_
          have HKK := (show Hid _ from hK9)
          clear hK9
          go_simp
          exact HKK.out _ _ ⟨by simp [hsz], fun j => if j = 2 then (.int .i64 (q : Nat) : Value) else t2 j, x, c0, c1, by simp, HV.out.put 2 _ (V2 _ _).symm, HQ.out.other (by decide) (by decide) (by decide)⟩
        · obtain rfl : _ = op := Option.some.inj (show some _ = some op from ho)
          have HV := (show Hid (Rg.Vals l (VV c0 c1) t2) from hv)
          have HQ := (show Hid (Sp9 r9 es1 S1 ps1 14 16 9 l x c0 c1 w') from HM)
          clear hv hd ho HM
          refine wpOp_step rfl fun K9 hK9 => ?_
          have HKK := (show Hid _ from hK9)
          clear hK9
          go_simp
          exact HKK.out _ _ ⟨by simp [hsz], fun j => if j = 3 then (.int .i64 (K : Nat) : Value) else t2 j, x, c0, c1, by simp, HV.out.put 3 _ (V3 _ _).symm, HQ.out.other (by decide) (by decide) (by decide)⟩
        · obtain rfl : _ = op := Option.some.inj (show some _ = some op from ho)
          have e2 : t2 2 = .int .i64 (q : Nat) := (hv 2 (hd { on := 2, ground := .data } (by simp) rfl)).trans (V2 c0 c1)
          have e3 : t2 3 = .int .i64 (K : Nat) := (hv 3 (hd { on := 3, ground := .data } (by simp) rfl)).trans (V3 c0 c1)
          have HV := (show Hid (Rg.Vals l (VV c0 c1) t2) from hv)
          have HQ := (show Hid (Sp9 r9 es1 S1 ps1 14 16 9 l x c0 c1 w') from HM)
          clear hv hd ho HM
          refine wpOp_step rfl fun K9 hK9 => ?_
          have HKK := (show Hid _ from hK9)
          clear hK9
          go_simp
          exact HKK.out _ _ ⟨by simp [hsz], fun j => if j = 4 then (.int .i64 (M : Nat) : Value) else t2 j, x, c0, c1, by simp [e2, e3], HV.out.put 4 _ (V4 _ _).symm, HQ.out.other (by decide) (by decide) (by decide)⟩
        · obtain rfl : _ = op := Option.some.inj (show some _ = some op from ho)
          have HV := (show Hid (Rg.Vals l (VV c0 c1) t2) from hv)
          have HQ := (show Hid (Sp9 r9 es1 S1 ps1 14 16 9 l x c0 c1 w') from HM)
          clear hv hd ho HM
          refine wpOp_step rfl fun K9 hK9 => ?_
          have HKK := (show Hid _ from hK9)
          clear hK9
          go_simp
          exact HKK.out _ _ ⟨by simp [hsz], fun j => if j = 5 then (.string T : Value) else t2 j, x, c0, c1, by simp, HV.out.put 5 _ (V5 _ _).symm, HQ.out.other (by decide) (by decide) (by decide)⟩
        · obtain rfl : _ = op := Option.some.inj (show some _ = some op from ho)
          have HV := (show Hid (Rg.Vals l (VV c0 c1) t2) from hv)
          have HQ := (show Hid (Sp9 r9 es1 S1 ps1 14 16 9 l x c0 c1 w') from HM)
          clear hv hd ho HM
          refine wpOp_step rfl fun K9 hK9 => ?_
          have HKK := (show Hid _ from hK9)
          clear hK9
          go_simp
          exact HKK.out _ _ ⟨by simp [hsz], fun j => if j = 6 then (.int .i64 (K : Nat) : Value) else t2 j, x, c0, c1, by simp, HV.out.put 6 _ (V6 _ _).symm, HQ.out.other (by decide) (by decide) (by decide)⟩
        · obtain rfl : _ = op := Option.some.inj (show some _ = some op from ho)
          have e5 : t2 5 = .string T := (hv 5 (hd { on := 5, ground := .data } (by simp) rfl)).trans (V5 c0 c1)
          have e6 : t2 6 = .int .i64 (K : Nat) := (hv 6 (hd { on := 6, ground := .data } (by simp) rfl)).trans (V6 c0 c1)
          have HV := (show Hid (Rg.Vals l (VV c0 c1) t2) from hv)
          have HQ := (show Hid (Sp9 r9 es1 S1 ps1 14 16 9 l x c0 c1 w') from HM)
          clear hv hd ho HM
          refine wpOp_step rfl fun K9 hK9 => ?_
          have HKK := (show Hid _ from hK9)
          clear hK9
          go_simp
          go_wp2_with fail
          exact HKK.out _ _ ⟨by simp [hsz], fun j => if j = 7 then (.string (T.extract K T.size) : Value) else t2 j, x, c0, c1, by simp [e5, e6], HV.out.put 7 _ (V7 _ _).symm, HQ.out.other (by decide) (by decide) (by decide)⟩
        · obtain rfl : _ = op := Option.some.inj (show some _ = some op from ho)
          have HV := (show Hid (Rg.Vals l (VV c0 c1) t2) from hv)
          have HQ := (show Hid (Sp9 r9 es1 S1 ps1 14 16 9 l x c0 c1 w') from HM)
          clear hv hd ho HM
          refine wpOp_step rfl fun K9 hK9 => ?_
          have HKK := (show Hid _ from hK9)
          clear hK9
          go_simp
          exact HKK.out _ _ ⟨by simp [hsz], fun j => if j = 8 then (.bool o : Value) else t2 j, x, c0, c1, by simp, HV.out.put 8 _ (V8 _ _).symm, HQ.out.other (by decide) (by decide) (by decide)⟩
        · obtain rfl : _ = op := Option.some.inj (show some _ = some op from ho)
          have e0 : t2 0 = .slice sa (prs es2).length sc := (hv 0 (hd { on := 0, ground := .data } (by simp) rfl)).trans (V0 c0 c1)
          have e1 : t2 1 = .agg #[.string S2, .slice pR ps2.length qR] := (hv 1 (hd { on := 1, ground := .data } (by simp) rfl)).trans (V1 c0 c1)
          have e4 : t2 4 = .int .i64 (M : Nat) := (hv 4 (hd { on := 4, ground := .data } (by simp) rfl)).trans (V4 c0 c1)
          have e7 : t2 7 = .string (T.extract K T.size) := (hv 7 (hd { on := 7, ground := .data } (by simp) rfl)).trans (V7 c0 c1)
          have e8 : t2 8 = .bool o := (hv 8 (hd { on := 8, ground := .data } (by simp) rfl)).trans (V8 c0 c1)
          have q9 : l.getD 16 false = false := by
            cases q : l.getD 16 false
            · rfl
            · rw [hS9 q] at hnl; cases hnl
          have hbw := HM.bel
          have HV := (show Hid (Rg.Vals l (VV c0 c1) t2) from hv)
          have HQ := (show Hid (Sp9 r9 es1 S1 ps1 14 16 9 l x c0 c1 w') from HM)
          clear hv hd ho HM
          refine wpOp_step rfl fun K9 hK9 => ?_
          have HKK := (show Hid _ from hK9)
          clear hK9
          go_simp
          refine (iput_h _ _ es2 hg2 (HMR.out.below hbw) S2 _ ps2 (HTR.out.below hbw) M hM40 (T.extract K T.size) o (HE.out.below hbw) HG3.out).mono ?_
          rintro e w9 ⟨va9, vc9, pa9, pc9, rfl, hM9, hT9, k9⟩
          refine HKK.out _ _ ⟨by simp [hsz], fun j => if j = 9 then (.tuple #[.slice va9 (prs es1).length vc9, .agg #[.string S1, .slice pa9 ps1.length pc9], .bool true] : Value) else t2 j, x, .slice va9 (prs es1).length vc9, .agg #[.string S1, .slice pa9 ps1.length pc9], by simp [e0, e1, e4, e7, e8], vals_new HV.out 9 _ (V9 _ _).symm ?_, HQ.out.call (by decide) (by decide) q9 k9 hM9 hT9⟩
          intro j hj hl
          have hjn : j < 18 := by
            rcases Nat.lt_or_ge j l.size with q | q
            · omega
            · rw [Array.getD, dif_neg (by omega)] at hl; cases hl
          have hc : j = 0 ∨ j = 1 ∨ j = 2 ∨ j = 3 ∨ j = 4 ∨ j = 5 ∨ j = 6 ∨ j = 7 ∨ j = 8 ∨ j = 9 ∨ j = 10 ∨ j = 11 ∨ j = 12 ∨ j = 13 ∨ j = 14 ∨ j = 15 ∨ j = 16 ∨ j = 17 := by omega
          rcases hc with rfl | rfl | rfl | rfl | rfl | rfl | rfl | rfl | rfl | rfl | rfl | rfl | rfl | rfl | rfl | rfl | rfl | rfl
          · rw [V0, V0]
          · rw [V1, V1]
          · rw [V2, V2]
          · rw [V3, V3]
          · rw [V4, V4]
          · rw [V5, V5]
          · rw [V6, V6]
          · rw [V7, V7]
          · rw [V8, V8]
          · exact absurd rfl hj
          · rw [hD10 hl] at hnl; cases hnl
          · rw [hD11 hl] at hnl; cases hnl
          · rw [hD12 hl] at hnl; cases hnl
          · rw [hD13 hl] at hnl; cases hnl
          · rw [V14, V14]
          · rw [hD15 hl] at hnl; cases hnl
          · rw [hD16 hl] at hnl; cases hnl
          · rw [hD17 hl] at hnl; cases hnl
        · obtain rfl : _ = op := Option.some.inj (show some _ = some op from ho)
          have e9 : t2 9 = .tuple #[c0, c1, .bool true] := (hv 9 (hd { on := 9, ground := .data } (by simp) rfl)).trans (V9 c0 c1)
          obtain ⟨va9, vc9, pa9, pc9, E0, E1, _, _⟩ := HM.called (hd { on := 9, ground := .data } (by simp) rfl)
          subst E0 E1
          have HV := (show Hid (Rg.Vals l (VV (.slice va9 (prs es1).length vc9) (.agg #[.string S1, .slice pa9 ps1.length pc9])) t2) from hv)
          have HQ := (show Hid (Sp9 r9 es1 S1 ps1 14 16 9 l x (.slice va9 (prs es1).length vc9) (.agg #[.string S1, .slice pa9 ps1.length pc9]) w') from HM)
          clear hv hd ho HM
          refine wpOp_step rfl fun K9 hK9 => ?_
          have HKK := (show Hid _ from hK9)
          clear hK9
          rw [e9]
          go_simp
          exact HKK.out _ _ ⟨by simp [hsz], fun j => if j = 10 then (.tuple #[(.slice va9 (prs es1).length vc9), (.agg #[.string S1, .slice pa9 ps1.length pc9]), .bool true] : Value) else t2 j, x, (.slice va9 (prs es1).length vc9), (.agg #[.string S1, .slice pa9 ps1.length pc9]), by simp [e9], HV.out.put 10 _ (V10 _ _).symm, HQ.out.other (by decide) (by decide) (by decide)⟩
        · obtain rfl : _ = op := Option.some.inj (show some _ = some op from ho)
          have e10 : t2 10 = .tuple #[c0, c1, .bool true] := (hv 10 (hd { on := 10, ground := .data } (by simp) rfl)).trans (V10 c0 c1)
          obtain ⟨va9, vc9, pa9, pc9, E0, E1, _, _⟩ := HM.called (hD10 (hd { on := 10, ground := .data } (by simp) rfl))
          subst E0 E1
          have HV := (show Hid (Rg.Vals l (VV (.slice va9 (prs es1).length vc9) (.agg #[.string S1, .slice pa9 ps1.length pc9])) t2) from hv)
          have HQ := (show Hid (Sp9 r9 es1 S1 ps1 14 16 9 l x (.slice va9 (prs es1).length vc9) (.agg #[.string S1, .slice pa9 ps1.length pc9]) w') from HM)
          clear hv hd ho HM
          refine wpOp_step rfl fun K9 hK9 => ?_
          have HKK := (show Hid _ from hK9)
          clear hK9
          rw [e10]
          go_simp
          exact HKK.out _ _ ⟨by simp [hsz], fun j => if j = 11 then ((.slice va9 (prs es1).length vc9) : Value) else t2 j, x, (.slice va9 (prs es1).length vc9), (.agg #[.string S1, .slice pa9 ps1.length pc9]), by simp [e10], HV.out.put 11 _ (V11 _ _).symm, HQ.out.other (by decide) (by decide) (by decide)⟩
        · obtain rfl : _ = op := Option.some.inj (show some _ = some op from ho)
          have e10 : t2 10 = .tuple #[c0, c1, .bool true] := (hv 10 (hd { on := 10, ground := .data } (by simp) rfl)).trans (V10 c0 c1)
          obtain ⟨va9, vc9, pa9, pc9, E0, E1, _, _⟩ := HM.called (hD10 (hd { on := 10, ground := .data } (by simp) rfl))
          subst E0 E1
          have HV := (show Hid (Rg.Vals l (VV (.slice va9 (prs es1).length vc9) (.agg #[.string S1, .slice pa9 ps1.length pc9])) t2) from hv)
          have HQ := (show Hid (Sp9 r9 es1 S1 ps1 14 16 9 l x (.slice va9 (prs es1).length vc9) (.agg #[.string S1, .slice pa9 ps1.length pc9]) w') from HM)
          clear hv hd ho HM
          refine wpOp_step rfl fun K9 hK9 => ?_
          have HKK := (show Hid _ from hK9)
          clear hK9
          rw [e10]
          go_simp
          exact HKK.out _ _ ⟨by simp [hsz], fun j => if j = 12 then ((.agg #[.string S1, .slice pa9 ps1.length pc9]) : Value) else t2 j, x, (.slice va9 (prs es1).length vc9), (.agg #[.string S1, .slice pa9 ps1.length pc9]), by simp [e10], HV.out.put 12 _ (V12 _ _).symm, HQ.out.other (by decide) (by decide) (by decide)⟩
        · obtain rfl : _ = op := Option.some.inj (show some _ = some op from ho)
          have e10 : t2 10 = .tuple #[c0, c1, .bool true] := (hv 10 (hd { on := 10, ground := .data } (by simp) rfl)).trans (V10 c0 c1)
          obtain ⟨va9, vc9, pa9, pc9, E0, E1, _, _⟩ := HM.called (hD10 (hd { on := 10, ground := .data } (by simp) rfl))
          subst E0 E1
          have HV := (show Hid (Rg.Vals l (VV (.slice va9 (prs es1).length vc9) (.agg #[.string S1, .slice pa9 ps1.length pc9])) t2) from hv)
          have HQ := (show Hid (Sp9 r9 es1 S1 ps1 14 16 9 l x (.slice va9 (prs es1).length vc9) (.agg #[.string S1, .slice pa9 ps1.length pc9]) w') from HM)
          clear hv hd ho HM
          refine wpOp_step rfl fun K9 hK9 => ?_
          have HKK := (show Hid _ from hK9)
          clear hK9
          rw [e10]
          go_simp
          exact HKK.out _ _ ⟨by simp [hsz], fun j => if j = 13 then (.bool true : Value) else t2 j, x, (.slice va9 (prs es1).length vc9), (.agg #[.string S1, .slice pa9 ps1.length pc9]), by simp [e10], HV.out.put 13 _ (V13 _ _).symm, HQ.out.other (by decide) (by decide) (by decide)⟩
        · obtain rfl : _ = op := Option.some.inj (show some _ = some op from ho)
          have q9 : l.getD 16 false = false := by
            cases q : l.getD 16 false
            · rfl
            · rw [hS14 q] at hnl; cases hnl
          have HV := (show Hid (Rg.Vals l (VV c0 c1) t2) from hv)
          have HQ := (show Hid (Sp9 r9 es1 S1 ps1 14 16 9 l x c0 c1 w') from HM)
          clear hv hd ho HM
          refine wpOp_step rfl fun K9 hK9 => ?_
          have HKK := (show Hid _ from hK9)
          clear hK9
          go_simp
          exact HKK.out _ _ ⟨by simp [hsz], fun j => if j = 14 then (undef : Value) else t2 j, _, c0, c1, by simp, HV.out.put 14 _ (V14 _ _).symm, HQ.out.make (by omega) (by decide) (by decide) q9⟩
        · obtain rfl : _ = op := Option.some.inj (show some _ = some op from ho)
          have e11 : t2 11 = c0 := (hv 11 (hd { on := 11, ground := .data } (by simp) rfl)).trans (V11 c0 c1)
          obtain ⟨va9, vc9, pa9, pc9, E0, E1, _, _⟩ := HM.called (hD11 (hd { on := 11, ground := .data } (by simp) rfl))
          subst E0 E1
          have HV := (show Hid (Rg.Vals l (VV (.slice va9 (prs es1).length vc9) (.agg #[.string S1, .slice pa9 ps1.length pc9])) t2) from hv)
          have HQ := (show Hid (Sp9 r9 es1 S1 ps1 14 16 9 l x (.slice va9 (prs es1).length vc9) (.agg #[.string S1, .slice pa9 ps1.length pc9]) w') from HM)
          clear hv hd ho HM
          refine wpOp_step rfl fun K9 hK9 => ?_
          have HKK := (show Hid _ from hK9)
          clear hK9
          rw [e11]
          go_simp
          exact HKK.out _ _ ⟨by simp [hsz], fun j => if j = 15 then ((.slice va9 (prs es1).length vc9) : Value) else t2 j, x, (.slice va9 (prs es1).length vc9), (.agg #[.string S1, .slice pa9 ps1.length pc9]), by simp [e11], HV.out.put 15 _ (V15 _ _).symm, HQ.out.other (by decide) (by decide) (by decide)⟩
        · obtain rfl : _ = op := Option.some.inj (show some _ = some op from ho)
          have e12 : t2 12 = c1 := (hv 12 (hd { on := 12, ground := .data } (by simp) rfl)).trans (V12 c0 c1)
          have q9 : l.getD 16 false = false := by
            cases q : l.getD 16 false
            · rfl
            · rw [q] at hnl; cases hnl
          obtain ⟨va9, vc9, pa9, pc9, E0, E1, _, _⟩ := HM.called (hD12 (hd { on := 12, ground := .data } (by simp) rfl))
          subst E0 E1
          obtain ⟨gg, rfl, hgg, m1, _⟩ := HM.made (hd { on := 14, ground := .data } (by simp) rfl)
          have m2 := m1 q9
          have s0 : w'.cell? ⟨gg, 0, none⟩ = some (.string ⟨#[]⟩) := by unfold World.cell?; rw [m2]; rfl
          have s1 : w'.cell? ⟨gg, 1, none⟩ = some (.slice none 0 0) := by unfold World.cell?; rw [m2]; rfl
          have sf : ∀ j, w'.frozen? ⟨gg, j, none⟩ = false := fun j => by unfold World.frozen?; rw [m2]; simp
          have HM2 := (show Hid (w'.heap[gg]? = some (.cells #[.string ⟨#[]⟩, .slice none 0 0] 26 (0, 0))) from m2)
          clear m1 m2
          have HV := (show Hid (Rg.Vals l (VV (.slice va9 (prs es1).length vc9) (.agg #[.string S1, .slice pa9 ps1.length pc9])) t2) from hv)
          have HQ := (show Hid (Sp9 r9 es1 S1 ps1 14 16 9 l (.pointer (some ⟨gg, 0, none⟩)) (.slice va9 (prs es1).length vc9) (.agg #[.string S1, .slice pa9 ps1.length pc9]) w') from HM)
          clear hv hd ho HM
          refine wpOp_step rfl fun K9 hK9 => ?_
          have HKK := (show Hid _ from hK9)
          clear hK9
          go_simp
          exact HKK.out _ _ ⟨by simp [hsz], fun j => if j = 16 then (undef : Value) else t2 j, _, _, _, by simp [e12], HV.out.put 16 _ (V16 _ _).symm, HQ.out.put (by omega) (by decide) (by decide) rfl hgg HM2.out rfl⟩
        · obtain rfl : _ = op := Option.some.inj (show some _ = some op from ho)
          have e13 : t2 13 = .bool true := (hv 13 (hd { on := 13, ground := .data } (by simp) rfl)).trans (V13 c0 c1)
          obtain ⟨va9, vc9, pa9, pc9, E0, E1, _, _⟩ := HM.called (hD13 (hd { on := 13, ground := .data } (by simp) rfl))
          subst E0 E1
          have HV := (show Hid (Rg.Vals l (VV (.slice va9 (prs es1).length vc9) (.agg #[.string S1, .slice pa9 ps1.length pc9])) t2) from hv)
          have HQ := (show Hid (Sp9 r9 es1 S1 ps1 14 16 9 l x (.slice va9 (prs es1).length vc9) (.agg #[.string S1, .slice pa9 ps1.length pc9]) w') from HM)
          clear hv hd ho HM
          refine wpOp_step rfl fun K9 hK9 => ?_
          have HKK := (show Hid _ from hK9)
          clear hK9
          rw [e13]
          go_simp
          exact HKK.out _ _ ⟨by simp [hsz], fun j => if j = 17 then (.bool true : Value) else t2 j, x, (.slice va9 (prs es1).length vc9), (.agg #[.string S1, .slice pa9 ps1.length pc9]), by simp [e13], HV.out.put 17 _ (V17 _ _).symm, HQ.out.other (by decide) (by decide) (by decide)⟩
      case fin =>
        rintro l a' r10 ⟨hsz, t2, x, c0, c1, rfl, hv, HM⟩ hall
        have kR := HM.bel
        obtain ⟨N, hxU, hUg, _, mU0⟩ := HM.made (hall 14 (by simp))
        obtain ⟨kb, kd, E1', mU⟩ := mU0 (hall 16 (by simp))
        obtain ⟨ka, kc, pN, qN, E0, E1, hM9, hT9⟩ := HM.called (hall 9 (by simp))
        obtain ⟨rfl, rfl⟩ : pN = kb ∧ qN = kd := by rw [E1] at E1'; simpa using E1'
        subst E0
        clear mU0
        clear E1'
        subst E1
        subst hxU
        have z15 := (hv 15 (hall 15 (by simp))).trans (V15 _ _)
        have z17 := (hv 17 (hall 17 (by simp))).trans (V17 _ _)
        rw [z15, z17]
        have cN0 : r10.cell? ⟨N, 0, none⟩ = some (.string S1) := by simp [World.cell?, mU]
        have cN1 : r10.cell? ⟨N, 1, none⟩ = some (.slice pN ps1.length qN) := by simp [World.cell?, mU]
        have hN : N < r10.heap.size := (Array.getElem?_eq_some_iff.1 mU).1
        have HMN := (show Hid (IsM r10 (.slice ka (prs es1).length kc) (prs es1)) from hM9)
        have HTN := (show Hid (IsT r10 (.slice pN ps1.length qN) ps1) from hT9)
        clear hM9 hT9 mU hv hall HM hUg z15 z17 V0 V1 V2 V3 V4 V5 V6 V7 V8 V9 V10 V11 V12 V13 V14 V15 V16 V17
        replace cX0 := (kR.cell (p := ⟨X, 0, none⟩) hX).trans cX0
        replace cX1 := (kR.cell (p := ⟨X, 1, none⟩) hX).trans cX1
        replace cY0 := (kR.cell (p := ⟨Y, 0, none⟩) hY).trans cY0
        replace cY1 := (kR.cell (p := ⟨Y, 1, none⟩) hY).trans cY1
        replace cZ0 := (kR.cell (p := ⟨Z, 0, none⟩) hZ).trans cZ0
        replace cZ1 := (kR.cell (p := ⟨Z, 1, none⟩) hZ).trans cZ1
        replace cR0 := (kR.cell (p := ⟨R, 0, none⟩) hR).trans cR0
        replace cR1 := (kR.cell (p := ⟨R, 1, none⟩) hR).trans cR1
        replace hX : X < r10.heap.size := Nat.lt_of_lt_of_le hX kR.size
        replace hY : Y < r10.heap.size := Nat.lt_of_lt_of_le hY kR.size
        replace hZ : Z < r10.heap.size := Nat.lt_of_lt_of_le hZ kR.size
        replace hR : R < r10.heap.size := Nat.lt_of_lt_of_le hR kR.size
        replace HMX := (show Hid (IsM r10 (.slice va (prs es).length vc) (prs es)) from HMX.out.below kR)
        replace HTX := (show Hid (IsT r10 (.slice pa ps.length pc) ps) from HTX.out.below kR)
        replace HMY := (show Hid (IsM r10 (.slice ya (prs es1).length yc) (prs es1)) from HMY.out.below kR)
        replace HTY := (show Hid (IsT r10 (.slice yb ps1.length yd) ps1) from HTY.out.below kR)
        replace HMZ := (show Hid (IsM r10 (.slice za (prs es1).length zc) (prs es1)) from HMZ.out.below kR)
        replace HTZ := (show Hid (IsT r10 (.slice zb ps1.length zd) ps1) from HTZ.out.below kR)
        replace HMR := (show Hid (IsM r10 (.slice sa (prs es2).length sc) (prs es2)) from HMR.out.below kR)
        replace HTR := (show Hid (IsT r10 (.slice pR ps2.length qR) ps2) from HTR.out.below kR)
        replace HE := (show Hid (Errs r10) from HE.out.below kR)
        replace HB := (show Hid (Below w.heap.size w r10) from HB.out.trans (kR.mono HB.out.size))
        clear kR
        go_wp2_with fail
        refine (LzT.lzs_same _ S1 _ _ ps1 hb1 HTN.out HTZ.out).mono ?_
        rintro e v11 ⟨rfl, k61⟩
        replace cX0 := (k61.cell (p := ⟨X, 0, none⟩) hX).trans cX0
        replace cX1 := (k61.cell (p := ⟨X, 1, none⟩) hX).trans cX1
        replace cY0 := (k61.cell (p := ⟨Y, 0, none⟩) hY).trans cY0
        replace cY1 := (k61.cell (p := ⟨Y, 1, none⟩) hY).trans cY1
        replace cZ0 := (k61.cell (p := ⟨Z, 0, none⟩) hZ).trans cZ0
        replace cZ1 := (k61.cell (p := ⟨Z, 1, none⟩) hZ).trans cZ1
        replace cR0 := (k61.cell (p := ⟨R, 0, none⟩) hR).trans cR0
        replace cR1 := (k61.cell (p := ⟨R, 1, none⟩) hR).trans cR1
        replace cN0 := (k61.cell (p := ⟨N, 0, none⟩) hN).trans cN0
        replace cN1 := (k61.cell (p := ⟨N, 1, none⟩) hN).trans cN1
        replace hX : X < v11.heap.size := Nat.lt_of_lt_of_le hX k61.size
        replace hY : Y < v11.heap.size := Nat.lt_of_lt_of_le hY k61.size
        replace hZ : Z < v11.heap.size := Nat.lt_of_lt_of_le hZ k61.size
        replace hR : R < v11.heap.size := Nat.lt_of_lt_of_le hR k61.size
        replace hN : N < v11.heap.size := Nat.lt_of_lt_of_le hN k61.size
        replace HMX := (show Hid (IsM v11 (.slice va (prs es).length vc) (prs es)) from HMX.out.below k61)
        replace HTX := (show Hid (IsT v11 (.slice pa ps.length pc) ps) from HTX.out.below k61)
        replace HMY := (show Hid (IsM v11 (.slice ya (prs es1).length yc) (prs es1)) from HMY.out.below k61)
        replace HTY := (show Hid (IsT v11 (.slice yb ps1.length yd) ps1) from HTY.out.below k61)
        replace HMZ := (show Hid (IsM v11 (.slice za (prs es1).length zc) (prs es1)) from HMZ.out.below k61)
        replace HTZ := (show Hid (IsT v11 (.slice zb ps1.length zd) ps1) from HTZ.out.below k61)
        replace HMR := (show Hid (IsM v11 (.slice sa (prs es2).length sc) (prs es2)) from HMR.out.below k61)
        replace HTR := (show Hid (IsT v11 (.slice pR ps2.length qR) ps2) from HTR.out.below k61)
        replace HMN := (show Hid (IsM v11 (.slice ka (prs es1).length kc) (prs es1)) from HMN.out.below k61)
        replace HTN := (show Hid (IsT v11 (.slice pN ps1.length qN) ps1) from HTN.out.below k61)
        replace HE := (show Hid (Errs v11) from HE.out.below k61)
        replace HB := (show Hid (Below w.heap.size w v11) from HB.out.trans (k61.mono HB.out.size))
        clear k61
        go_wp2_with fail
        refine (LzM.lz_same _ (prs es1) hb2 _ _ HMN.out HMZ.out).mono ?_
        rintro e v12 ⟨rfl, k62⟩
        replace cX0 := (k62.cell (p := ⟨X, 0, none⟩) hX).trans cX0
        replace cX1 := (k62.cell (p := ⟨X, 1, none⟩) hX).trans cX1
        replace cY0 := (k62.cell (p := ⟨Y, 0, none⟩) hY).trans cY0
        replace cY1 := (k62.cell (p := ⟨Y, 1, none⟩) hY).trans cY1
        replace cZ0 := (k62.cell (p := ⟨Z, 0, none⟩) hZ).trans cZ0
        replace cZ1 := (k62.cell (p := ⟨Z, 1, none⟩) hZ).trans cZ1
        replace cR0 := (k62.cell (p := ⟨R, 0, none⟩) hR).trans cR0
        replace cR1 := (k62.cell (p := ⟨R, 1, none⟩) hR).trans cR1
        replace cN0 := (k62.cell (p := ⟨N, 0, none⟩) hN).trans cN0
        replace cN1 := (k62.cell (p := ⟨N, 1, none⟩) hN).trans cN1
        replace hX : X < v12.heap.size := Nat.lt_of_lt_of_le hX k62.size
        replace hY : Y < v12.heap.size := Nat.lt_of_lt_of_le hY k62.size
        replace hZ : Z < v12.heap.size := Nat.lt_of_lt_of_le hZ k62.size
        replace hR : R < v12.heap.size := Nat.lt_of_lt_of_le hR k62.size
        replace hN : N < v12.heap.size := Nat.lt_of_lt_of_le hN k62.size
        replace HMX := (show Hid (IsM v12 (.slice va (prs es).length vc) (prs es)) from HMX.out.below k62)
        replace HTX := (show Hid (IsT v12 (.slice pa ps.length pc) ps) from HTX.out.below k62)
        replace HMY := (show Hid (IsM v12 (.slice ya (prs es1).length yc) (prs es1)) from HMY.out.below k62)
        replace HTY := (show Hid (IsT v12 (.slice yb ps1.length yd) ps1) from HTY.out.below k62)
        replace HMZ := (show Hid (IsM v12 (.slice za (prs es1).length zc) (prs es1)) from HMZ.out.below k62)
        replace HTZ := (show Hid (IsT v12 (.slice zb ps1.length zd) ps1) from HTZ.out.below k62)
        replace HMR := (show Hid (IsM v12 (.slice sa (prs es2).length sc) (prs es2)) from HMR.out.below k62)
        replace HTR := (show Hid (IsT v12 (.slice pR ps2.length qR) ps2) from HTR.out.below k62)
        replace HMN := (show Hid (IsM v12 (.slice ka (prs es1).length kc) (prs es1)) from HMN.out.below k62)
        replace HTN := (show Hid (IsT v12 (.slice pN ps1.length qN) ps1) from HTN.out.below k62)
        replace HE := (show Hid (Errs v12) from HE.out.below k62)
        replace HB := (show Hid (Below w.heap.size w v12) from HB.out.trans (k62.mono HB.out.size))
        clear k62
        go_wp2
        go_ret
        exact ⟨rfl, HB.out⟩
end Go.Proofs.YtdggchcapjidjaaGreatDoor.LPutParts

/- The walk of a law on StreamPut: it answers true. -/
import Derived.Test.YtdggchcapjidjaaGreatDoorIg
import Derived.Test.YtdggchcapjidjaaGreatDoorPr
import Derived.Test.YtdggchcapjidjaaGreatDoorMt
import Derived.Test.YtdggchcapjidjaaGreatDoorStCE
namespace Go.Proofs.YtdggchcapjidjaaGreatDoor.LPutText
open Go.RowKit Go.Shelf Go.Proofs.YtdggchcapjidjaaGreatDoor.Kit Go.Proofs.YtdggchcapjidjaaGreatDoor.Mp Go.Proofs.YtdggchcapjidjaaGreatDoor.Mm Go.Proofs.YtdggchcapjidjaaGreatDoor.Tx Go.Proofs.YtdggchcapjidjaaGreatDoor.Nm Go.Proofs.YtdggchcapjidjaaGreatDoor.App Go.Proofs.YtdggchcapjidjaaGreatDoor.St Go.Proofs.YtdggchcapjidjaaGreatDoor.StP Go.Proofs.YtdggchcapjidjaaGreatDoor.Ip
open Go.Proofs.YtdggchcapjidjaaGreatDoor.Read (Errs)
set_option linter.unusedSimpArgs false
set_option linter.unusedVariables false

set_option maxHeartbeats 400000 in
theorem long (a0 : Option Addr) (len0 cap0 : Nat) (w : World) (h : (1048576 : Int) < (len0 : Int)) :
    Calls Tryz.prog 6 #[.slice a0 len0 cap0] w fun e w' => e = .returned (.bool true) ∧ Below w.heap.size w w' := by
  go_enter Tryz.func6, Tryz.ntmps6
  go_wp2
  go_ret
  exact ⟨rfl, Below.refl _ _⟩
set_option maxRecDepth 8000 in
set_option maxHeartbeats 16000000 in
theorem short (a0 : Option Addr) (len0 cap0 : Nat) (w : World) (z : Nat → Int) (hc : CodeIn w a0 len0 cap0 z) (h : (len0 : Int) ≤ 1048576) (herr : Errs w) :
    Calls Tryz.prog 6 #[.slice a0 len0 cap0] w fun e w' => e = .returned (.bool true) ∧ Below w.heap.size w w' := by
  go_enter Tryz.func6, Tryz.ntmps6
  go_wp2_with fail
  refine (drawStreamPut a0 len0 cap0 z _ hc).mono ?_
  rintro e w1 ⟨v, es, S, pv, ps, qi, T, o, rfl, hg, hM, hT, hSm, hq, hTs, k1⟩
  obtain ⟨q, rfl⟩ : ∃ q : Nat, qi = (q : Int) := ⟨qi.toNat, by omega⟩
  have hq40 : q ≤ 40 := by omega
  obtain ⟨va, vc, rfl⟩ := isM_slice hM
  obtain ⟨pa, pc, rfl, hT'⟩ := id hT
  clear hT' hq
  have hbM : (prs es).length ≤ 1048576 := by have := hg.len; rw [prs_len]; omega
  have hbT : ps.length ≤ 1048576 := by have := hSm.2.1; omega
  have hS41 : S.size ≤ 41 := hSm.1
  have hpp : ∀ p ∈ ps, p.2.size ≤ 1073741824 := fun p hp => by have := (hSm.2.2 p hp).2; omega
  have hTml : T.size ≤ maxLen := by unfold maxLen; omega
  have HPP := (show Hid (∀ p ∈ ps, p.2.size ≤ 1073741824) from hpp)
  clear hpp
  have hokm := okM_prs es hg
  obtain ⟨es1, S1, ps1, b, hG⟩ : ∃ es1 S1 ps1 b, putG o es S ps q T = (es1, S1, ps1, b) := ⟨_, _, _, _, rfl⟩
  have hgood := putG_good (o := o) (S := S) (ps := ps) (q := q) (T := T) hg
  rw [hG] at hgood
  obtain ⟨hg1, hst1⟩ := hgood
  simp only at hg1 hst1
  have hb1 : ps1.length ≤ 1048576 := by have := (stB_small hst1).1; omega
  have hb2 : (prs es1).length ≤ 1048576 := by have := hg1.len; rw [prs_len]; omega
  have HG := (show Hid (putG o es S ps q T = (es1, S1, ps1, b)) from hG)
  have HST1 := (show Hid (stB S1 ps1 = true) from hst1)
  clear hG hst1
  have kA : Below w1.heap.size w1 (w1.alloc (.cells #[.string S, .slice pa ps.length pc] 26)) := (Below.refl _ _).alloc (Nat.le_refl _) _
  have x0 : (w1.alloc (.cells #[.string S, .slice pa ps.length pc] 26)).cell? ⟨w1.heap.size, 0, none⟩ = some (.string S) := by simp
  have x1 : (w1.alloc (.cells #[.string S, .slice pa ps.length pc] 26)).cell? ⟨w1.heap.size, 1, none⟩ = some (.slice pa ps.length pc) := by simp
  have hx : w1.heap.size < (w1.alloc (.cells #[.string S, .slice pa ps.length pc] 26)).heap.size := by simp
  have HMX := (show Hid (IsM (w1.alloc (.cells #[.string S, .slice pa ps.length pc] 26)) (.slice va (prs es).length vc) (prs es)) from hM.below kA)
  have HTX := (show Hid (IsT (w1.alloc (.cells #[.string S, .slice pa ps.length pc] 26)) (.slice pa ps.length pc) ps) from hT.below kA)
  have HE := (show Hid (Errs (w1.alloc (.cells #[.string S, .slice pa ps.length pc] 26))) from (herr.below k1).below kA)
  have HB := (show Hid (Below w.heap.size w (w1.alloc (.cells #[.string S, .slice pa ps.length pc] 26))) from k1.trans (kA.mono k1.size))
  clear hM hT herr k1 kA
  go_wp2_with fail
  generalize (w1.alloc (.cells #[.string S, .slice pa ps.length pc] 26)) = u0 at *
  generalize w1.heap.size = X at *
  have hX : X < u0.heap.size := hx
  have cX0 := x0
  have cX1 := x1
  clear x0 x1 hx
  refine (sput_h _ _ es hg HMX.out S _ ps HTX.out hSm q hq40 T hTs o HG.out).mono ?_
  rintro e w21 ⟨ya, yc, yb, yd, rfl, hM', hT', kk1⟩
  have kA : Below u0.heap.size u0 (w21.alloc (.cells #[.string S1, .slice yb ps1.length yd] 26)) := kk1.alloc kk1.size _
  have x0 : (w21.alloc (.cells #[.string S1, .slice yb ps1.length yd] 26)).cell? ⟨w21.heap.size, 0, none⟩ = some (.string S1) := by simp
  have x1 : (w21.alloc (.cells #[.string S1, .slice yb ps1.length yd] 26)).cell? ⟨w21.heap.size, 1, none⟩ = some (.slice yb ps1.length yd) := by simp
  have hx : w21.heap.size < (w21.alloc (.cells #[.string S1, .slice yb ps1.length yd] 26)).heap.size := by simp
  have bz : Below w21.heap.size w21 (w21.alloc (.cells #[.string S1, .slice yb ps1.length yd] 26)) := (Below.refl _ _).alloc (Nat.le_refl _) _
  have HMY := (show Hid (IsM (w21.alloc (.cells #[.string S1, .slice yb ps1.length yd] 26)) (.slice ya (prs es1).length yc) (prs es1)) from hM'.below bz)
  have HTY := (show Hid (IsT (w21.alloc (.cells #[.string S1, .slice yb ps1.length yd] 26)) (.slice yb ps1.length yd) ps1) from hT'.below bz)
  clear hM' hT' bz kk1
  replace cX0 := (kA.cell (p := ⟨X, 0, none⟩) hX).trans cX0
  replace cX1 := (kA.cell (p := ⟨X, 1, none⟩) hX).trans cX1
  replace hX : X < (w21.alloc (.cells #[.string S1, .slice yb ps1.length yd] 26)).heap.size := Nat.lt_of_lt_of_le hX kA.size
  replace HMX := (show Hid (IsM (w21.alloc (.cells #[.string S1, .slice yb ps1.length yd] 26)) (.slice va (prs es).length vc) (prs es)) from HMX.out.below kA)
  replace HTX := (show Hid (IsT (w21.alloc (.cells #[.string S1, .slice yb ps1.length yd] 26)) (.slice pa ps.length pc) ps) from HTX.out.below kA)
  replace HE := (show Hid (Errs (w21.alloc (.cells #[.string S1, .slice yb ps1.length yd] 26))) from HE.out.below kA)
  replace HB := (show Hid (Below w.heap.size w (w21.alloc (.cells #[.string S1, .slice yb ps1.length yd] 26))) from HB.out.trans (kA.mono HB.out.size))
  clear kA
  go_wp2_with fail
  generalize (w21.alloc (.cells #[.string S1, .slice yb ps1.length yd] 26)) = u2 at *
  generalize w21.heap.size = Y at *
  have hY : Y < u2.heap.size := hx
  have cY0 := x0
  have cY1 := x1
  clear x0 x1 hx
  refine (iput_h _ _ es hg HMX.out S _ ps HTX.out q hq40 T o HE.out HG.out).mono ?_
  rintro e w23 ⟨za, zc, zb, zd, rfl, hM', hT', kk3⟩
  have kA : Below u2.heap.size u2 (w23.alloc (.cells #[.string S1, .slice zb ps1.length zd] 26)) := kk3.alloc kk3.size _
  have x0 : (w23.alloc (.cells #[.string S1, .slice zb ps1.length zd] 26)).cell? ⟨w23.heap.size, 0, none⟩ = some (.string S1) := by simp
  have x1 : (w23.alloc (.cells #[.string S1, .slice zb ps1.length zd] 26)).cell? ⟨w23.heap.size, 1, none⟩ = some (.slice zb ps1.length zd) := by simp
  have hx : w23.heap.size < (w23.alloc (.cells #[.string S1, .slice zb ps1.length zd] 26)).heap.size := by simp
  have bz : Below w23.heap.size w23 (w23.alloc (.cells #[.string S1, .slice zb ps1.length zd] 26)) := (Below.refl _ _).alloc (Nat.le_refl _) _
  have HMZ := (show Hid (IsM (w23.alloc (.cells #[.string S1, .slice zb ps1.length zd] 26)) (.slice za (prs es1).length zc) (prs es1)) from hM'.below bz)
  have HTZ := (show Hid (IsT (w23.alloc (.cells #[.string S1, .slice zb ps1.length zd] 26)) (.slice zb ps1.length zd) ps1) from hT'.below bz)
  clear hM' hT' bz kk3
  replace cX0 := (kA.cell (p := ⟨X, 0, none⟩) hX).trans cX0
  replace cX1 := (kA.cell (p := ⟨X, 1, none⟩) hX).trans cX1
  replace cY0 := (kA.cell (p := ⟨Y, 0, none⟩) hY).trans cY0
  replace cY1 := (kA.cell (p := ⟨Y, 1, none⟩) hY).trans cY1
  replace hX : X < (w23.alloc (.cells #[.string S1, .slice zb ps1.length zd] 26)).heap.size := Nat.lt_of_lt_of_le hX kA.size
  replace hY : Y < (w23.alloc (.cells #[.string S1, .slice zb ps1.length zd] 26)).heap.size := Nat.lt_of_lt_of_le hY kA.size
  replace HMX := (show Hid (IsM (w23.alloc (.cells #[.string S1, .slice zb ps1.length zd] 26)) (.slice va (prs es).length vc) (prs es)) from HMX.out.below kA)
  replace HTX := (show Hid (IsT (w23.alloc (.cells #[.string S1, .slice zb ps1.length zd] 26)) (.slice pa ps.length pc) ps) from HTX.out.below kA)
  replace HMY := (show Hid (IsM (w23.alloc (.cells #[.string S1, .slice zb ps1.length zd] 26)) (.slice ya (prs es1).length yc) (prs es1)) from HMY.out.below kA)
  replace HTY := (show Hid (IsT (w23.alloc (.cells #[.string S1, .slice zb ps1.length zd] 26)) (.slice yb ps1.length yd) ps1) from HTY.out.below kA)
  replace HE := (show Hid (Errs (w23.alloc (.cells #[.string S1, .slice zb ps1.length zd] 26))) from HE.out.below kA)
  replace HB := (show Hid (Below w.heap.size w (w23.alloc (.cells #[.string S1, .slice zb ps1.length zd] 26))) from HB.out.trans (kA.mono HB.out.size))
  clear kA
  go_wp2_with fail
  generalize (w23.alloc (.cells #[.string S1, .slice zb ps1.length zd] 26)) = u4 at *
  generalize w23.heap.size = Z at *
  have hZ : Z < u4.heap.size := hx
  have cZ0 := x0
  have cZ1 := x1
  clear x0 x1 hx
  refine (LzT.lzs_same _ S1 _ _ ps1 hb1 HTZ.out HTY.out).mono ?_
  rintro e v5 ⟨rfl, k55⟩
  replace cX0 := (k55.cell (p := ⟨X, 0, none⟩) hX).trans cX0
  replace cX1 := (k55.cell (p := ⟨X, 1, none⟩) hX).trans cX1
  replace cY0 := (k55.cell (p := ⟨Y, 0, none⟩) hY).trans cY0
  replace cY1 := (k55.cell (p := ⟨Y, 1, none⟩) hY).trans cY1
  replace cZ0 := (k55.cell (p := ⟨Z, 0, none⟩) hZ).trans cZ0
  replace cZ1 := (k55.cell (p := ⟨Z, 1, none⟩) hZ).trans cZ1
  replace hX : X < v5.heap.size := Nat.lt_of_lt_of_le hX k55.size
  replace hY : Y < v5.heap.size := Nat.lt_of_lt_of_le hY k55.size
  replace hZ : Z < v5.heap.size := Nat.lt_of_lt_of_le hZ k55.size
  replace HMX := (show Hid (IsM v5 (.slice va (prs es).length vc) (prs es)) from HMX.out.below k55)
  replace HTX := (show Hid (IsT v5 (.slice pa ps.length pc) ps) from HTX.out.below k55)
  replace HMY := (show Hid (IsM v5 (.slice ya (prs es1).length yc) (prs es1)) from HMY.out.below k55)
  replace HTY := (show Hid (IsT v5 (.slice yb ps1.length yd) ps1) from HTY.out.below k55)
  replace HMZ := (show Hid (IsM v5 (.slice za (prs es1).length zc) (prs es1)) from HMZ.out.below k55)
  replace HTZ := (show Hid (IsT v5 (.slice zb ps1.length zd) ps1) from HTZ.out.below k55)
  replace HE := (show Hid (Errs v5) from HE.out.below k55)
  replace HB := (show Hid (Below w.heap.size w v5) from HB.out.trans (k55.mono HB.out.size))
  clear k55
  go_wp2_with fail
  refine (LzM.lz_same _ (prs es1) hb2 _ _ HMZ.out HMY.out).mono ?_
  rintro e v6 ⟨rfl, k56⟩
  replace cX0 := (k56.cell (p := ⟨X, 0, none⟩) hX).trans cX0
  replace cX1 := (k56.cell (p := ⟨X, 1, none⟩) hX).trans cX1
  replace cY0 := (k56.cell (p := ⟨Y, 0, none⟩) hY).trans cY0
  replace cY1 := (k56.cell (p := ⟨Y, 1, none⟩) hY).trans cY1
  replace cZ0 := (k56.cell (p := ⟨Z, 0, none⟩) hZ).trans cZ0
  replace cZ1 := (k56.cell (p := ⟨Z, 1, none⟩) hZ).trans cZ1
  replace hX : X < v6.heap.size := Nat.lt_of_lt_of_le hX k56.size
  replace hY : Y < v6.heap.size := Nat.lt_of_lt_of_le hY k56.size
  replace hZ : Z < v6.heap.size := Nat.lt_of_lt_of_le hZ k56.size
  replace HMX := (show Hid (IsM v6 (.slice va (prs es).length vc) (prs es)) from HMX.out.below k56)
  replace HTX := (show Hid (IsT v6 (.slice pa ps.length pc) ps) from HTX.out.below k56)
  replace HMY := (show Hid (IsM v6 (.slice ya (prs es1).length yc) (prs es1)) from HMY.out.below k56)
  replace HTY := (show Hid (IsT v6 (.slice yb ps1.length yd) ps1) from HTY.out.below k56)
  replace HMZ := (show Hid (IsM v6 (.slice za (prs es1).length zc) (prs es1)) from HMZ.out.below k56)
  replace HTZ := (show Hid (IsT v6 (.slice zb ps1.length zd) ps1) from HTZ.out.below k56)
  replace HE := (show Hid (Errs v6) from HE.out.below k56)
  replace HB := (show Hid (Below w.heap.size w v6) from HB.out.trans (k56.mono HB.out.size))
  clear k56
  go_wp2_with fail
  refine (Ms.sok_any _ _ (prs es) HMX.out (by omega)).mono ?_
  rintro e v7 ⟨rfl, k57⟩
  rw [hokm]
  replace cX0 := (k57.cell (p := ⟨X, 0, none⟩) hX).trans cX0
  replace cX1 := (k57.cell (p := ⟨X, 1, none⟩) hX).trans cX1
  replace cY0 := (k57.cell (p := ⟨Y, 0, none⟩) hY).trans cY0
  replace cY1 := (k57.cell (p := ⟨Y, 1, none⟩) hY).trans cY1
  replace cZ0 := (k57.cell (p := ⟨Z, 0, none⟩) hZ).trans cZ0
  replace cZ1 := (k57.cell (p := ⟨Z, 1, none⟩) hZ).trans cZ1
  replace hX : X < v7.heap.size := Nat.lt_of_lt_of_le hX k57.size
  replace hY : Y < v7.heap.size := Nat.lt_of_lt_of_le hY k57.size
  replace hZ : Z < v7.heap.size := Nat.lt_of_lt_of_le hZ k57.size
  replace HMX := (show Hid (IsM v7 (.slice va (prs es).length vc) (prs es)) from HMX.out.below k57)
  replace HTX := (show Hid (IsT v7 (.slice pa ps.length pc) ps) from HTX.out.below k57)
  replace HMY := (show Hid (IsM v7 (.slice ya (prs es1).length yc) (prs es1)) from HMY.out.below k57)
  replace HTY := (show Hid (IsT v7 (.slice yb ps1.length yd) ps1) from HTY.out.below k57)
  replace HMZ := (show Hid (IsM v7 (.slice za (prs es1).length zc) (prs es1)) from HMZ.out.below k57)
  replace HTZ := (show Hid (IsT v7 (.slice zb ps1.length zd) ps1) from HTZ.out.below k57)
  replace HE := (show Hid (Errs v7) from HE.out.below k57)
  replace HB := (show Hid (Below w.heap.size w v7) from HB.out.trans (k57.mono HB.out.size))
  clear k57
  go_wp2_with fail
  refine (TxW.sok_any T hTml _).mono ?_
  rintro e vv ⟨rfl, rfl⟩
  cases hTok : okB T.data.toList
  · skip
    go_wp2_with fail
    refine (LzT.lzs_same _ S1 _ _ ps1 hb1 HTZ.out HTY.out).mono ?_
    rintro e v8 ⟨rfl, k58⟩
    replace cX0 := (k58.cell (p := ⟨X, 0, none⟩) hX).trans cX0
    replace cX1 := (k58.cell (p := ⟨X, 1, none⟩) hX).trans cX1
    replace cY0 := (k58.cell (p := ⟨Y, 0, none⟩) hY).trans cY0
    replace cY1 := (k58.cell (p := ⟨Y, 1, none⟩) hY).trans cY1
    replace cZ0 := (k58.cell (p := ⟨Z, 0, none⟩) hZ).trans cZ0
    replace cZ1 := (k58.cell (p := ⟨Z, 1, none⟩) hZ).trans cZ1
    replace hX : X < v8.heap.size := Nat.lt_of_lt_of_le hX k58.size
    replace hY : Y < v8.heap.size := Nat.lt_of_lt_of_le hY k58.size
    replace hZ : Z < v8.heap.size := Nat.lt_of_lt_of_le hZ k58.size
    replace HMX := (show Hid (IsM v8 (.slice va (prs es).length vc) (prs es)) from HMX.out.below k58)
    replace HTX := (show Hid (IsT v8 (.slice pa ps.length pc) ps) from HTX.out.below k58)
    replace HMY := (show Hid (IsM v8 (.slice ya (prs es1).length yc) (prs es1)) from HMY.out.below k58)
    replace HTY := (show Hid (IsT v8 (.slice yb ps1.length yd) ps1) from HTY.out.below k58)
    replace HMZ := (show Hid (IsM v8 (.slice za (prs es1).length zc) (prs es1)) from HMZ.out.below k58)
    replace HTZ := (show Hid (IsT v8 (.slice zb ps1.length zd) ps1) from HTZ.out.below k58)
    replace HE := (show Hid (Errs v8) from HE.out.below k58)
    replace HB := (show Hid (Below w.heap.size w v8) from HB.out.trans (k58.mono HB.out.size))
    clear k58
    go_wp2_with fail
    refine (LzM.lz_same _ (prs es1) hb2 _ _ HMZ.out HMY.out).mono ?_
    rintro e v9 ⟨rfl, k59⟩
    replace cX0 := (k59.cell (p := ⟨X, 0, none⟩) hX).trans cX0
    replace cX1 := (k59.cell (p := ⟨X, 1, none⟩) hX).trans cX1
    replace cY0 := (k59.cell (p := ⟨Y, 0, none⟩) hY).trans cY0
    replace cY1 := (k59.cell (p := ⟨Y, 1, none⟩) hY).trans cY1
    replace cZ0 := (k59.cell (p := ⟨Z, 0, none⟩) hZ).trans cZ0
    replace cZ1 := (k59.cell (p := ⟨Z, 1, none⟩) hZ).trans cZ1
    replace hX : X < v9.heap.size := Nat.lt_of_lt_of_le hX k59.size
    replace hY : Y < v9.heap.size := Nat.lt_of_lt_of_le hY k59.size
    replace hZ : Z < v9.heap.size := Nat.lt_of_lt_of_le hZ k59.size
    replace HMX := (show Hid (IsM v9 (.slice va (prs es).length vc) (prs es)) from HMX.out.below k59)
    replace HTX := (show Hid (IsT v9 (.slice pa ps.length pc) ps) from HTX.out.below k59)
    replace HMY := (show Hid (IsM v9 (.slice ya (prs es1).length yc) (prs es1)) from HMY.out.below k59)
    replace HTY := (show Hid (IsT v9 (.slice yb ps1.length yd) ps1) from HTY.out.below k59)
    replace HMZ := (show Hid (IsM v9 (.slice za (prs es1).length zc) (prs es1)) from HMZ.out.below k59)
    replace HTZ := (show Hid (IsT v9 (.slice zb ps1.length zd) ps1) from HTZ.out.below k59)
    replace HE := (show Hid (Errs v9) from HE.out.below k59)
    replace HB := (show Hid (Below w.heap.size w v9) from HB.out.trans (k59.mono HB.out.size))
    clear k59
    go_wp2
    go_ret
    exact ⟨rfl, HB.out⟩
  · skip
    obtain ⟨es2, S2, ps2, b2, hG2, hb2t, he2, hx2⟩ : ∃ es2 S2 ps2 b2, putG o es ⟨#[]⟩ [] 0 T = (es2, S2, ps2, b2) ∧ b2 = true ∧ es2 = (prt o es (pieL T.data.toList) T.data.toList).1 ∧ txW ps2 = txW (prt o es (pieL T.data.toList) T.data.toList).2 := by
      rw [putG_ok Ip.stB_nil hTok, putF_zero o es T hTok]
      exact ⟨_, _, _, _, rfl, rfl, rfl, rfl⟩
    subst hb2t
    have hgood2 := putG_good (o := o) (S := ⟨#[]⟩) (ps := []) (q := 0) (T := T) hg
    rw [hG2] at hgood2
    obtain ⟨hg2, hst2⟩ := hgood2
    simp only at hg2 hst2
    obtain ⟨TX, hTX⟩ : ∃ TX, outB S2 ps2 = TX := ⟨_, rfl⟩
    have hTXl : TX = txW (prt o es (pieL T.data.toList) T.data.toList).2 := by rw [← hTX, outB_ok hst2, hx2]
    have HTX2 := (show Hid (outB S2 ps2 = TX) from hTX)
    have HXL := (show Hid (TX = txW (prt o es (pieL T.data.toList) T.data.toList).2) from hTXl)
    have HE2 := (show Hid (es2 = (prt o es (pieL T.data.toList) T.data.toList).1) from he2)
    have hb22 : (prs es2).length ≤ 1048576 := by have := hg2.len; rw [prs_len]; omega
    have HTN := (show Hid (IsT vv (.slice none 0 0) []) from isT_nil _)
    clear hst2 he2 hx2 hTX hTXl
    cases o
    · skip
      go_wp2_with fail
      refine (iput_h _ _ es hg HMX.out ⟨#[]⟩ _ [] HTN.out 0 (by omega) T false HE.out hG2).mono ?_
      rintro e w30 ⟨ta, tc, tb, td, rfl, hM', hT', kk10⟩
      have kA : Below vv.heap.size vv (w30.alloc (.cells #[.string S2, .slice tb ps2.length td] 26)) := kk10.alloc kk10.size _
      have x0 : (w30.alloc (.cells #[.string S2, .slice tb ps2.length td] 26)).cell? ⟨w30.heap.size, 0, none⟩ = some (.string S2) := by simp
      have x1 : (w30.alloc (.cells #[.string S2, .slice tb ps2.length td] 26)).cell? ⟨w30.heap.size, 1, none⟩ = some (.slice tb ps2.length td) := by simp
      have hx : w30.heap.size < (w30.alloc (.cells #[.string S2, .slice tb ps2.length td] 26)).heap.size := by simp
      have bz : Below w30.heap.size w30 (w30.alloc (.cells #[.string S2, .slice tb ps2.length td] 26)) := (Below.refl _ _).alloc (Nat.le_refl _) _
      have HMU := (show Hid (IsM (w30.alloc (.cells #[.string S2, .slice tb ps2.length td] 26)) (.slice ta (prs es2).length tc) (prs es2)) from hM'.below bz)
      have HTU := (show Hid (IsT (w30.alloc (.cells #[.string S2, .slice tb ps2.length td] 26)) (.slice tb ps2.length td) ps2) from hT'.below bz)
      clear hM' hT' bz kk10
      replace cX0 := (kA.cell (p := ⟨X, 0, none⟩) hX).trans cX0
      replace cX1 := (kA.cell (p := ⟨X, 1, none⟩) hX).trans cX1
      replace cY0 := (kA.cell (p := ⟨Y, 0, none⟩) hY).trans cY0
      replace cY1 := (kA.cell (p := ⟨Y, 1, none⟩) hY).trans cY1
      replace cZ0 := (kA.cell (p := ⟨Z, 0, none⟩) hZ).trans cZ0
      replace cZ1 := (kA.cell (p := ⟨Z, 1, none⟩) hZ).trans cZ1
      replace hX : X < (w30.alloc (.cells #[.string S2, .slice tb ps2.length td] 26)).heap.size := Nat.lt_of_lt_of_le hX kA.size
      replace hY : Y < (w30.alloc (.cells #[.string S2, .slice tb ps2.length td] 26)).heap.size := Nat.lt_of_lt_of_le hY kA.size
      replace hZ : Z < (w30.alloc (.cells #[.string S2, .slice tb ps2.length td] 26)).heap.size := Nat.lt_of_lt_of_le hZ kA.size
      replace HMX := (show Hid (IsM (w30.alloc (.cells #[.string S2, .slice tb ps2.length td] 26)) (.slice va (prs es).length vc) (prs es)) from HMX.out.below kA)
      replace HTX := (show Hid (IsT (w30.alloc (.cells #[.string S2, .slice tb ps2.length td] 26)) (.slice pa ps.length pc) ps) from HTX.out.below kA)
      replace HMY := (show Hid (IsM (w30.alloc (.cells #[.string S2, .slice tb ps2.length td] 26)) (.slice ya (prs es1).length yc) (prs es1)) from HMY.out.below kA)
      replace HTY := (show Hid (IsT (w30.alloc (.cells #[.string S2, .slice tb ps2.length td] 26)) (.slice yb ps1.length yd) ps1) from HTY.out.below kA)
      replace HMZ := (show Hid (IsM (w30.alloc (.cells #[.string S2, .slice tb ps2.length td] 26)) (.slice za (prs es1).length zc) (prs es1)) from HMZ.out.below kA)
      replace HTZ := (show Hid (IsT (w30.alloc (.cells #[.string S2, .slice tb ps2.length td] 26)) (.slice zb ps1.length zd) ps1) from HTZ.out.below kA)
      replace HE := (show Hid (Errs (w30.alloc (.cells #[.string S2, .slice tb ps2.length td] 26))) from HE.out.below kA)
      replace HB := (show Hid (Below w.heap.size w (w30.alloc (.cells #[.string S2, .slice tb ps2.length td] 26))) from HB.out.trans (kA.mono HB.out.size))
      clear kA
      go_wp2_with fail
      generalize (w30.alloc (.cells #[.string S2, .slice tb ps2.length td] 26)) = u11 at *
      generalize w30.heap.size = U at *
      have hU : U < u11.heap.size := hx
      have cU0 := x0
      have cU1 := x1
      clear x0 x1 hx
      clear HTN
      refine (St.out_stream S2 _ ps2 _ HTU.out HE.out).mono ?_
      rintro e v12 ⟨rfl, k62⟩
      rw [HTX2.out]
      replace cX0 := (k62.cell (p := ⟨X, 0, none⟩) hX).trans cX0
      replace cX1 := (k62.cell (p := ⟨X, 1, none⟩) hX).trans cX1
      replace cY0 := (k62.cell (p := ⟨Y, 0, none⟩) hY).trans cY0
      replace cY1 := (k62.cell (p := ⟨Y, 1, none⟩) hY).trans cY1
      replace cZ0 := (k62.cell (p := ⟨Z, 0, none⟩) hZ).trans cZ0
      replace cZ1 := (k62.cell (p := ⟨Z, 1, none⟩) hZ).trans cZ1
      replace cU0 := (k62.cell (p := ⟨U, 0, none⟩) hU).trans cU0
      replace cU1 := (k62.cell (p := ⟨U, 1, none⟩) hU).trans cU1
      replace hX : X < v12.heap.size := Nat.lt_of_lt_of_le hX k62.size
      replace hY : Y < v12.heap.size := Nat.lt_of_lt_of_le hY k62.size
      replace hZ : Z < v12.heap.size := Nat.lt_of_lt_of_le hZ k62.size
      replace hU : U < v12.heap.size := Nat.lt_of_lt_of_le hU k62.size
      replace HMX := (show Hid (IsM v12 (.slice va (prs es).length vc) (prs es)) from HMX.out.below k62)
      replace HTX := (show Hid (IsT v12 (.slice pa ps.length pc) ps) from HTX.out.below k62)
      replace HMY := (show Hid (IsM v12 (.slice ya (prs es1).length yc) (prs es1)) from HMY.out.below k62)
      replace HTY := (show Hid (IsT v12 (.slice yb ps1.length yd) ps1) from HTY.out.below k62)
      replace HMZ := (show Hid (IsM v12 (.slice za (prs es1).length zc) (prs es1)) from HMZ.out.below k62)
      replace HTZ := (show Hid (IsT v12 (.slice zb ps1.length zd) ps1) from HTZ.out.below k62)
      replace HMU := (show Hid (IsM v12 (.slice ta (prs es2).length tc) (prs es2)) from HMU.out.below k62)
      replace HTU := (show Hid (IsT v12 (.slice tb ps2.length td) ps2) from HTU.out.below k62)
      replace HE := (show Hid (Errs v12) from HE.out.below k62)
      replace HB := (show Hid (Below w.heap.size w v12) from HB.out.trans (k62.mono HB.out.size))
      clear k62
      go_wp2_with fail
      refine (Mt.tin_any _ _ (prs es) HMX.out T HE.out).mono ?_
      rintro e v13 ⟨T2, rfl, hT2, k63⟩
      have hTT : T2 = TX := by
        refine ba_ext ?_
        rw [hT2, HXL.out, prt_inP, Mt.tin_eq _ _ hokm, prs_snd]
      subst hTT
      clear hT2
      replace cX0 := (k63.cell (p := ⟨X, 0, none⟩) hX).trans cX0
      replace cX1 := (k63.cell (p := ⟨X, 1, none⟩) hX).trans cX1
      replace cY0 := (k63.cell (p := ⟨Y, 0, none⟩) hY).trans cY0
      replace cY1 := (k63.cell (p := ⟨Y, 1, none⟩) hY).trans cY1
      replace cZ0 := (k63.cell (p := ⟨Z, 0, none⟩) hZ).trans cZ0
      replace cZ1 := (k63.cell (p := ⟨Z, 1, none⟩) hZ).trans cZ1
      replace cU0 := (k63.cell (p := ⟨U, 0, none⟩) hU).trans cU0
      replace cU1 := (k63.cell (p := ⟨U, 1, none⟩) hU).trans cU1
      replace hX : X < v13.heap.size := Nat.lt_of_lt_of_le hX k63.size
      replace hY : Y < v13.heap.size := Nat.lt_of_lt_of_le hY k63.size
      replace hZ : Z < v13.heap.size := Nat.lt_of_lt_of_le hZ k63.size
      replace hU : U < v13.heap.size := Nat.lt_of_lt_of_le hU k63.size
      replace HMX := (show Hid (IsM v13 (.slice va (prs es).length vc) (prs es)) from HMX.out.below k63)
      replace HTX := (show Hid (IsT v13 (.slice pa ps.length pc) ps) from HTX.out.below k63)
      replace HMY := (show Hid (IsM v13 (.slice ya (prs es1).length yc) (prs es1)) from HMY.out.below k63)
      replace HTY := (show Hid (IsT v13 (.slice yb ps1.length yd) ps1) from HTY.out.below k63)
      replace HMZ := (show Hid (IsM v13 (.slice za (prs es1).length zc) (prs es1)) from HMZ.out.below k63)
      replace HTZ := (show Hid (IsT v13 (.slice zb ps1.length zd) ps1) from HTZ.out.below k63)
      replace HMU := (show Hid (IsM v13 (.slice ta (prs es2).length tc) (prs es2)) from HMU.out.below k63)
      replace HTU := (show Hid (IsT v13 (.slice tb ps2.length td) ps2) from HTU.out.below k63)
      replace HE := (show Hid (Errs v13) from HE.out.below k63)
      replace HB := (show Hid (Below w.heap.size w v13) from HB.out.trans (k63.mono HB.out.size))
      clear k63
      have hee : es2 = es := HE2.out.trans (prt_in _ _ _)
      have HMW := (show Hid (IsM v13 (.slice ta (prs es2).length tc) (prs es)) from by have h9 := HMU.out; rw [hee] at h9 ⊢; exact h9)
      clear hee
      go_wp2_with fail
      refine (LzM.lz_same _ (prs es) hbM _ _ HMW.out HMX.out).mono ?_
      rintro e v14 ⟨rfl, k64⟩
      replace cX0 := (k64.cell (p := ⟨X, 0, none⟩) hX).trans cX0
      replace cX1 := (k64.cell (p := ⟨X, 1, none⟩) hX).trans cX1
      replace cY0 := (k64.cell (p := ⟨Y, 0, none⟩) hY).trans cY0
      replace cY1 := (k64.cell (p := ⟨Y, 1, none⟩) hY).trans cY1
      replace cZ0 := (k64.cell (p := ⟨Z, 0, none⟩) hZ).trans cZ0
      replace cZ1 := (k64.cell (p := ⟨Z, 1, none⟩) hZ).trans cZ1
      replace cU0 := (k64.cell (p := ⟨U, 0, none⟩) hU).trans cU0
      replace cU1 := (k64.cell (p := ⟨U, 1, none⟩) hU).trans cU1
      replace hX : X < v14.heap.size := Nat.lt_of_lt_of_le hX k64.size
      replace hY : Y < v14.heap.size := Nat.lt_of_lt_of_le hY k64.size
      replace hZ : Z < v14.heap.size := Nat.lt_of_lt_of_le hZ k64.size
      replace hU : U < v14.heap.size := Nat.lt_of_lt_of_le hU k64.size
      replace HMX := (show Hid (IsM v14 (.slice va (prs es).length vc) (prs es)) from HMX.out.below k64)
      replace HTX := (show Hid (IsT v14 (.slice pa ps.length pc) ps) from HTX.out.below k64)
      replace HMY := (show Hid (IsM v14 (.slice ya (prs es1).length yc) (prs es1)) from HMY.out.below k64)
      replace HTY := (show Hid (IsT v14 (.slice yb ps1.length yd) ps1) from HTY.out.below k64)
      replace HMZ := (show Hid (IsM v14 (.slice za (prs es1).length zc) (prs es1)) from HMZ.out.below k64)
      replace HTZ := (show Hid (IsT v14 (.slice zb ps1.length zd) ps1) from HTZ.out.below k64)
      replace HMU := (show Hid (IsM v14 (.slice ta (prs es2).length tc) (prs es2)) from HMU.out.below k64)
      replace HTU := (show Hid (IsT v14 (.slice tb ps2.length td) ps2) from HTU.out.below k64)
      replace HE := (show Hid (Errs v14) from HE.out.below k64)
      replace HB := (show Hid (Below w.heap.size w v14) from HB.out.trans (k64.mono HB.out.size))
      clear k64
      go_wp2
      go_ret
      exact ⟨rfl, HB.out⟩
    · skip
      go_wp2_with fail
      refine (iput_h _ _ es hg HMX.out ⟨#[]⟩ _ [] HTN.out 0 (by omega) T true HE.out hG2).mono ?_
      rintro e w35 ⟨ta, tc, tb, td, rfl, hM', hT', kk15⟩
      have kA : Below vv.heap.size vv (w35.alloc (.cells #[.string S2, .slice tb ps2.length td] 26)) := kk15.alloc kk15.size _
      have x0 : (w35.alloc (.cells #[.string S2, .slice tb ps2.length td] 26)).cell? ⟨w35.heap.size, 0, none⟩ = some (.string S2) := by simp
      have x1 : (w35.alloc (.cells #[.string S2, .slice tb ps2.length td] 26)).cell? ⟨w35.heap.size, 1, none⟩ = some (.slice tb ps2.length td) := by simp
      have hx : w35.heap.size < (w35.alloc (.cells #[.string S2, .slice tb ps2.length td] 26)).heap.size := by simp
      have bz : Below w35.heap.size w35 (w35.alloc (.cells #[.string S2, .slice tb ps2.length td] 26)) := (Below.refl _ _).alloc (Nat.le_refl _) _
      have HMU := (show Hid (IsM (w35.alloc (.cells #[.string S2, .slice tb ps2.length td] 26)) (.slice ta (prs es2).length tc) (prs es2)) from hM'.below bz)
      have HTU := (show Hid (IsT (w35.alloc (.cells #[.string S2, .slice tb ps2.length td] 26)) (.slice tb ps2.length td) ps2) from hT'.below bz)
      clear hM' hT' bz kk15
      replace cX0 := (kA.cell (p := ⟨X, 0, none⟩) hX).trans cX0
      replace cX1 := (kA.cell (p := ⟨X, 1, none⟩) hX).trans cX1
      replace cY0 := (kA.cell (p := ⟨Y, 0, none⟩) hY).trans cY0
      replace cY1 := (kA.cell (p := ⟨Y, 1, none⟩) hY).trans cY1
      replace cZ0 := (kA.cell (p := ⟨Z, 0, none⟩) hZ).trans cZ0
      replace cZ1 := (kA.cell (p := ⟨Z, 1, none⟩) hZ).trans cZ1
      replace hX : X < (w35.alloc (.cells #[.string S2, .slice tb ps2.length td] 26)).heap.size := Nat.lt_of_lt_of_le hX kA.size
      replace hY : Y < (w35.alloc (.cells #[.string S2, .slice tb ps2.length td] 26)).heap.size := Nat.lt_of_lt_of_le hY kA.size
      replace hZ : Z < (w35.alloc (.cells #[.string S2, .slice tb ps2.length td] 26)).heap.size := Nat.lt_of_lt_of_le hZ kA.size
      replace HMX := (show Hid (IsM (w35.alloc (.cells #[.string S2, .slice tb ps2.length td] 26)) (.slice va (prs es).length vc) (prs es)) from HMX.out.below kA)
      replace HTX := (show Hid (IsT (w35.alloc (.cells #[.string S2, .slice tb ps2.length td] 26)) (.slice pa ps.length pc) ps) from HTX.out.below kA)
      replace HMY := (show Hid (IsM (w35.alloc (.cells #[.string S2, .slice tb ps2.length td] 26)) (.slice ya (prs es1).length yc) (prs es1)) from HMY.out.below kA)
      replace HTY := (show Hid (IsT (w35.alloc (.cells #[.string S2, .slice tb ps2.length td] 26)) (.slice yb ps1.length yd) ps1) from HTY.out.below kA)
      replace HMZ := (show Hid (IsM (w35.alloc (.cells #[.string S2, .slice tb ps2.length td] 26)) (.slice za (prs es1).length zc) (prs es1)) from HMZ.out.below kA)
      replace HTZ := (show Hid (IsT (w35.alloc (.cells #[.string S2, .slice tb ps2.length td] 26)) (.slice zb ps1.length zd) ps1) from HTZ.out.below kA)
      replace HE := (show Hid (Errs (w35.alloc (.cells #[.string S2, .slice tb ps2.length td] 26))) from HE.out.below kA)
      replace HB := (show Hid (Below w.heap.size w (w35.alloc (.cells #[.string S2, .slice tb ps2.length td] 26))) from HB.out.trans (kA.mono HB.out.size))
      clear kA
      go_wp2_with fail
      generalize (w35.alloc (.cells #[.string S2, .slice tb ps2.length td] 26)) = u16 at *
      generalize w35.heap.size = U at *
      have hU : U < u16.heap.size := hx
      have cU0 := x0
      have cU1 := x1
      clear x0 x1 hx
      clear HTN
      refine (Mt.tout_any _ _ (prs es) HMX.out T HE.out).mono ?_
      rintro e v17 ⟨mv, T2, rfl, hrow, hT2, k67⟩
      have hto : tOut (prs es) T.data.toList = (prs es2, TX.data.toList) := by
        unfold tOut
        rw [if_pos ⟨hokm, hTok⟩, prs_snd, HE2.out, HXL.out, (prt_outP es _ _).1, (prt_outP es _ _).2]
      rw [hto] at hrow hT2
      have hTT : T2 = TX := ba_ext hT2
      subst hTT
      have hMV := isM_of_row hrow
      obtain ⟨ma, mc, rfl⟩ := isM_slice hMV
      have HMV := (show Hid (IsM v17 (.slice ma (prs es2).length mc) (prs es2)) from hMV)
      clear hT2 hrow hto hMV
      replace cX0 := (k67.cell (p := ⟨X, 0, none⟩) hX).trans cX0
      replace cX1 := (k67.cell (p := ⟨X, 1, none⟩) hX).trans cX1
      replace cY0 := (k67.cell (p := ⟨Y, 0, none⟩) hY).trans cY0
      replace cY1 := (k67.cell (p := ⟨Y, 1, none⟩) hY).trans cY1
      replace cZ0 := (k67.cell (p := ⟨Z, 0, none⟩) hZ).trans cZ0
      replace cZ1 := (k67.cell (p := ⟨Z, 1, none⟩) hZ).trans cZ1
      replace cU0 := (k67.cell (p := ⟨U, 0, none⟩) hU).trans cU0
      replace cU1 := (k67.cell (p := ⟨U, 1, none⟩) hU).trans cU1
      replace hX : X < v17.heap.size := Nat.lt_of_lt_of_le hX k67.size
      replace hY : Y < v17.heap.size := Nat.lt_of_lt_of_le hY k67.size
      replace hZ : Z < v17.heap.size := Nat.lt_of_lt_of_le hZ k67.size
      replace hU : U < v17.heap.size := Nat.lt_of_lt_of_le hU k67.size
      replace HMX := (show Hid (IsM v17 (.slice va (prs es).length vc) (prs es)) from HMX.out.below k67)
      replace HTX := (show Hid (IsT v17 (.slice pa ps.length pc) ps) from HTX.out.below k67)
      replace HMY := (show Hid (IsM v17 (.slice ya (prs es1).length yc) (prs es1)) from HMY.out.below k67)
      replace HTY := (show Hid (IsT v17 (.slice yb ps1.length yd) ps1) from HTY.out.below k67)
      replace HMZ := (show Hid (IsM v17 (.slice za (prs es1).length zc) (prs es1)) from HMZ.out.below k67)
      replace HTZ := (show Hid (IsT v17 (.slice zb ps1.length zd) ps1) from HTZ.out.below k67)
      replace HMU := (show Hid (IsM v17 (.slice ta (prs es2).length tc) (prs es2)) from HMU.out.below k67)
      replace HTU := (show Hid (IsT v17 (.slice tb ps2.length td) ps2) from HTU.out.below k67)
      replace HE := (show Hid (Errs v17) from HE.out.below k67)
      replace HB := (show Hid (Below w.heap.size w v17) from HB.out.trans (k67.mono HB.out.size))
      clear k67
      go_wp2_with fail
      refine (St.out_stream S2 _ ps2 _ HTU.out HE.out).mono ?_
      rintro e v18 ⟨rfl, k68⟩
      rw [HTX2.out]
      replace cX0 := (k68.cell (p := ⟨X, 0, none⟩) hX).trans cX0
      replace cX1 := (k68.cell (p := ⟨X, 1, none⟩) hX).trans cX1
      replace cY0 := (k68.cell (p := ⟨Y, 0, none⟩) hY).trans cY0
      replace cY1 := (k68.cell (p := ⟨Y, 1, none⟩) hY).trans cY1
      replace cZ0 := (k68.cell (p := ⟨Z, 0, none⟩) hZ).trans cZ0
      replace cZ1 := (k68.cell (p := ⟨Z, 1, none⟩) hZ).trans cZ1
      replace cU0 := (k68.cell (p := ⟨U, 0, none⟩) hU).trans cU0
      replace cU1 := (k68.cell (p := ⟨U, 1, none⟩) hU).trans cU1
      replace hX : X < v18.heap.size := Nat.lt_of_lt_of_le hX k68.size
      replace hY : Y < v18.heap.size := Nat.lt_of_lt_of_le hY k68.size
      replace hZ : Z < v18.heap.size := Nat.lt_of_lt_of_le hZ k68.size
      replace hU : U < v18.heap.size := Nat.lt_of_lt_of_le hU k68.size
      replace HMX := (show Hid (IsM v18 (.slice va (prs es).length vc) (prs es)) from HMX.out.below k68)
      replace HTX := (show Hid (IsT v18 (.slice pa ps.length pc) ps) from HTX.out.below k68)
      replace HMY := (show Hid (IsM v18 (.slice ya (prs es1).length yc) (prs es1)) from HMY.out.below k68)
      replace HTY := (show Hid (IsT v18 (.slice yb ps1.length yd) ps1) from HTY.out.below k68)
      replace HMZ := (show Hid (IsM v18 (.slice za (prs es1).length zc) (prs es1)) from HMZ.out.below k68)
      replace HTZ := (show Hid (IsT v18 (.slice zb ps1.length zd) ps1) from HTZ.out.below k68)
      replace HMU := (show Hid (IsM v18 (.slice ta (prs es2).length tc) (prs es2)) from HMU.out.below k68)
      replace HTU := (show Hid (IsT v18 (.slice tb ps2.length td) ps2) from HTU.out.below k68)
      replace HMV := (show Hid (IsM v18 (.slice ma (prs es2).length mc) (prs es2)) from HMV.out.below k68)
      replace HE := (show Hid (Errs v18) from HE.out.below k68)
      replace HB := (show Hid (Below w.heap.size w v18) from HB.out.trans (k68.mono HB.out.size))
      clear k68
      go_wp2_with fail
      refine (LzM.lz_same _ (prs es2) hb22 _ _ HMU.out HMV.out).mono ?_
      rintro e v19 ⟨rfl, k69⟩
      replace cX0 := (k69.cell (p := ⟨X, 0, none⟩) hX).trans cX0
      replace cX1 := (k69.cell (p := ⟨X, 1, none⟩) hX).trans cX1
      replace cY0 := (k69.cell (p := ⟨Y, 0, none⟩) hY).trans cY0
      replace cY1 := (k69.cell (p := ⟨Y, 1, none⟩) hY).trans cY1
      replace cZ0 := (k69.cell (p := ⟨Z, 0, none⟩) hZ).trans cZ0
      replace cZ1 := (k69.cell (p := ⟨Z, 1, none⟩) hZ).trans cZ1
      replace cU0 := (k69.cell (p := ⟨U, 0, none⟩) hU).trans cU0
      replace cU1 := (k69.cell (p := ⟨U, 1, none⟩) hU).trans cU1
      replace hX : X < v19.heap.size := Nat.lt_of_lt_of_le hX k69.size
      replace hY : Y < v19.heap.size := Nat.lt_of_lt_of_le hY k69.size
      replace hZ : Z < v19.heap.size := Nat.lt_of_lt_of_le hZ k69.size
      replace hU : U < v19.heap.size := Nat.lt_of_lt_of_le hU k69.size
      replace HMX := (show Hid (IsM v19 (.slice va (prs es).length vc) (prs es)) from HMX.out.below k69)
      replace HTX := (show Hid (IsT v19 (.slice pa ps.length pc) ps) from HTX.out.below k69)
      replace HMY := (show Hid (IsM v19 (.slice ya (prs es1).length yc) (prs es1)) from HMY.out.below k69)
      replace HTY := (show Hid (IsT v19 (.slice yb ps1.length yd) ps1) from HTY.out.below k69)
      replace HMZ := (show Hid (IsM v19 (.slice za (prs es1).length zc) (prs es1)) from HMZ.out.below k69)
      replace HTZ := (show Hid (IsT v19 (.slice zb ps1.length zd) ps1) from HTZ.out.below k69)
      replace HMU := (show Hid (IsM v19 (.slice ta (prs es2).length tc) (prs es2)) from HMU.out.below k69)
      replace HTU := (show Hid (IsT v19 (.slice tb ps2.length td) ps2) from HTU.out.below k69)
      replace HMV := (show Hid (IsM v19 (.slice ma (prs es2).length mc) (prs es2)) from HMV.out.below k69)
      replace HE := (show Hid (Errs v19) from HE.out.below k69)
      replace HB := (show Hid (Below w.heap.size w v19) from HB.out.trans (k69.mono HB.out.size))
      clear k69
      go_wp2
      go_ret
      exact ⟨rfl, HB.out⟩
end Go.Proofs.YtdggchcapjidjaaGreatDoor.LPutText

/- The walk of a law on StreamPut: it answers true. -/
import Derived.Test.YtdggchcapjidjaaGreatDoorIg
import Derived.Test.YtdggchcapjidjaaGreatDoorPr
import Derived.Test.YtdggchcapjidjaaGreatDoorMlMi
namespace Go.Proofs.YtdggchcapjidjaaGreatDoor.LPutIn
open Go.RowKit Go.Shelf Go.Proofs.YtdggchcapjidjaaGreatDoor.Kit Go.Proofs.YtdggchcapjidjaaGreatDoor.Mp Go.Proofs.YtdggchcapjidjaaGreatDoor.Mm Go.Proofs.YtdggchcapjidjaaGreatDoor.Tx Go.Proofs.YtdggchcapjidjaaGreatDoor.Nm Go.Proofs.YtdggchcapjidjaaGreatDoor.App Go.Proofs.YtdggchcapjidjaaGreatDoor.St Go.Proofs.YtdggchcapjidjaaGreatDoor.StP Go.Proofs.YtdggchcapjidjaaGreatDoor.Ip
open Go.Proofs.YtdggchcapjidjaaGreatDoor.Read (Errs)
set_option linter.unusedSimpArgs false
set_option linter.unusedVariables false

theorem isM_cap {W : World} {a : Option Addr} {n c : Nat} {m : List (Int × Int × Int)} (h : IsM W (.slice a n c) m) : n ≤ c := by
  rcases h with ⟨h, _⟩ | ⟨g, o, cap, h, h2, _⟩
  · simp only [Value.slice.injEq] at h; omega
  · simp only [Value.slice.injEq] at h; omega
set_option maxHeartbeats 400000 in
theorem long (a0 : Option Addr) (len0 cap0 : Nat) (w : World) (h : (1048576 : Int) < (len0 : Int)) :
    Calls Tryz.prog 8 #[.slice a0 len0 cap0] w fun e w' => e = .returned (.bool true) ∧ Below w.heap.size w w' := by
  go_enter Tryz.func8, Tryz.ntmps8
  go_wp2
  go_ret
  exact ⟨rfl, Below.refl _ _⟩
set_option maxRecDepth 8000 in
set_option maxHeartbeats 16000000 in
theorem short (a0 : Option Addr) (len0 cap0 : Nat) (w : World) (z : Nat → Int) (hc : CodeIn w a0 len0 cap0 z) (h : (len0 : Int) ≤ 1048576) (herr : Errs w) :
    Calls Tryz.prog 8 #[.slice a0 len0 cap0] w fun e w' => e = .returned (.bool true) ∧ Below w.heap.size w w' := by
  go_enter Tryz.func8, Tryz.ntmps8
  go_wp2_with fail
  refine (drawStreamPut a0 len0 cap0 z _ hc).mono ?_
  rintro e w1 ⟨v, es, S, pv, ps, qi, T, o, rfl, hg, hM, hT, hSm, hq, hTs, k1⟩
  obtain ⟨q, rfl⟩ : ∃ q : Nat, qi = (q : Int) := ⟨qi.toNat, by omega⟩
  have hq40 : q ≤ 40 := by omega
  obtain ⟨va, vc, rfl⟩ := isM_slice hM
  obtain ⟨pa, pc, rfl, hT'⟩ := id hT
  clear hT' hq
  have hbM : (prs es).length ≤ 1048576 := by have := hg.len; rw [prs_len]; omega
  have hbT : ps.length ≤ 1048576 := by have := hSm.2.1; omega
  have hS41 : S.size ≤ 41 := hSm.1
  have hpp : ∀ p ∈ ps, p.2.size ≤ 1073741824 := fun p hp => by have := (hSm.2.2 p hp).2; omega
  have hTml : T.size ≤ maxLen := by unfold maxLen; omega
  have HPP := (show Hid (∀ p ∈ ps, p.2.size ≤ 1073741824) from hpp)
  clear hpp
  have hokm := okM_prs es hg
  obtain ⟨es1, S1, ps1, b, hG⟩ : ∃ es1 S1 ps1 b, putG o es S ps q T = (es1, S1, ps1, b) := ⟨_, _, _, _, rfl⟩
  have hgood := putG_good (o := o) (S := S) (ps := ps) (q := q) (T := T) hg
  rw [hG] at hgood
  obtain ⟨hg1, hst1⟩ := hgood
  simp only at hg1 hst1
  have hb1 : ps1.length ≤ 1048576 := by have := (stB_small hst1).1; omega
  have hb2 : (prs es1).length ≤ 1048576 := by have := hg1.len; rw [prs_len]; omega
  have HG := (show Hid (putG o es S ps q T = (es1, S1, ps1, b)) from hG)
  have HST1 := (show Hid (stB S1 ps1 = true) from hst1)
  clear hG hst1
  have kA : Below w1.heap.size w1 (w1.alloc (.cells #[.string S, .slice pa ps.length pc] 26)) := (Below.refl _ _).alloc (Nat.le_refl _) _
  have x0 : (w1.alloc (.cells #[.string S, .slice pa ps.length pc] 26)).cell? ⟨w1.heap.size, 0, none⟩ = some (.string S) := by simp
  have x1 : (w1.alloc (.cells #[.string S, .slice pa ps.length pc] 26)).cell? ⟨w1.heap.size, 1, none⟩ = some (.slice pa ps.length pc) := by simp
  have hx : w1.heap.size < (w1.alloc (.cells #[.string S, .slice pa ps.length pc] 26)).heap.size := by simp
  have HMX := (show Hid (IsM (w1.alloc (.cells #[.string S, .slice pa ps.length pc] 26)) (.slice va (prs es).length vc) (prs es)) from hM.below kA)
  have HTX := (show Hid (IsT (w1.alloc (.cells #[.string S, .slice pa ps.length pc] 26)) (.slice pa ps.length pc) ps) from hT.below kA)
  have HE := (show Hid (Errs (w1.alloc (.cells #[.string S, .slice pa ps.length pc] 26))) from (herr.below k1).below kA)
  have HB := (show Hid (Below w.heap.size w (w1.alloc (.cells #[.string S, .slice pa ps.length pc] 26))) from k1.trans (kA.mono k1.size))
  clear hM hT herr k1 kA
  go_wp2_with fail
  generalize (w1.alloc (.cells #[.string S, .slice pa ps.length pc] 26)) = u0 at *
  generalize w1.heap.size = X at *
  have hX : X < u0.heap.size := hx
  have cX0 := x0
  have cX1 := x1
  clear x0 x1 hx
  refine (sput_h _ _ es hg HMX.out S _ ps HTX.out hSm q hq40 T hTs o HG.out).mono ?_
  rintro e w21 ⟨ya, yc, yb, yd, rfl, hM', hT', kk1⟩
  have kA : Below u0.heap.size u0 (w21.alloc (.cells #[.string S1, .slice yb ps1.length yd] 26)) := kk1.alloc kk1.size _
  have x0 : (w21.alloc (.cells #[.string S1, .slice yb ps1.length yd] 26)).cell? ⟨w21.heap.size, 0, none⟩ = some (.string S1) := by simp
  have x1 : (w21.alloc (.cells #[.string S1, .slice yb ps1.length yd] 26)).cell? ⟨w21.heap.size, 1, none⟩ = some (.slice yb ps1.length yd) := by simp
  have hx : w21.heap.size < (w21.alloc (.cells #[.string S1, .slice yb ps1.length yd] 26)).heap.size := by simp
  have bz : Below w21.heap.size w21 (w21.alloc (.cells #[.string S1, .slice yb ps1.length yd] 26)) := (Below.refl _ _).alloc (Nat.le_refl _) _
  have HMY := (show Hid (IsM (w21.alloc (.cells #[.string S1, .slice yb ps1.length yd] 26)) (.slice ya (prs es1).length yc) (prs es1)) from hM'.below bz)
  have HTY := (show Hid (IsT (w21.alloc (.cells #[.string S1, .slice yb ps1.length yd] 26)) (.slice yb ps1.length yd) ps1) from hT'.below bz)
  clear hM' hT' bz kk1
  replace cX0 := (kA.cell (p := ⟨X, 0, none⟩) hX).trans cX0
  replace cX1 := (kA.cell (p := ⟨X, 1, none⟩) hX).trans cX1
  replace hX : X < (w21.alloc (.cells #[.string S1, .slice yb ps1.length yd] 26)).heap.size := Nat.lt_of_lt_of_le hX kA.size
  replace HMX := (show Hid (IsM (w21.alloc (.cells #[.string S1, .slice yb ps1.length yd] 26)) (.slice va (prs es).length vc) (prs es)) from HMX.out.below kA)
  replace HTX := (show Hid (IsT (w21.alloc (.cells #[.string S1, .slice yb ps1.length yd] 26)) (.slice pa ps.length pc) ps) from HTX.out.below kA)
  replace HE := (show Hid (Errs (w21.alloc (.cells #[.string S1, .slice yb ps1.length yd] 26))) from HE.out.below kA)
  replace HB := (show Hid (Below w.heap.size w (w21.alloc (.cells #[.string S1, .slice yb ps1.length yd] 26))) from HB.out.trans (kA.mono HB.out.size))
  clear kA
  go_wp2_with fail
  generalize (w21.alloc (.cells #[.string S1, .slice yb ps1.length yd] 26)) = u2 at *
  generalize w21.heap.size = Y at *
  have hY : Y < u2.heap.size := hx
  have cY0 := x0
  have cY1 := x1
  clear x0 x1 hx
  refine (iput_h _ _ es hg HMX.out S _ ps HTX.out q hq40 T o HE.out HG.out).mono ?_
  rintro e w23 ⟨za, zc, zb, zd, rfl, hM', hT', kk3⟩
  have kA : Below u2.heap.size u2 (w23.alloc (.cells #[.string S1, .slice zb ps1.length zd] 26)) := kk3.alloc kk3.size _
  have x0 : (w23.alloc (.cells #[.string S1, .slice zb ps1.length zd] 26)).cell? ⟨w23.heap.size, 0, none⟩ = some (.string S1) := by simp
  have x1 : (w23.alloc (.cells #[.string S1, .slice zb ps1.length zd] 26)).cell? ⟨w23.heap.size, 1, none⟩ = some (.slice zb ps1.length zd) := by simp
  have hx : w23.heap.size < (w23.alloc (.cells #[.string S1, .slice zb ps1.length zd] 26)).heap.size := by simp
  have bz : Below w23.heap.size w23 (w23.alloc (.cells #[.string S1, .slice zb ps1.length zd] 26)) := (Below.refl _ _).alloc (Nat.le_refl _) _
  have HMZ := (show Hid (IsM (w23.alloc (.cells #[.string S1, .slice zb ps1.length zd] 26)) (.slice za (prs es1).length zc) (prs es1)) from hM'.below bz)
  have HTZ := (show Hid (IsT (w23.alloc (.cells #[.string S1, .slice zb ps1.length zd] 26)) (.slice zb ps1.length zd) ps1) from hT'.below bz)
  clear hM' hT' bz kk3
  replace cX0 := (kA.cell (p := ⟨X, 0, none⟩) hX).trans cX0
  replace cX1 := (kA.cell (p := ⟨X, 1, none⟩) hX).trans cX1
  replace cY0 := (kA.cell (p := ⟨Y, 0, none⟩) hY).trans cY0
  replace cY1 := (kA.cell (p := ⟨Y, 1, none⟩) hY).trans cY1
  replace hX : X < (w23.alloc (.cells #[.string S1, .slice zb ps1.length zd] 26)).heap.size := Nat.lt_of_lt_of_le hX kA.size
  replace hY : Y < (w23.alloc (.cells #[.string S1, .slice zb ps1.length zd] 26)).heap.size := Nat.lt_of_lt_of_le hY kA.size
  replace HMX := (show Hid (IsM (w23.alloc (.cells #[.string S1, .slice zb ps1.length zd] 26)) (.slice va (prs es).length vc) (prs es)) from HMX.out.below kA)
  replace HTX := (show Hid (IsT (w23.alloc (.cells #[.string S1, .slice zb ps1.length zd] 26)) (.slice pa ps.length pc) ps) from HTX.out.below kA)
  replace HMY := (show Hid (IsM (w23.alloc (.cells #[.string S1, .slice zb ps1.length zd] 26)) (.slice ya (prs es1).length yc) (prs es1)) from HMY.out.below kA)
  replace HTY := (show Hid (IsT (w23.alloc (.cells #[.string S1, .slice zb ps1.length zd] 26)) (.slice yb ps1.length yd) ps1) from HTY.out.below kA)
  replace HE := (show Hid (Errs (w23.alloc (.cells #[.string S1, .slice zb ps1.length zd] 26))) from HE.out.below kA)
  replace HB := (show Hid (Below w.heap.size w (w23.alloc (.cells #[.string S1, .slice zb ps1.length zd] 26))) from HB.out.trans (kA.mono HB.out.size))
  clear kA
  go_wp2_with fail
  generalize (w23.alloc (.cells #[.string S1, .slice zb ps1.length zd] 26)) = u4 at *
  generalize w23.heap.size = Z at *
  have hZ : Z < u4.heap.size := hx
  have cZ0 := x0
  have cZ1 := x1
  clear x0 x1 hx
  refine (LzT.lzs_same _ S1 _ _ ps1 hb1 HTZ.out HTY.out).mono ?_
  rintro e v5 ⟨rfl, k55⟩
  replace cX0 := (k55.cell (p := ⟨X, 0, none⟩) hX).trans cX0
  replace cX1 := (k55.cell (p := ⟨X, 1, none⟩) hX).trans cX1
  replace cY0 := (k55.cell (p := ⟨Y, 0, none⟩) hY).trans cY0
  replace cY1 := (k55.cell (p := ⟨Y, 1, none⟩) hY).trans cY1
  replace cZ0 := (k55.cell (p := ⟨Z, 0, none⟩) hZ).trans cZ0
  replace cZ1 := (k55.cell (p := ⟨Z, 1, none⟩) hZ).trans cZ1
  replace hX : X < v5.heap.size := Nat.lt_of_lt_of_le hX k55.size
  replace hY : Y < v5.heap.size := Nat.lt_of_lt_of_le hY k55.size
  replace hZ : Z < v5.heap.size := Nat.lt_of_lt_of_le hZ k55.size
  replace HMX := (show Hid (IsM v5 (.slice va (prs es).length vc) (prs es)) from HMX.out.below k55)
  replace HTX := (show Hid (IsT v5 (.slice pa ps.length pc) ps) from HTX.out.below k55)
  replace HMY := (show Hid (IsM v5 (.slice ya (prs es1).length yc) (prs es1)) from HMY.out.below k55)
  replace HTY := (show Hid (IsT v5 (.slice yb ps1.length yd) ps1) from HTY.out.below k55)
  replace HMZ := (show Hid (IsM v5 (.slice za (prs es1).length zc) (prs es1)) from HMZ.out.below k55)
  replace HTZ := (show Hid (IsT v5 (.slice zb ps1.length zd) ps1) from HTZ.out.below k55)
  replace HE := (show Hid (Errs v5) from HE.out.below k55)
  replace HB := (show Hid (Below w.heap.size w v5) from HB.out.trans (k55.mono HB.out.size))
  clear k55
  go_wp2_with fail
  refine (LzM.lz_same _ (prs es1) hb2 _ _ HMZ.out HMY.out).mono ?_
  rintro e v6 ⟨rfl, k56⟩
  replace cX0 := (k56.cell (p := ⟨X, 0, none⟩) hX).trans cX0
  replace cX1 := (k56.cell (p := ⟨X, 1, none⟩) hX).trans cX1
  replace cY0 := (k56.cell (p := ⟨Y, 0, none⟩) hY).trans cY0
  replace cY1 := (k56.cell (p := ⟨Y, 1, none⟩) hY).trans cY1
  replace cZ0 := (k56.cell (p := ⟨Z, 0, none⟩) hZ).trans cZ0
  replace cZ1 := (k56.cell (p := ⟨Z, 1, none⟩) hZ).trans cZ1
  replace hX : X < v6.heap.size := Nat.lt_of_lt_of_le hX k56.size
  replace hY : Y < v6.heap.size := Nat.lt_of_lt_of_le hY k56.size
  replace hZ : Z < v6.heap.size := Nat.lt_of_lt_of_le hZ k56.size
  replace HMX := (show Hid (IsM v6 (.slice va (prs es).length vc) (prs es)) from HMX.out.below k56)
  replace HTX := (show Hid (IsT v6 (.slice pa ps.length pc) ps) from HTX.out.below k56)
  replace HMY := (show Hid (IsM v6 (.slice ya (prs es1).length yc) (prs es1)) from HMY.out.below k56)
  replace HTY := (show Hid (IsT v6 (.slice yb ps1.length yd) ps1) from HTY.out.below k56)
  replace HMZ := (show Hid (IsM v6 (.slice za (prs es1).length zc) (prs es1)) from HMZ.out.below k56)
  replace HTZ := (show Hid (IsT v6 (.slice zb ps1.length zd) ps1) from HTZ.out.below k56)
  replace HE := (show Hid (Errs v6) from HE.out.below k56)
  replace HB := (show Hid (Below w.heap.size w v6) from HB.out.trans (k56.mono HB.out.size))
  clear k56
  go_wp2_with fail
  refine (Ms.sok_any _ _ (prs es) HMX.out (by omega)).mono ?_
  rintro e v7 ⟨rfl, k57⟩
  rw [hokm]
  replace cX0 := (k57.cell (p := ⟨X, 0, none⟩) hX).trans cX0
  replace cX1 := (k57.cell (p := ⟨X, 1, none⟩) hX).trans cX1
  replace cY0 := (k57.cell (p := ⟨Y, 0, none⟩) hY).trans cY0
  replace cY1 := (k57.cell (p := ⟨Y, 1, none⟩) hY).trans cY1
  replace cZ0 := (k57.cell (p := ⟨Z, 0, none⟩) hZ).trans cZ0
  replace cZ1 := (k57.cell (p := ⟨Z, 1, none⟩) hZ).trans cZ1
  replace hX : X < v7.heap.size := Nat.lt_of_lt_of_le hX k57.size
  replace hY : Y < v7.heap.size := Nat.lt_of_lt_of_le hY k57.size
  replace hZ : Z < v7.heap.size := Nat.lt_of_lt_of_le hZ k57.size
  replace HMX := (show Hid (IsM v7 (.slice va (prs es).length vc) (prs es)) from HMX.out.below k57)
  replace HTX := (show Hid (IsT v7 (.slice pa ps.length pc) ps) from HTX.out.below k57)
  replace HMY := (show Hid (IsM v7 (.slice ya (prs es1).length yc) (prs es1)) from HMY.out.below k57)
  replace HTY := (show Hid (IsT v7 (.slice yb ps1.length yd) ps1) from HTY.out.below k57)
  replace HMZ := (show Hid (IsM v7 (.slice za (prs es1).length zc) (prs es1)) from HMZ.out.below k57)
  replace HTZ := (show Hid (IsT v7 (.slice zb ps1.length zd) ps1) from HTZ.out.below k57)
  replace HE := (show Hid (Errs v7) from HE.out.below k57)
  replace HB := (show Hid (Below w.heap.size w v7) from HB.out.trans (k57.mono HB.out.size))
  clear k57
  go_wp2_with fail
  refine (StS.sstream_any S _ ps _ HTX.out (by omega) HPP.out).mono ?_
  rintro e v8 ⟨rfl, k58⟩
  replace cX0 := (k58.cell (p := ⟨X, 0, none⟩) hX).trans cX0
  replace cX1 := (k58.cell (p := ⟨X, 1, none⟩) hX).trans cX1
  replace cY0 := (k58.cell (p := ⟨Y, 0, none⟩) hY).trans cY0
  replace cY1 := (k58.cell (p := ⟨Y, 1, none⟩) hY).trans cY1
  replace cZ0 := (k58.cell (p := ⟨Z, 0, none⟩) hZ).trans cZ0
  replace cZ1 := (k58.cell (p := ⟨Z, 1, none⟩) hZ).trans cZ1
  replace hX : X < v8.heap.size := Nat.lt_of_lt_of_le hX k58.size
  replace hY : Y < v8.heap.size := Nat.lt_of_lt_of_le hY k58.size
  replace hZ : Z < v8.heap.size := Nat.lt_of_lt_of_le hZ k58.size
  replace HMX := (show Hid (IsM v8 (.slice va (prs es).length vc) (prs es)) from HMX.out.below k58)
  replace HTX := (show Hid (IsT v8 (.slice pa ps.length pc) ps) from HTX.out.below k58)
  replace HMY := (show Hid (IsM v8 (.slice ya (prs es1).length yc) (prs es1)) from HMY.out.below k58)
  replace HTY := (show Hid (IsT v8 (.slice yb ps1.length yd) ps1) from HTY.out.below k58)
  replace HMZ := (show Hid (IsM v8 (.slice za (prs es1).length zc) (prs es1)) from HMZ.out.below k58)
  replace HTZ := (show Hid (IsT v8 (.slice zb ps1.length zd) ps1) from HTZ.out.below k58)
  replace HE := (show Hid (Errs v8) from HE.out.below k58)
  replace HB := (show Hid (Below w.heap.size w v8) from HB.out.trans (k58.mono HB.out.size))
  clear k58
  cases hst : stB S ps
  · skip
    go_wp2_with fail
    refine (LzT.lzs_same _ S1 _ _ ps1 hb1 HTZ.out HTY.out).mono ?_
    rintro e v9 ⟨rfl, k59⟩
    replace cX0 := (k59.cell (p := ⟨X, 0, none⟩) hX).trans cX0
    replace cX1 := (k59.cell (p := ⟨X, 1, none⟩) hX).trans cX1
    replace cY0 := (k59.cell (p := ⟨Y, 0, none⟩) hY).trans cY0
    replace cY1 := (k59.cell (p := ⟨Y, 1, none⟩) hY).trans cY1
    replace cZ0 := (k59.cell (p := ⟨Z, 0, none⟩) hZ).trans cZ0
    replace cZ1 := (k59.cell (p := ⟨Z, 1, none⟩) hZ).trans cZ1
    replace hX : X < v9.heap.size := Nat.lt_of_lt_of_le hX k59.size
    replace hY : Y < v9.heap.size := Nat.lt_of_lt_of_le hY k59.size
    replace hZ : Z < v9.heap.size := Nat.lt_of_lt_of_le hZ k59.size
    replace HMX := (show Hid (IsM v9 (.slice va (prs es).length vc) (prs es)) from HMX.out.below k59)
    replace HTX := (show Hid (IsT v9 (.slice pa ps.length pc) ps) from HTX.out.below k59)
    replace HMY := (show Hid (IsM v9 (.slice ya (prs es1).length yc) (prs es1)) from HMY.out.below k59)
    replace HTY := (show Hid (IsT v9 (.slice yb ps1.length yd) ps1) from HTY.out.below k59)
    replace HMZ := (show Hid (IsM v9 (.slice za (prs es1).length zc) (prs es1)) from HMZ.out.below k59)
    replace HTZ := (show Hid (IsT v9 (.slice zb ps1.length zd) ps1) from HTZ.out.below k59)
    replace HE := (show Hid (Errs v9) from HE.out.below k59)
    replace HB := (show Hid (Below w.heap.size w v9) from HB.out.trans (k59.mono HB.out.size))
    clear k59
    go_wp2_with fail
    refine (LzM.lz_same _ (prs es1) hb2 _ _ HMZ.out HMY.out).mono ?_
    rintro e v10 ⟨rfl, k60⟩
    replace cX0 := (k60.cell (p := ⟨X, 0, none⟩) hX).trans cX0
    replace cX1 := (k60.cell (p := ⟨X, 1, none⟩) hX).trans cX1
    replace cY0 := (k60.cell (p := ⟨Y, 0, none⟩) hY).trans cY0
    replace cY1 := (k60.cell (p := ⟨Y, 1, none⟩) hY).trans cY1
    replace cZ0 := (k60.cell (p := ⟨Z, 0, none⟩) hZ).trans cZ0
    replace cZ1 := (k60.cell (p := ⟨Z, 1, none⟩) hZ).trans cZ1
    replace hX : X < v10.heap.size := Nat.lt_of_lt_of_le hX k60.size
    replace hY : Y < v10.heap.size := Nat.lt_of_lt_of_le hY k60.size
    replace hZ : Z < v10.heap.size := Nat.lt_of_lt_of_le hZ k60.size
    replace HMX := (show Hid (IsM v10 (.slice va (prs es).length vc) (prs es)) from HMX.out.below k60)
    replace HTX := (show Hid (IsT v10 (.slice pa ps.length pc) ps) from HTX.out.below k60)
    replace HMY := (show Hid (IsM v10 (.slice ya (prs es1).length yc) (prs es1)) from HMY.out.below k60)
    replace HTY := (show Hid (IsT v10 (.slice yb ps1.length yd) ps1) from HTY.out.below k60)
    replace HMZ := (show Hid (IsM v10 (.slice za (prs es1).length zc) (prs es1)) from HMZ.out.below k60)
    replace HTZ := (show Hid (IsT v10 (.slice zb ps1.length zd) ps1) from HTZ.out.below k60)
    replace HE := (show Hid (Errs v10) from HE.out.below k60)
    replace HB := (show Hid (Below w.heap.size w v10) from HB.out.trans (k60.mono HB.out.size))
    clear k60
    go_wp2
    go_ret
    exact ⟨rfl, HB.out⟩
  · skip
    go_wp2_with fail
    refine (TxW.sok_any T hTml _).mono ?_
    rintro e vv ⟨rfl, rfl⟩
    cases hTok : okB T.data.toList
    · skip
      go_wp2_with fail
      refine (LzT.lzs_same _ S1 _ _ ps1 hb1 HTZ.out HTY.out).mono ?_
      rintro e v11 ⟨rfl, k61⟩
      replace cX0 := (k61.cell (p := ⟨X, 0, none⟩) hX).trans cX0
      replace cX1 := (k61.cell (p := ⟨X, 1, none⟩) hX).trans cX1
      replace cY0 := (k61.cell (p := ⟨Y, 0, none⟩) hY).trans cY0
      replace cY1 := (k61.cell (p := ⟨Y, 1, none⟩) hY).trans cY1
      replace cZ0 := (k61.cell (p := ⟨Z, 0, none⟩) hZ).trans cZ0
      replace cZ1 := (k61.cell (p := ⟨Z, 1, none⟩) hZ).trans cZ1
      replace hX : X < v11.heap.size := Nat.lt_of_lt_of_le hX k61.size
      replace hY : Y < v11.heap.size := Nat.lt_of_lt_of_le hY k61.size
      replace hZ : Z < v11.heap.size := Nat.lt_of_lt_of_le hZ k61.size
      replace HMX := (show Hid (IsM v11 (.slice va (prs es).length vc) (prs es)) from HMX.out.below k61)
      replace HTX := (show Hid (IsT v11 (.slice pa ps.length pc) ps) from HTX.out.below k61)
      replace HMY := (show Hid (IsM v11 (.slice ya (prs es1).length yc) (prs es1)) from HMY.out.below k61)
      replace HTY := (show Hid (IsT v11 (.slice yb ps1.length yd) ps1) from HTY.out.below k61)
      replace HMZ := (show Hid (IsM v11 (.slice za (prs es1).length zc) (prs es1)) from HMZ.out.below k61)
      replace HTZ := (show Hid (IsT v11 (.slice zb ps1.length zd) ps1) from HTZ.out.below k61)
      replace HE := (show Hid (Errs v11) from HE.out.below k61)
      replace HB := (show Hid (Below w.heap.size w v11) from HB.out.trans (k61.mono HB.out.size))
      clear k61
      go_wp2_with fail
      refine (LzM.lz_same _ (prs es1) hb2 _ _ HMZ.out HMY.out).mono ?_
      rintro e v12 ⟨rfl, k62⟩
      replace cX0 := (k62.cell (p := ⟨X, 0, none⟩) hX).trans cX0
      replace cX1 := (k62.cell (p := ⟨X, 1, none⟩) hX).trans cX1
      replace cY0 := (k62.cell (p := ⟨Y, 0, none⟩) hY).trans cY0
      replace cY1 := (k62.cell (p := ⟨Y, 1, none⟩) hY).trans cY1
      replace cZ0 := (k62.cell (p := ⟨Z, 0, none⟩) hZ).trans cZ0
      replace cZ1 := (k62.cell (p := ⟨Z, 1, none⟩) hZ).trans cZ1
      replace hX : X < v12.heap.size := Nat.lt_of_lt_of_le hX k62.size
      replace hY : Y < v12.heap.size := Nat.lt_of_lt_of_le hY k62.size
      replace hZ : Z < v12.heap.size := Nat.lt_of_lt_of_le hZ k62.size
      replace HMX := (show Hid (IsM v12 (.slice va (prs es).length vc) (prs es)) from HMX.out.below k62)
      replace HTX := (show Hid (IsT v12 (.slice pa ps.length pc) ps) from HTX.out.below k62)
      replace HMY := (show Hid (IsM v12 (.slice ya (prs es1).length yc) (prs es1)) from HMY.out.below k62)
      replace HTY := (show Hid (IsT v12 (.slice yb ps1.length yd) ps1) from HTY.out.below k62)
      replace HMZ := (show Hid (IsM v12 (.slice za (prs es1).length zc) (prs es1)) from HMZ.out.below k62)
      replace HTZ := (show Hid (IsT v12 (.slice zb ps1.length zd) ps1) from HTZ.out.below k62)
      replace HE := (show Hid (Errs v12) from HE.out.below k62)
      replace HB := (show Hid (Below w.heap.size w v12) from HB.out.trans (k62.mono HB.out.size))
      clear k62
      go_wp2
      go_ret
      exact ⟨rfl, HB.out⟩
    · skip
      have HST := (show Hid (stB S ps = true) from hst)
      have hpre : es <+: es1 := by
        have := (putF_ok o q T hg hst hTok).2.2
        rw [← putG_ok hst hTok, HG.out] at this
        exact this
      have hle0 : (prs es).length ≤ (prs es1).length := by rw [prs_len, prs_len]; exact hpre.length_le
      have htk : (prs es1).take (prs es).length = prs es := by rw [prs_take, prs_len, ← List.prefix_iff_eq_take.1 hpre]
      obtain ⟨S2, ps2, b2, hG2⟩ : ∃ S2 ps2 b2, putG false es S ps q T = (es, S2, ps2, b2) := by
        rw [putG_ok hst hTok]
        exact ⟨_, _, _, Prod.ext (putF_in _ _ _ _ _) rfl⟩
      have HPR := (show Hid (es <+: es1) from hpre)
      have HTK := (show Hid ((prs es1).take (prs es).length = prs es) from htk)
      clear hst hpre htk
      go_wp2_with fail
      refine (iput_h _ _ es hg HMX.out S _ ps HTX.out q hq40 T false HE.out hG2).mono ?_
      rintro e w33 ⟨ta, tc, tb, td, rfl, hM', hT', kk13⟩
      have kA : Below vv.heap.size vv (w33.alloc (.cells #[.string S2, .slice tb ps2.length td] 26)) := kk13.alloc kk13.size _
      have x0 : (w33.alloc (.cells #[.string S2, .slice tb ps2.length td] 26)).cell? ⟨w33.heap.size, 0, none⟩ = some (.string S2) := by simp
      have x1 : (w33.alloc (.cells #[.string S2, .slice tb ps2.length td] 26)).cell? ⟨w33.heap.size, 1, none⟩ = some (.slice tb ps2.length td) := by simp
      have hx : w33.heap.size < (w33.alloc (.cells #[.string S2, .slice tb ps2.length td] 26)).heap.size := by simp
      have bz : Below w33.heap.size w33 (w33.alloc (.cells #[.string S2, .slice tb ps2.length td] 26)) := (Below.refl _ _).alloc (Nat.le_refl _) _
      have HMU := (show Hid (IsM (w33.alloc (.cells #[.string S2, .slice tb ps2.length td] 26)) (.slice ta (prs es).length tc) (prs es)) from hM'.below bz)
      have HTU := (show Hid (IsT (w33.alloc (.cells #[.string S2, .slice tb ps2.length td] 26)) (.slice tb ps2.length td) ps2) from hT'.below bz)
      clear hM' hT' bz kk13
      replace cX0 := (kA.cell (p := ⟨X, 0, none⟩) hX).trans cX0
      replace cX1 := (kA.cell (p := ⟨X, 1, none⟩) hX).trans cX1
      replace cY0 := (kA.cell (p := ⟨Y, 0, none⟩) hY).trans cY0
      replace cY1 := (kA.cell (p := ⟨Y, 1, none⟩) hY).trans cY1
      replace cZ0 := (kA.cell (p := ⟨Z, 0, none⟩) hZ).trans cZ0
      replace cZ1 := (kA.cell (p := ⟨Z, 1, none⟩) hZ).trans cZ1
      replace hX : X < (w33.alloc (.cells #[.string S2, .slice tb ps2.length td] 26)).heap.size := Nat.lt_of_lt_of_le hX kA.size
      replace hY : Y < (w33.alloc (.cells #[.string S2, .slice tb ps2.length td] 26)).heap.size := Nat.lt_of_lt_of_le hY kA.size
      replace hZ : Z < (w33.alloc (.cells #[.string S2, .slice tb ps2.length td] 26)).heap.size := Nat.lt_of_lt_of_le hZ kA.size
      replace HMX := (show Hid (IsM (w33.alloc (.cells #[.string S2, .slice tb ps2.length td] 26)) (.slice va (prs es).length vc) (prs es)) from HMX.out.below kA)
      replace HTX := (show Hid (IsT (w33.alloc (.cells #[.string S2, .slice tb ps2.length td] 26)) (.slice pa ps.length pc) ps) from HTX.out.below kA)
      replace HMY := (show Hid (IsM (w33.alloc (.cells #[.string S2, .slice tb ps2.length td] 26)) (.slice ya (prs es1).length yc) (prs es1)) from HMY.out.below kA)
      replace HTY := (show Hid (IsT (w33.alloc (.cells #[.string S2, .slice tb ps2.length td] 26)) (.slice yb ps1.length yd) ps1) from HTY.out.below kA)
      replace HMZ := (show Hid (IsM (w33.alloc (.cells #[.string S2, .slice tb ps2.length td] 26)) (.slice za (prs es1).length zc) (prs es1)) from HMZ.out.below kA)
      replace HTZ := (show Hid (IsT (w33.alloc (.cells #[.string S2, .slice tb ps2.length td] 26)) (.slice zb ps1.length zd) ps1) from HTZ.out.below kA)
      replace HE := (show Hid (Errs (w33.alloc (.cells #[.string S2, .slice tb ps2.length td] 26))) from HE.out.below kA)
      replace HB := (show Hid (Below w.heap.size w (w33.alloc (.cells #[.string S2, .slice tb ps2.length td] 26))) from HB.out.trans (kA.mono HB.out.size))
      clear kA
      go_wp2_with fail
      generalize (w33.alloc (.cells #[.string S2, .slice tb ps2.length td] 26)) = u14 at *
      generalize w33.heap.size = U at *
      have hU : U < u14.heap.size := hx
      have cU0 := x0
      have cU1 := x1
      clear x0 x1 hx
      refine (LzM.lz_same _ (prs es) hbM _ _ HMU.out HMX.out).mono ?_
      rintro e v15 ⟨rfl, k65⟩
      replace cX0 := (k65.cell (p := ⟨X, 0, none⟩) hX).trans cX0
      replace cX1 := (k65.cell (p := ⟨X, 1, none⟩) hX).trans cX1
      replace cY0 := (k65.cell (p := ⟨Y, 0, none⟩) hY).trans cY0
      replace cY1 := (k65.cell (p := ⟨Y, 1, none⟩) hY).trans cY1
      replace cZ0 := (k65.cell (p := ⟨Z, 0, none⟩) hZ).trans cZ0
      replace cZ1 := (k65.cell (p := ⟨Z, 1, none⟩) hZ).trans cZ1
      replace cU0 := (k65.cell (p := ⟨U, 0, none⟩) hU).trans cU0
      replace cU1 := (k65.cell (p := ⟨U, 1, none⟩) hU).trans cU1
      replace hX : X < v15.heap.size := Nat.lt_of_lt_of_le hX k65.size
      replace hY : Y < v15.heap.size := Nat.lt_of_lt_of_le hY k65.size
      replace hZ : Z < v15.heap.size := Nat.lt_of_lt_of_le hZ k65.size
      replace hU : U < v15.heap.size := Nat.lt_of_lt_of_le hU k65.size
      replace HMX := (show Hid (IsM v15 (.slice va (prs es).length vc) (prs es)) from HMX.out.below k65)
      replace HTX := (show Hid (IsT v15 (.slice pa ps.length pc) ps) from HTX.out.below k65)
      replace HMY := (show Hid (IsM v15 (.slice ya (prs es1).length yc) (prs es1)) from HMY.out.below k65)
      replace HTY := (show Hid (IsT v15 (.slice yb ps1.length yd) ps1) from HTY.out.below k65)
      replace HMZ := (show Hid (IsM v15 (.slice za (prs es1).length zc) (prs es1)) from HMZ.out.below k65)
      replace HTZ := (show Hid (IsT v15 (.slice zb ps1.length zd) ps1) from HTZ.out.below k65)
      replace HMU := (show Hid (IsM v15 (.slice ta (prs es).length tc) (prs es)) from HMU.out.below k65)
      replace HTU := (show Hid (IsT v15 (.slice tb ps2.length td) ps2) from HTU.out.below k65)
      replace HE := (show Hid (Errs v15) from HE.out.below k65)
      replace HB := (show Hid (Below w.heap.size w v15) from HB.out.trans (k65.mono HB.out.size))
      clear k65
      have hle : ((prs es).length : Int) ≤ ((prs es1).length : Int) := by omega
      have hcp0 := isM_cap HMZ.out
      have hcap : ((prs es).length : Int) ≤ (zc : Int) := by omega
      have hTake := isM_take HMZ.out (prs es).length hle0
      rw [HTK.out] at hTake
      have HTA := (show Hid (IsM v15 (.slice za (prs es).length zc) (prs es)) from hTake)
      clear hTake
      go_wp2_with fail
      refine (LzM.lz_same _ (prs es) hbM _ _ HTA.out HMX.out).mono ?_
      rintro e v16 ⟨rfl, k66⟩
      replace cX0 := (k66.cell (p := ⟨X, 0, none⟩) hX).trans cX0
      replace cX1 := (k66.cell (p := ⟨X, 1, none⟩) hX).trans cX1
      replace cY0 := (k66.cell (p := ⟨Y, 0, none⟩) hY).trans cY0
      replace cY1 := (k66.cell (p := ⟨Y, 1, none⟩) hY).trans cY1
      replace cZ0 := (k66.cell (p := ⟨Z, 0, none⟩) hZ).trans cZ0
      replace cZ1 := (k66.cell (p := ⟨Z, 1, none⟩) hZ).trans cZ1
      replace cU0 := (k66.cell (p := ⟨U, 0, none⟩) hU).trans cU0
      replace cU1 := (k66.cell (p := ⟨U, 1, none⟩) hU).trans cU1
      replace hX : X < v16.heap.size := Nat.lt_of_lt_of_le hX k66.size
      replace hY : Y < v16.heap.size := Nat.lt_of_lt_of_le hY k66.size
      replace hZ : Z < v16.heap.size := Nat.lt_of_lt_of_le hZ k66.size
      replace hU : U < v16.heap.size := Nat.lt_of_lt_of_le hU k66.size
      replace HMX := (show Hid (IsM v16 (.slice va (prs es).length vc) (prs es)) from HMX.out.below k66)
      replace HTX := (show Hid (IsT v16 (.slice pa ps.length pc) ps) from HTX.out.below k66)
      replace HMY := (show Hid (IsM v16 (.slice ya (prs es1).length yc) (prs es1)) from HMY.out.below k66)
      replace HTY := (show Hid (IsT v16 (.slice yb ps1.length yd) ps1) from HTY.out.below k66)
      replace HMZ := (show Hid (IsM v16 (.slice za (prs es1).length zc) (prs es1)) from HMZ.out.below k66)
      replace HTZ := (show Hid (IsT v16 (.slice zb ps1.length zd) ps1) from HTZ.out.below k66)
      replace HMU := (show Hid (IsM v16 (.slice ta (prs es).length tc) (prs es)) from HMU.out.below k66)
      replace HTU := (show Hid (IsT v16 (.slice tb ps2.length td) ps2) from HTU.out.below k66)
      replace HE := (show Hid (Errs v16) from HE.out.below k66)
      replace HB := (show Hid (Below w.heap.size w v16) from HB.out.trans (k66.mono HB.out.size))
      clear k66
      go_wp2_with fail
      refine (Ml.ok_any _ _ (prs es1) HMZ.out).mono ?_
      rintro e v17 ⟨rfl, k67⟩
      rw [okM_prs es1 hg1]
      replace cX0 := (k67.cell (p := ⟨X, 0, none⟩) hX).trans cX0
      replace cX1 := (k67.cell (p := ⟨X, 1, none⟩) hX).trans cX1
      replace cY0 := (k67.cell (p := ⟨Y, 0, none⟩) hY).trans cY0
      replace cY1 := (k67.cell (p := ⟨Y, 1, none⟩) hY).trans cY1
      replace cZ0 := (k67.cell (p := ⟨Z, 0, none⟩) hZ).trans cZ0
      replace cZ1 := (k67.cell (p := ⟨Z, 1, none⟩) hZ).trans cZ1
      replace cU0 := (k67.cell (p := ⟨U, 0, none⟩) hU).trans cU0
      replace cU1 := (k67.cell (p := ⟨U, 1, none⟩) hU).trans cU1
      replace hX : X < v17.heap.size := Nat.lt_of_lt_of_le hX k67.size
      replace hY : Y < v17.heap.size := Nat.lt_of_lt_of_le hY k67.size
      replace hZ : Z < v17.heap.size := Nat.lt_of_lt_of_le hZ k67.size
      replace hU : U < v17.heap.size := Nat.lt_of_lt_of_le hU k67.size
      replace HMX := (show Hid (IsM v17 (.slice va (prs es).length vc) (prs es)) from HMX.out.below k67)
      replace HTX := (show Hid (IsT v17 (.slice pa ps.length pc) ps) from HTX.out.below k67)
      replace HMY := (show Hid (IsM v17 (.slice ya (prs es1).length yc) (prs es1)) from HMY.out.below k67)
      replace HTY := (show Hid (IsT v17 (.slice yb ps1.length yd) ps1) from HTY.out.below k67)
      replace HMZ := (show Hid (IsM v17 (.slice za (prs es1).length zc) (prs es1)) from HMZ.out.below k67)
      replace HTZ := (show Hid (IsT v17 (.slice zb ps1.length zd) ps1) from HTZ.out.below k67)
      replace HMU := (show Hid (IsM v17 (.slice ta (prs es).length tc) (prs es)) from HMU.out.below k67)
      replace HTU := (show Hid (IsT v17 (.slice tb ps2.length td) ps2) from HTU.out.below k67)
      replace HE := (show Hid (Errs v17) from HE.out.below k67)
      replace HB := (show Hid (Below w.heap.size w v17) from HB.out.trans (k67.mono HB.out.size))
      clear k67
      go_wp2
      go_ret
      exact ⟨rfl, HB.out⟩
end Go.Proofs.YtdggchcapjidjaaGreatDoor.LPutIn

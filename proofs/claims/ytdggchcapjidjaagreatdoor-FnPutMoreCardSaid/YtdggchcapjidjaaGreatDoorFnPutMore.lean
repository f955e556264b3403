/- The walk of a law on StreamPut: it answers true. -/
import Derived.Test.YtdggchcapjidjaaGreatDoorIg
import Derived.Test.YtdggchcapjidjaaGreatDoorPr
import Derived.Test.YtdggchcapjidjaaGreatDoorRi
namespace Go.Proofs.YtdggchcapjidjaaGreatDoor.LPutMore
open Go.RowKit Go.Shelf Go.Proofs.YtdggchcapjidjaaGreatDoor.Kit Go.Proofs.YtdggchcapjidjaaGreatDoor.Mp Go.Proofs.YtdggchcapjidjaaGreatDoor.Mm Go.Proofs.YtdggchcapjidjaaGreatDoor.Tx Go.Proofs.YtdggchcapjidjaaGreatDoor.Nm Go.Proofs.YtdggchcapjidjaaGreatDoor.App Go.Proofs.YtdggchcapjidjaaGreatDoor.St Go.Proofs.YtdggchcapjidjaaGreatDoor.StP Go.Proofs.YtdggchcapjidjaaGreatDoor.Ip
open Go.Proofs.YtdggchcapjidjaaGreatDoor.Read (Errs)
set_option linter.unusedSimpArgs false
set_option linter.unusedVariables false

theorem isT_tk {W : World} {a : Option Addr} {n c : Nat} {ps : List (Int × ByteArray)} (h : IsT W (.slice a n c) ps) (k : Nat) (hk : k ≤ ps.length) : IsT W (.slice a k c) (ps.take k) := by
  obtain ⟨a', c', e, h1, h2, h3⟩ := h
  simp only [Value.slice.injEq] at e
  obtain ⟨rfl, -, rfl⟩ := e
  have hl : (ps.take k).length = k := by rw [List.length_take]; omega
  refine ⟨a, c, by rw [hl], by omega, h2, ?_⟩
  rcases h3 with rfl | ⟨g, o, rfl, hat⟩
  · exact .inl (by simp)
  · refine .inr ⟨g, o, rfl, fun i p hp => hat i p ?_⟩
    rw [List.getElem?_take] at hp
    split at hp
    · exact hp
    · cases hp
theorem isT_cap {W : World} {a : Option Addr} {n c : Nat} {ps : List (Int × ByteArray)} (h : IsT W (.slice a n c) ps) : n ≤ c := by
  obtain ⟨a', c', e, h1, _⟩ := h
  simp only [Value.slice.injEq] at e
  omega
set_option maxHeartbeats 1000000 in
theorem begins_b (a b : ByteArray) (h1 : a.size ≤ b.size) (h2 : b.extract 0 a.size = a) (w : World) :
    Calls Tryz.prog 17 #[.string a, .string b] w fun e w' => e = .returned (.bool true) ∧ Below w.heap.size w w' := by
  have h1' : (a.size : Int) ≤ (b.size : Int) := by omega
  go_enter Tryz.func17, Tryz.ntmps17
  go_wp2
  go_ret
  exact ⟨by simp [h2], Below.refl _ _⟩
theorem putF_more (o : Bool) (es : List (Int × Int)) (S : ByteArray) (ps : List (Int × ByteArray)) (q : Int) (T : ByteArray) : S.data.toList <+: (putF o es S ps q T).2.1.data.toList ∧ ps <+: (putF o es S ps q T).2.2.1 := by
  unfold putF
  split
  · exact ⟨List.prefix_refl _, List.prefix_refl _⟩
  · split
    · exact ⟨List.prefix_refl _, List.prefix_refl _⟩
    · exact ⟨by rw [mkB_list]; exact List.prefix_append _ _, List.prefix_append _ _⟩
theorem ext_pre {a b : ByteArray} (h : a.data.toList <+: b.data.toList) : a.size ≤ b.size ∧ b.extract 0 a.size = a := by
  have h1 := h.length_le
  rw [lenL, lenL] at h1
  refine ⟨h1, ba_ext ?_⟩
  rw [ext0k, ← lenL]
  exact (List.prefix_iff_eq_take.1 h).symm
theorem tx_pre {a b : List (Int × ByteArray)} (h : a <+: b) : (txW a).data.toList <+: (txW b).data.toList := by
  obtain ⟨c, rfl⟩ := h
  rw [txW_two, ByteArray.data_append, Array.toList_append]
  exact List.prefix_append _ _
set_option maxRecDepth 8000 in
set_option maxHeartbeats 4000000 in
theorem long (a0 : Option Addr) (len0 cap0 : Nat) (w : World) (h : (1048576 : Int) < (len0 : Int)) :
    Calls Tryz.prog 3 #[.slice a0 len0 cap0] w fun e w' => e = .returned (.bool true) ∧ Below w.heap.size w w' := by
  go_enter Tryz.func3, Tryz.ntmps3
  go_wp2
  go_ret
  exact ⟨rfl, Below.refl _ _⟩
set_option maxRecDepth 20000 in
set_option maxHeartbeats 16000000 in
theorem short (a0 : Option Addr) (len0 cap0 : Nat) (w : World) (z : Nat → Int) (hc : CodeIn w a0 len0 cap0 z) (h : (len0 : Int) ≤ 1048576) (herr : Errs w) :
    Calls Tryz.prog 3 #[.slice a0 len0 cap0] w fun e w' => e = .returned (.bool true) ∧ Below w.heap.size w w' := by
  go_enter Tryz.func3, Tryz.ntmps3
  go_wp2_with fail
  refine (drawStreamPut a0 len0 cap0 z _ hc).mono ?_
  rintro e w1 ⟨v, es, S, pv, ps, qi, T, o, rfl, hg, hM, hT, hSm, hq, hTs, k1⟩
  obtain ⟨q, rfl⟩ : ∃ q : Nat, qi = (q : Int) := ⟨qi.toNat, by omega⟩
  have hq40 : q ≤ 40 := by omega
  obtain ⟨va, vc, rfl⟩ := isM_slice hM
  obtain ⟨pa, pc, rfl, hT'⟩ := id hT
  clear hT' hq
  have hbM : (prs es).length ≤ 1048576 := by have := hg.len; rw [prs_len]; omega
  have hbT : ps.length ≤ 1048576 := by have := hSm.2.1; omega
  have hS41 : S.size ≤ 41 := hSm.1
  have hpp : ∀ p ∈ ps, p.2.size ≤ 1073741824 := fun p hp => by have := (hSm.2.2 p hp).2; omega
  have hTml : T.size ≤ maxLen := by unfold maxLen; omega
  have HPP := (show Hid (∀ p ∈ ps, p.2.size ≤ 1073741824) from hpp)
  clear hpp
  have hokm := okM_prs es hg
  obtain ⟨es1, S1, ps1, b, hG⟩ : ∃ es1 S1 ps1 b, putG o es S ps q T = (es1, S1, ps1, b) := ⟨_, _, _, _, rfl⟩
  have hgood := putG_good (o := o) (S := S) (ps := ps) (q := q) (T := T) hg
  rw [hG] at hgood
  obtain ⟨hg1, hst1⟩ := hgood
  simp only at hg1 hst1
  have hb1 : ps1.length ≤ 1048576 := by have := (stB_small hst1).1; omega
  have hb2 : (prs es1).length ≤ 1048576 := by have := hg1.len; rw [prs_len]; omega
  have HG := (show Hid (putG o es S ps q T = (es1, S1, ps1, b)) from hG)
  have HST1 := (show Hid (stB S1 ps1 = true) from hst1)
  clear hG hst1
  have kA : Below w1.heap.size w1 (w1.alloc (.cells #[.string S, .slice pa ps.length pc] 26)) := (Below.refl _ _).alloc (Nat.le_refl _) _
  have x0 : (w1.alloc (.cells #[.string S, .slice pa ps.length pc] 26)).cell? ⟨w1.heap.size, 0, none⟩ = some (.string S) := by simp
  have x1 : (w1.alloc (.cells #[.string S, .slice pa ps.length pc] 26)).cell? ⟨w1.heap.size, 1, none⟩ = some (.slice pa ps.length pc) := by simp
  have hx : w1.heap.size < (w1.alloc (.cells #[.string S, .slice pa ps.length pc] 26)).heap.size := by simp
  have HMX := (show Hid (IsM (w1.alloc (.cells #[.string S, .slice pa ps.length pc] 26)) (.slice va (prs es).length vc) (prs es)) from hM.below kA)
  have HTX := (show Hid (IsT (w1.alloc (.cells #[.string S, .slice pa ps.length pc] 26)) (.slice pa ps.length pc) ps) from hT.below kA)
  have HE := (show Hid (Errs (w1.alloc (.cells #[.string S, .slice pa ps.length pc] 26))) from (herr.below k1).below kA)
  have HB := (show Hid (Below w.heap.size w (w1.alloc (.cells #[.string S, .slice pa ps.length pc] 26))) from k1.trans (kA.mono k1.size))
  clear hM hT herr k1 kA
  go_wp2_with fail
  generalize (w1.alloc (.cells #[.string S, .slice pa ps.length pc] 26)) = u0 at *
  generalize w1.heap.size = X at *
  have hX : X < u0.heap.size := hx
  have cX0 := x0
  have cX1 := x1
  clear x0 x1 hx
  refine (sput_h _ _ es hg HMX.out S _ ps HTX.out hSm q hq40 T hTs o HG.out).mono ?_
  rintro e w21 ⟨ya, yc, yb, yd, rfl, hM', hT', kk1⟩
  have kA : Below u0.heap.size u0 (w21.alloc (.cells #[.string S1, .slice yb ps1.length yd] 26)) := kk1.alloc kk1.size _
  have x0 : (w21.alloc (.cells #[.string S1, .slice yb ps1.length yd] 26)).cell? ⟨w21.heap.size, 0, none⟩ = some (.string S1) := by simp
  have x1 : (w21.alloc (.cells #[.string S1, .slice yb ps1.length yd] 26)).cell? ⟨w21.heap.size, 1, none⟩ = some (.slice yb ps1.length yd) := by simp
  have hx : w21.heap.size < (w21.alloc (.cells #[.string S1, .slice yb ps1.length yd] 26)).heap.size := by simp
  have bz : Below w21.heap.size w21 (w21.alloc (.cells #[.string S1, .slice yb ps1.length yd] 26)) := (Below.refl _ _).alloc (Nat.le_refl _) _
  have HMY := (show Hid (IsM (w21.alloc (.cells #[.string S1, .slice yb ps1.length yd] 26)) (.slice ya (prs es1).length yc) (prs es1)) from hM'.below bz)
  have HTY := (show Hid (IsT (w21.alloc (.cells #[.string S1, .slice yb ps1.length yd] 26)) (.slice yb ps1.length yd) ps1) from hT'.below bz)
  clear hM' hT' bz kk1
  replace cX0 := (kA.cell (p := ⟨X, 0, none⟩) hX).trans cX0
  replace cX1 := (kA.cell (p := ⟨X, 1, none⟩) hX).trans cX1
  replace hX : X < (w21.alloc (.cells #[.string S1, .slice yb ps1.length yd] 26)).heap.size := Nat.lt_of_lt_of_le hX kA.size
  replace HMX := (show Hid (IsM (w21.alloc (.cells #[.string S1, .slice yb ps1.length yd] 26)) (.slice va (prs es).length vc) (prs es)) from HMX.out.below kA)
  replace HTX := (show Hid (IsT (w21.alloc (.cells #[.string S1, .slice yb ps1.length yd] 26)) (.slice pa ps.length pc) ps) from HTX.out.below kA)
  replace HE := (show Hid (Errs (w21.alloc (.cells #[.string S1, .slice yb ps1.length yd] 26))) from HE.out.below kA)
  replace HB := (show Hid (Below w.heap.size w (w21.alloc (.cells #[.string S1, .slice yb ps1.length yd] 26))) from HB.out.trans (kA.mono HB.out.size))
  clear kA
  go_wp2_with fail
  generalize (w21.alloc (.cells #[.string S1, .slice yb ps1.length yd] 26)) = u2 at *
  generalize w21.heap.size = Y at *
  have hY : Y < u2.heap.size := hx
  have cY0 := x0
  have cY1 := x1
  clear x0 x1 hx
  refine (iput_h _ _ es hg HMX.out S _ ps HTX.out q hq40 T o HE.out HG.out).mono ?_
  rintro e w23 ⟨za, zc, zb, zd, rfl, hM', hT', kk3⟩
  have kA : Below u2.heap.size u2 (w23.alloc (.cells #[.string S1, .slice zb ps1.length zd] 26)) := kk3.alloc kk3.size _
  have x0 : (w23.alloc (.cells #[.string S1, .slice zb ps1.length zd] 26)).cell? ⟨w23.heap.size, 0, none⟩ = some (.string S1) := by simp
  have x1 : (w23.alloc (.cells #[.string S1, .slice zb ps1.length zd] 26)).cell? ⟨w23.heap.size, 1, none⟩ = some (.slice zb ps1.length zd) := by simp
  have hx : w23.heap.size < (w23.alloc (.cells #[.string S1, .slice zb ps1.length zd] 26)).heap.size := by simp
  have bz : Below w23.heap.size w23 (w23.alloc (.cells #[.string S1, .slice zb ps1.length zd] 26)) := (Below.refl _ _).alloc (Nat.le_refl _) _
  have HMZ := (show Hid (IsM (w23.alloc (.cells #[.string S1, .slice zb ps1.length zd] 26)) (.slice za (prs es1).length zc) (prs es1)) from hM'.below bz)
  have HTZ := (show Hid (IsT (w23.alloc (.cells #[.string S1, .slice zb ps1.length zd] 26)) (.slice zb ps1.length zd) ps1) from hT'.below bz)
  clear hM' hT' bz kk3
  replace cX0 := (kA.cell (p := ⟨X, 0, none⟩) hX).trans cX0
  replace cX1 := (kA.cell (p := ⟨X, 1, none⟩) hX).trans cX1
  replace cY0 := (kA.cell (p := ⟨Y, 0, none⟩) hY).trans cY0
  replace cY1 := (kA.cell (p := ⟨Y, 1, none⟩) hY).trans cY1
  replace hX : X < (w23.alloc (.cells #[.string S1, .slice zb ps1.length zd] 26)).heap.size := Nat.lt_of_lt_of_le hX kA.size
  replace hY : Y < (w23.alloc (.cells #[.string S1, .slice zb ps1.length zd] 26)).heap.size := Nat.lt_of_lt_of_le hY kA.size
  replace HMX := (show Hid (IsM (w23.alloc (.cells #[.string S1, .slice zb ps1.length zd] 26)) (.slice va (prs es).length vc) (prs es)) from HMX.out.below kA)
  replace HTX := (show Hid (IsT (w23.alloc (.cells #[.string S1, .slice zb ps1.length zd] 26)) (.slice pa ps.length pc) ps) from HTX.out.below kA)
  replace HMY := (show Hid (IsM (w23.alloc (.cells #[.string S1, .slice zb ps1.length zd] 26)) (.slice ya (prs es1).length yc) (prs es1)) from HMY.out.below kA)
  replace HTY := (show Hid (IsT (w23.alloc (.cells #[.string S1, .slice zb ps1.length zd] 26)) (.slice yb ps1.length yd) ps1) from HTY.out.below kA)
  replace HE := (show Hid (Errs (w23.alloc (.cells #[.string S1, .slice zb ps1.length zd] 26))) from HE.out.below kA)
  replace HB := (show Hid (Below w.heap.size w (w23.alloc (.cells #[.string S1, .slice zb ps1.length zd] 26))) from HB.out.trans (kA.mono HB.out.size))
  clear kA
  go_wp2_with fail
  generalize (w23.alloc (.cells #[.string S1, .slice zb ps1.length zd] 26)) = u4 at *
  generalize w23.heap.size = Z at *
  have hZ : Z < u4.heap.size := hx
  have cZ0 := x0
  have cZ1 := x1
  clear x0 x1 hx
  refine (LzT.lzs_same _ S1 _ _ ps1 hb1 HTZ.out HTY.out).mono ?_
  rintro e v5 ⟨rfl, k55⟩
  replace cX0 := (k55.cell (p := ⟨X, 0, none⟩) hX).trans cX0
  replace cX1 := (k55.cell (p := ⟨X, 1, none⟩) hX).trans cX1
  replace cY0 := (k55.cell (p := ⟨Y, 0, none⟩) hY).trans cY0
  replace cY1 := (k55.cell (p := ⟨Y, 1, none⟩) hY).trans cY1
  replace cZ0 := (k55.cell (p := ⟨Z, 0, none⟩) hZ).trans cZ0
  replace cZ1 := (k55.cell (p := ⟨Z, 1, none⟩) hZ).trans cZ1
  replace hX : X < v5.heap.size := Nat.lt_of_lt_of_le hX k55.size
  replace hY : Y < v5.heap.size := Nat.lt_of_lt_of_le hY k55.size
  replace hZ : Z < v5.heap.size := Nat.lt_of_lt_of_le hZ k55.size
  replace HMX := (show Hid (IsM v5 (.slice va (prs es).length vc) (prs es)) from HMX.out.below k55)
  replace HTX := (show Hid (IsT v5 (.slice pa ps.length pc) ps) from HTX.out.below k55)
  replace HMY := (show Hid (IsM v5 (.slice ya (prs es1).length yc) (prs es1)) from HMY.out.below k55)
  replace HTY := (show Hid (IsT v5 (.slice yb ps1.length yd) ps1) from HTY.out.below k55)
  replace HMZ := (show Hid (IsM v5 (.slice za (prs es1).length zc) (prs es1)) from HMZ.out.below k55)
  replace HTZ := (show Hid (IsT v5 (.slice zb ps1.length zd) ps1) from HTZ.out.below k55)
  replace HE := (show Hid (Errs v5) from HE.out.below k55)
  replace HB := (show Hid (Below w.heap.size w v5) from HB.out.trans (k55.mono HB.out.size))
  clear k55
  go_wp2_with fail
  refine (LzM.lz_same _ (prs es1) hb2 _ _ HMZ.out HMY.out).mono ?_
  rintro e v6 ⟨rfl, k56⟩
  replace cX0 := (k56.cell (p := ⟨X, 0, none⟩) hX).trans cX0
  replace cX1 := (k56.cell (p := ⟨X, 1, none⟩) hX).trans cX1
  replace cY0 := (k56.cell (p := ⟨Y, 0, none⟩) hY).trans cY0
  replace cY1 := (k56.cell (p := ⟨Y, 1, none⟩) hY).trans cY1
  replace cZ0 := (k56.cell (p := ⟨Z, 0, none⟩) hZ).trans cZ0
  replace cZ1 := (k56.cell (p := ⟨Z, 1, none⟩) hZ).trans cZ1
  replace hX : X < v6.heap.size := Nat.lt_of_lt_of_le hX k56.size
  replace hY : Y < v6.heap.size := Nat.lt_of_lt_of_le hY k56.size
  replace hZ : Z < v6.heap.size := Nat.lt_of_lt_of_le hZ k56.size
  replace HMX := (show Hid (IsM v6 (.slice va (prs es).length vc) (prs es)) from HMX.out.below k56)
  replace HTX := (show Hid (IsT v6 (.slice pa ps.length pc) ps) from HTX.out.below k56)
  replace HMY := (show Hid (IsM v6 (.slice ya (prs es1).length yc) (prs es1)) from HMY.out.below k56)
  replace HTY := (show Hid (IsT v6 (.slice yb ps1.length yd) ps1) from HTY.out.below k56)
  replace HMZ := (show Hid (IsM v6 (.slice za (prs es1).length zc) (prs es1)) from HMZ.out.below k56)
  replace HTZ := (show Hid (IsT v6 (.slice zb ps1.length zd) ps1) from HTZ.out.below k56)
  replace HE := (show Hid (Errs v6) from HE.out.below k56)
  replace HB := (show Hid (Below w.heap.size w v6) from HB.out.trans (k56.mono HB.out.size))
  clear k56
  go_wp2_with fail
  refine (Ms.sok_any _ _ (prs es) HMX.out (by omega)).mono ?_
  rintro e v7 ⟨rfl, k57⟩
  rw [hokm]
  replace cX0 := (k57.cell (p := ⟨X, 0, none⟩) hX).trans cX0
  replace cX1 := (k57.cell (p := ⟨X, 1, none⟩) hX).trans cX1
  replace cY0 := (k57.cell (p := ⟨Y, 0, none⟩) hY).trans cY0
  replace cY1 := (k57.cell (p := ⟨Y, 1, none⟩) hY).trans cY1
  replace cZ0 := (k57.cell (p := ⟨Z, 0, none⟩) hZ).trans cZ0
  replace cZ1 := (k57.cell (p := ⟨Z, 1, none⟩) hZ).trans cZ1
  replace hX : X < v7.heap.size := Nat.lt_of_lt_of_le hX k57.size
  replace hY : Y < v7.heap.size := Nat.lt_of_lt_of_le hY k57.size
  replace hZ : Z < v7.heap.size := Nat.lt_of_lt_of_le hZ k57.size
  replace HMX := (show Hid (IsM v7 (.slice va (prs es).length vc) (prs es)) from HMX.out.below k57)
  replace HTX := (show Hid (IsT v7 (.slice pa ps.length pc) ps) from HTX.out.below k57)
  replace HMY := (show Hid (IsM v7 (.slice ya (prs es1).length yc) (prs es1)) from HMY.out.below k57)
  replace HTY := (show Hid (IsT v7 (.slice yb ps1.length yd) ps1) from HTY.out.below k57)
  replace HMZ := (show Hid (IsM v7 (.slice za (prs es1).length zc) (prs es1)) from HMZ.out.below k57)
  replace HTZ := (show Hid (IsT v7 (.slice zb ps1.length zd) ps1) from HTZ.out.below k57)
  replace HE := (show Hid (Errs v7) from HE.out.below k57)
  replace HB := (show Hid (Below w.heap.size w v7) from HB.out.trans (k57.mono HB.out.size))
  clear k57
  go_wp2_with fail
  refine (StS.sstream_any S _ ps _ HTX.out (by omega) HPP.out).mono ?_
  rintro e v8 ⟨rfl, k58⟩
  replace cX0 := (k58.cell (p := ⟨X, 0, none⟩) hX).trans cX0
  replace cX1 := (k58.cell (p := ⟨X, 1, none⟩) hX).trans cX1
  replace cY0 := (k58.cell (p := ⟨Y, 0, none⟩) hY).trans cY0
  replace cY1 := (k58.cell (p := ⟨Y, 1, none⟩) hY).trans cY1
  replace cZ0 := (k58.cell (p := ⟨Z, 0, none⟩) hZ).trans cZ0
  replace cZ1 := (k58.cell (p := ⟨Z, 1, none⟩) hZ).trans cZ1
  replace hX : X < v8.heap.size := Nat.lt_of_lt_of_le hX k58.size
  replace hY : Y < v8.heap.size := Nat.lt_of_lt_of_le hY k58.size
  replace hZ : Z < v8.heap.size := Nat.lt_of_lt_of_le hZ k58.size
  replace HMX := (show Hid (IsM v8 (.slice va (prs es).length vc) (prs es)) from HMX.out.below k58)
  replace HTX := (show Hid (IsT v8 (.slice pa ps.length pc) ps) from HTX.out.below k58)
  replace HMY := (show Hid (IsM v8 (.slice ya (prs es1).length yc) (prs es1)) from HMY.out.below k58)
  replace HTY := (show Hid (IsT v8 (.slice yb ps1.length yd) ps1) from HTY.out.below k58)
  replace HMZ := (show Hid (IsM v8 (.slice za (prs es1).length zc) (prs es1)) from HMZ.out.below k58)
  replace HTZ := (show Hid (IsT v8 (.slice zb ps1.length zd) ps1) from HTZ.out.below k58)
  replace HE := (show Hid (Errs v8) from HE.out.below k58)
  replace HB := (show Hid (Below w.heap.size w v8) from HB.out.trans (k58.mono HB.out.size))
  clear k58
  cases hst : stB S ps
  · skip
    go_wp2_with fail
    refine (LzT.lzs_same _ S1 _ _ ps1 hb1 HTZ.out HTY.out).mono ?_
    rintro e v9 ⟨rfl, k59⟩
    replace cX0 := (k59.cell (p := ⟨X, 0, none⟩) hX).trans cX0
    replace cX1 := (k59.cell (p := ⟨X, 1, none⟩) hX).trans cX1
    replace cY0 := (k59.cell (p := ⟨Y, 0, none⟩) hY).trans cY0
    replace cY1 := (k59.cell (p := ⟨Y, 1, none⟩) hY).trans cY1
    replace cZ0 := (k59.cell (p := ⟨Z, 0, none⟩) hZ).trans cZ0
    replace cZ1 := (k59.cell (p := ⟨Z, 1, none⟩) hZ).trans cZ1
    replace hX : X < v9.heap.size := Nat.lt_of_lt_of_le hX k59.size
    replace hY : Y < v9.heap.size := Nat.lt_of_lt_of_le hY k59.size
    replace hZ : Z < v9.heap.size := Nat.lt_of_lt_of_le hZ k59.size
    replace HMX := (show Hid (IsM v9 (.slice va (prs es).length vc) (prs es)) from HMX.out.below k59)
    replace HTX := (show Hid (IsT v9 (.slice pa ps.length pc) ps) from HTX.out.below k59)
    replace HMY := (show Hid (IsM v9 (.slice ya (prs es1).length yc) (prs es1)) from HMY.out.below k59)
    replace HTY := (show Hid (IsT v9 (.slice yb ps1.length yd) ps1) from HTY.out.below k59)
    replace HMZ := (show Hid (IsM v9 (.slice za (prs es1).length zc) (prs es1)) from HMZ.out.below k59)
    replace HTZ := (show Hid (IsT v9 (.slice zb ps1.length zd) ps1) from HTZ.out.below k59)
    replace HE := (show Hid (Errs v9) from HE.out.below k59)
    replace HB := (show Hid (Below w.heap.size w v9) from HB.out.trans (k59.mono HB.out.size))
    clear k59
    go_wp2_with fail
    refine (LzM.lz_same _ (prs es1) hb2 _ _ HMZ.out HMY.out).mono ?_
    rintro e v10 ⟨rfl, k60⟩
    replace cX0 := (k60.cell (p := ⟨X, 0, none⟩) hX).trans cX0
    replace cX1 := (k60.cell (p := ⟨X, 1, none⟩) hX).trans cX1
    replace cY0 := (k60.cell (p := ⟨Y, 0, none⟩) hY).trans cY0
    replace cY1 := (k60.cell (p := ⟨Y, 1, none⟩) hY).trans cY1
    replace cZ0 := (k60.cell (p := ⟨Z, 0, none⟩) hZ).trans cZ0
    replace cZ1 := (k60.cell (p := ⟨Z, 1, none⟩) hZ).trans cZ1
    replace hX : X < v10.heap.size := Nat.lt_of_lt_of_le hX k60.size
    replace hY : Y < v10.heap.size := Nat.lt_of_lt_of_le hY k60.size
    replace hZ : Z < v10.heap.size := Nat.lt_of_lt_of_le hZ k60.size
    replace HMX := (show Hid (IsM v10 (.slice va (prs es).length vc) (prs es)) from HMX.out.below k60)
    replace HTX := (show Hid (IsT v10 (.slice pa ps.length pc) ps) from HTX.out.below k60)
    replace HMY := (show Hid (IsM v10 (.slice ya (prs es1).length yc) (prs es1)) from HMY.out.below k60)
    replace HTY := (show Hid (IsT v10 (.slice yb ps1.length yd) ps1) from HTY.out.below k60)
    replace HMZ := (show Hid (IsM v10 (.slice za (prs es1).length zc) (prs es1)) from HMZ.out.below k60)
    replace HTZ := (show Hid (IsT v10 (.slice zb ps1.length zd) ps1) from HTZ.out.below k60)
    replace HE := (show Hid (Errs v10) from HE.out.below k60)
    replace HB := (show Hid (Below w.heap.size w v10) from HB.out.trans (k60.mono HB.out.size))
    clear k60
    go_wp2
    go_ret
    exact ⟨rfl, HB.out⟩
  · skip
    go_wp2_with fail
    refine (TxW.sok_any T hTml _).mono ?_
    rintro e vv ⟨rfl, rfl⟩
    cases hTok : okB T.data.toList
    · skip
      go_wp2_with fail
      refine (LzT.lzs_same _ S1 _ _ ps1 hb1 HTZ.out HTY.out).mono ?_
      rintro e v11 ⟨rfl, k61⟩
      replace cX0 := (k61.cell (p := ⟨X, 0, none⟩) hX).trans cX0
      replace cX1 := (k61.cell (p := ⟨X, 1, none⟩) hX).trans cX1
      replace cY0 := (k61.cell (p := ⟨Y, 0, none⟩) hY).trans cY0
      replace cY1 := (k61.cell (p := ⟨Y, 1, none⟩) hY).trans cY1
      replace cZ0 := (k61.cell (p := ⟨Z, 0, none⟩) hZ).trans cZ0
      replace cZ1 := (k61.cell (p := ⟨Z, 1, none⟩) hZ).trans cZ1
      replace hX : X < v11.heap.size := Nat.lt_of_lt_of_le hX k61.size
      replace hY : Y < v11.heap.size := Nat.lt_of_lt_of_le hY k61.size
      replace hZ : Z < v11.heap.size := Nat.lt_of_lt_of_le hZ k61.size
      replace HMX := (show Hid (IsM v11 (.slice va (prs es).length vc) (prs es)) from HMX.out.below k61)
      replace HTX := (show Hid (IsT v11 (.slice pa ps.length pc) ps) from HTX.out.below k61)
      replace HMY := (show Hid (IsM v11 (.slice ya (prs es1).length yc) (prs es1)) from HMY.out.below k61)
      replace HTY := (show Hid (IsT v11 (.slice yb ps1.length yd) ps1) from HTY.out.below k61)
      replace HMZ := (show Hid (IsM v11 (.slice za (prs es1).length zc) (prs es1)) from HMZ.out.below k61)
      replace HTZ := (show Hid (IsT v11 (.slice zb ps1.length zd) ps1) from HTZ.out.below k61)
      replace HE := (show Hid (Errs v11) from HE.out.below k61)
      replace HB := (show Hid (Below w.heap.size w v11) from HB.out.trans (k61.mono HB.out.size))
      clear k61
      go_wp2_with fail
      refine (LzM.lz_same _ (prs es1) hb2 _ _ HMZ.out HMY.out).mono ?_
      rintro e v12 ⟨rfl, k62⟩
      replace cX0 := (k62.cell (p := ⟨X, 0, none⟩) hX).trans cX0
      replace cX1 := (k62.cell (p := ⟨X, 1, none⟩) hX).trans cX1
      replace cY0 := (k62.cell (p := ⟨Y, 0, none⟩) hY).trans cY0
      replace cY1 := (k62.cell (p := ⟨Y, 1, none⟩) hY).trans cY1
      replace cZ0 := (k62.cell (p := ⟨Z, 0, none⟩) hZ).trans cZ0
      replace cZ1 := (k62.cell (p := ⟨Z, 1, none⟩) hZ).trans cZ1
      replace hX : X < v12.heap.size := Nat.lt_of_lt_of_le hX k62.size
      replace hY : Y < v12.heap.size := Nat.lt_of_lt_of_le hY k62.size
      replace hZ : Z < v12.heap.size := Nat.lt_of_lt_of_le hZ k62.size
      replace HMX := (show Hid (IsM v12 (.slice va (prs es).length vc) (prs es)) from HMX.out.below k62)
      replace HTX := (show Hid (IsT v12 (.slice pa ps.length pc) ps) from HTX.out.below k62)
      replace HMY := (show Hid (IsM v12 (.slice ya (prs es1).length yc) (prs es1)) from HMY.out.below k62)
      replace HTY := (show Hid (IsT v12 (.slice yb ps1.length yd) ps1) from HTY.out.below k62)
      replace HMZ := (show Hid (IsM v12 (.slice za (prs es1).length zc) (prs es1)) from HMZ.out.below k62)
      replace HTZ := (show Hid (IsT v12 (.slice zb ps1.length zd) ps1) from HTZ.out.below k62)
      replace HE := (show Hid (Errs v12) from HE.out.below k62)
      replace HB := (show Hid (Below w.heap.size w v12) from HB.out.trans (k62.mono HB.out.size))
      clear k62
      go_wp2
      go_ret
      exact ⟨rfl, HB.out⟩
    · skip
      have hF : putF o es S ps (q : Nat) T = (es1, S1, ps1, b) := (putG_ok hst hTok).symm.trans HG.out
      obtain ⟨m1, m2⟩ := putF_more o es S ps (q : Nat) T
      rw [hF] at m1 m2
      simp only at m1 m2
      obtain ⟨m3, m4⟩ := ext_pre m1
      obtain ⟨m5, m6⟩ := ext_pre (tx_pre m2)
      have hl12 : ps.length ≤ ps1.length := m2.length_le
      have htk : ps1.take ps.length = ps := (List.prefix_iff_eq_take.1 m2).symm
      have hlI : (ps.length : Int) ≤ (ps1.length : Int) := by omega
      have hcp := isT_cap HTZ.out
      have hcI : (ps.length : Int) ≤ (zd : Int) := by omega
      have hTk := isT_tk HTZ.out ps.length hl12
      rw [htk] at hTk
      have HTK := (show Hid (IsT vv (.slice zb ps.length zd) ps) from hTk)
      have hlss : ¬ ps1.length < ps.length := by omega
      obtain ⟨A, hA⟩ : ∃ A, outB S ps = A := ⟨_, rfl⟩
      obtain ⟨B, hB⟩ : ∃ B, outB S1 ps1 = B := ⟨_, rfl⟩
      have hAB : A.size ≤ B.size ∧ B.extract 0 A.size = A := by rw [← hA, ← hB, outB_ok hst, outB_ok HST1.out]; exact ⟨m5, m6⟩
      have HA := (show Hid (outB S ps = A) from hA)
      have HBB := (show Hid (outB S1 ps1 = B) from hB)
      have HAB := (show Hid (A.size ≤ B.size ∧ B.extract 0 A.size = A) from hAB)
      have HM4 := (show Hid (S1.extract 0 S.size = S) from m4)
      have HF := (show Hid (putF o es S ps (q : Nat) T = (es1, S1, ps1, b)) from hF)
      have HST := (show Hid (stB S ps = true) from hst)
      clear m1 m2 m4 m5 m6 htk hTk hA hB hAB hF hst
      have hmix : Tryz.prog.follows .mixedOrders = true := by kernel_rfl
      obtain ⟨VV, hVV⟩ : ∃ VV : Nat → Value, VV = fun j => [(.pointer (some ⟨X, 0, none⟩) : Value), .string S, .pointer (some ⟨Z, 0, none⟩), .string S1, .bool true, .bool false, .bool false, .agg #[.string S1, .slice zb ps1.length zd], .bool true, .bool false, .bool false, .bool false, .pointer (some ⟨Z, 1, none⟩), .slice zb ps1.length zd, .int .i64 (ps1.length : Nat), .int .i64 (ps.length : Nat), .bool false, .bool false, .bool false, .pointer (some ⟨X, 0, none⟩), .string S, .pointer (some ⟨Z, 1, none⟩), .slice zb ps1.length zd, .int .i64 (ps.length : Nat), .slice zb ps.length zd, .agg #[.string S, .slice zb ps.length zd], .agg #[.string S, .slice pa ps.length pc], .bool true, .bool false, .bool false].getD j undef := ⟨_, rfl⟩
      have V0 : VV 0 = .pointer (some ⟨X, 0, none⟩) := by rw [hVV]; rfl
      have V1 : VV 1 = .string S := by rw [hVV]; rfl
      have V2 : VV 2 = .pointer (some ⟨Z, 0, none⟩) := by rw [hVV]; rfl
      have V3 : VV 3 = .string S1 := by rw [hVV]; rfl
      have V4 : VV 4 = .bool true := by rw [hVV]; rfl
      have V5 : VV 5 = .bool false := by rw [hVV]; rfl
      have V6 : VV 6 = .bool false := by rw [hVV]; rfl
      have V7 : VV 7 = .agg #[.string S1, .slice zb ps1.length zd] := by rw [hVV]; rfl
      have V8 : VV 8 = .bool true := by rw [hVV]; rfl
      have V9 : VV 9 = .bool false := by rw [hVV]; rfl
      have V10 : VV 10 = .bool false := by rw [hVV]; rfl
      have V11 : VV 11 = .bool false := by rw [hVV]; rfl
      have V12 : VV 12 = .pointer (some ⟨Z, 1, none⟩) := by rw [hVV]; rfl
      have V13 : VV 13 = .slice zb ps1.length zd := by rw [hVV]; rfl
      have V14 : VV 14 = .int .i64 (ps1.length : Nat) := by rw [hVV]; rfl
      have V15 : VV 15 = .int .i64 (ps.length : Nat) := by rw [hVV]; rfl
      have V16 : VV 16 = .bool false := by rw [hVV]; rfl
      have V17 : VV 17 = .bool false := by rw [hVV]; rfl
      have V18 : VV 18 = .bool false := by rw [hVV]; rfl
      have V19 : VV 19 = .pointer (some ⟨X, 0, none⟩) := by rw [hVV]; rfl
      have V20 : VV 20 = .string S := by rw [hVV]; rfl
      have V21 : VV 21 = .pointer (some ⟨Z, 1, none⟩) := by rw [hVV]; rfl
      have V22 : VV 22 = .slice zb ps1.length zd := by rw [hVV]; rfl
      have V23 : VV 23 = .int .i64 (ps.length : Nat) := by rw [hVV]; rfl
      have V24 : VV 24 = .slice zb ps.length zd := by rw [hVV]; rfl
      have V25 : VV 25 = .agg #[.string S, .slice zb ps.length zd] := by rw [hVV]; rfl
      have V26 : VV 26 = .agg #[.string S, .slice pa ps.length pc] := by rw [hVV]; rfl
      have V27 : VV 27 = .bool true := by rw [hVV]; rfl
      have V28 : VV 28 = .bool false := by rw [hVV]; rfl
      have V29 : VV 29 = .bool false := by rw [hVV]; rfl
      clear hVV
      go_upto_region 9 with fail
      refine wp_region_any hmix ?_
      refine Ri.any_inv (I := fun l a' w' => l.size = 30 ∧ ∃ t : Nat → Value, a' = { tmps := #[(Value.slice a0 len0 cap0 : Value), undef, Value.bool false, Value.slice va (prs es).length vc, Value.pointer (some { block := X, off := 0 }), Value.int IntKind.i64 ↑q, Value.string T, Value.bool o, Value.slice ya (prs es1).length yc, Value.pointer (some { block := Y, off := 0 }), Value.bool b, Value.slice za (prs es1).length zc, Value.pointer (some { block := Z, off := 0 }), Value.bool b, Value.int IntKind.i64 ↑ps.length, Value.slice a0 len0 cap0, Value.int IntKind.i64 ↑len0, Value.bool (decide ((1048576 : Int) < (len0 : Int))), Value.tuple #[Value.slice va (prs es).length vc, Value.agg #[Value.string S, Value.slice pa ps.length pc], Value.int IntKind.i64 ↑q, Value.string T, Value.bool o], Value.slice a0 len0 cap0, Value.tuple #[Value.slice va (prs es).length vc, Value.agg #[Value.string S, Value.slice pa ps.length pc], Value.int IntKind.i64 ↑q, Value.string T, Value.bool o], Value.slice va (prs es).length vc, Value.agg #[Value.string S, Value.slice pa ps.length pc], Value.int IntKind.i64 ↑q, Value.string T, Value.bool o, Value.tuple #[Value.slice ya (prs es1).length yc, Value.agg #[Value.string S1, Value.slice yb ps1.length yd], Value.bool b], Value.slice va (prs es).length vc, Value.agg #[Value.string S, Value.slice pa ps.length pc], Value.int IntKind.i64 ↑q, Value.string T, Value.bool o, Value.tuple #[Value.slice ya (prs es1).length yc, Value.agg #[Value.string S1, Value.slice yb ps1.length yd], Value.bool b], Value.slice ya (prs es1).length yc, Value.agg #[Value.string S1, Value.slice yb ps1.length yd], Value.bool b, Value.tuple #[Value.slice za (prs es1).length zc, Value.agg #[Value.string S1, Value.slice zb ps1.length zd], Value.bool b], Value.slice va (prs es).length vc, Value.agg #[Value.string S, Value.slice pa ps.length pc], Value.int IntKind.i64 ↑q, Value.string T, Value.bool o, Value.tuple #[Value.slice za (prs es1).length zc, Value.agg #[Value.string S1, Value.slice zb ps1.length zd], Value.bool b], Value.slice za (prs es1).length zc, Value.agg #[Value.string S1, Value.slice zb ps1.length zd], Value.bool b, Value.bool b, Value.bool b, Value.bool false, Value.bool false, Value.agg #[Value.string S1, Value.slice zb ps1.length zd], Value.agg #[Value.string S1, Value.slice yb ps1.length yd], Value.bool true, Value.bool false, Value.bool false, Value.bool false, Value.slice za (prs es1).length zc, Value.slice ya (prs es1).length yc, Value.bool true, Value.bool false, Value.bool false, Value.bool false, Value.slice va (prs es).length vc, Value.bool true, Value.bool false, Value.bool false, Value.bool false, Value.agg #[Value.string S, Value.slice pa ps.length pc], Value.bool true, Value.bool false, Value.bool false, Value.bool false, Value.string T, Value.bool true, Value.bool false, Value.bool false, undef, undef, undef, undef, undef, undef, undef, undef, undef, undef, undef, undef, undef, Value.pointer (some { block := X, off := 1 }), Value.slice pa ps.length pc, Value.int IntKind.i64 ↑ps.length, t 0, t 1, t 2, t 3, t 4, t 5, t 6, t 7, t 8, t 9, t 10, t 11, t 12, t 13, t 14, t 15, t 16, t 17, t 18, t 19, t 20, t 21, t 22, t 23, t 24, t 25, t 26, t 27, t 28, t 29, undef, undef, undef, undef, undef, undef, undef, undef, undef, undef, undef, undef, undef, undef, undef, undef, undef, undef, undef, undef, undef, undef, undef, undef, undef, undef, undef, undef, undef, undef, undef, undef, undef, undef, undef, undef, undef, undef], defers := [] } ∧ Rg.Vals l VV t ∧ Hid (Below vv.heap.size vv w')) ?sz ?low ?step ?fin _ _ _ _ ?start (Ri.closed_none _ _ _) (Rg.left_all _)
      case sz => exact fun l a' w' h => h.1
      case start => exact ⟨by simp, fun j => ([undef, undef, undef, undef, undef, undef, undef, undef, undef, undef, undef, undef, undef, undef, undef, undef, undef, undef, undef, undef, undef, undef, undef, undef, undef, undef, undef, undef, undef, undef] : List Value).getD j undef, rfl, Rg.vals_none _ _ _, (Below.refl _ _).drew⟩
      case low => exact Ri.low_of (by kernel_rfl)
      case step =>
        rintro l a' w' i ⟨hsz, t, rfl, hv, HW⟩ hcl hi
        obtain ⟨h0, op, ho, hd⟩ := mem_ready.1 hi
        have hin : i < 30 := (Array.getElem?_eq_some_iff.1 ho).1
        clear h0 hi hcl
        have hc : i = 0 ∨ i = 1 ∨ i = 2 ∨ i = 3 ∨ i = 4 ∨ i = 5 ∨ i = 6 ∨ i = 7 ∨ i = 8 ∨ i = 9 ∨ i = 10 ∨ i = 11 ∨ i = 12 ∨ i = 13 ∨ i = 14 ∨ i = 15 ∨ i = 16 ∨ i = 17 ∨ i = 18 ∨ i = 19 ∨ i = 20 ∨ i = 21 ∨ i = 22 ∨ i = 23 ∨ i = 24 ∨ i = 25 ∨ i = 26 ∨ i = 27 ∨ i = 28 ∨ i = 29 := by omega
        rcases hc with rfl | rfl | rfl | rfl | rfl | rfl | rfl | rfl | rfl | rfl | rfl | rfl | rfl | rfl | rfl | rfl | rfl | rfl | rfl | rfl | rfl | rfl | rfl | rfl | rfl | rfl | rfl | rfl | rfl | rfl
        · obtain rfl : _ = op := Option.some.inj (show some _ = some op from ho)
          have HV := (show Hid (Rg.Vals l VV t) from hv)
          clear hv hd ho
          refine wpOp_step rfl fun K9 hK9 => ?_
          have HKK := (show Hid _ from hK9)
          clear hK9
          go_simp
          exact HKK.out _ _ ⟨by simp [hsz], fun j => if j = 0 then .pointer (some ⟨X, 0, none⟩) else t j, by simp, HV.out.put 0 _ V0.symm, HW⟩
        · obtain rfl : _ = op := Option.some.inj (show some _ = some op from ho)
          have e0 : t 0 = .pointer (some ⟨X, 0, none⟩) := (hv 0 (hd { on := 0, ground := .data } (by simp) rfl)).trans V0
          have ycX0 : w'.cell? ⟨X, 0, none⟩ = some (.string S) := (HW.out.cell (p := ⟨X, 0, none⟩) hX).trans cX0
          have ycX1 : w'.cell? ⟨X, 1, none⟩ = some (.slice pa ps.length pc) := (HW.out.cell (p := ⟨X, 1, none⟩) hX).trans cX1
          have ycZ0 : w'.cell? ⟨Z, 0, none⟩ = some (.string S1) := (HW.out.cell (p := ⟨Z, 0, none⟩) hZ).trans cZ0
          have ycZ1 : w'.cell? ⟨Z, 1, none⟩ = some (.slice zb ps1.length zd) := (HW.out.cell (p := ⟨Z, 1, none⟩) hZ).trans cZ1
          have HV := (show Hid (Rg.Vals l VV t) from hv)
          clear hv hd ho
          refine wpOp_step rfl fun K9 hK9 => ?_
          have HKK := (show Hid _ from hK9)
          clear hK9
          go_simp
          exact HKK.out _ _ ⟨by simp [hsz], fun j => if j = 1 then .string S else t j, by simp [e0], HV.out.put 1 _ V1.symm, HW⟩
        · obtain rfl : _ = op := Option.some.inj (show some _ = some op from ho)
          have HV := (show Hid (Rg.Vals l VV t) from hv)
          clear hv hd ho
          refine wpOp_step rfl fun K9 hK9 => ?_
          have HKK := (show Hid _ from hK9)
          clear hK9
          go_simp
          exact HKK.out _ _ ⟨by simp [hsz], fun j => if j = 2 then .pointer (some ⟨Z, 0, none⟩) else t j, by simp, HV.out.put 2 _ V2.symm, HW⟩
        · obtain rfl : _ = op := Option.some.inj (show some _ = some op from ho)
          have e2 : t 2 = .pointer (some ⟨Z, 0, none⟩) := (hv 2 (hd { on := 2, ground := .data } (by simp) rfl)).trans V2
          have ycX0 : w'.cell? ⟨X, 0, none⟩ = some (.string S) := (HW.out.cell (p := ⟨X, 0, none⟩) hX).trans cX0
          have ycX1 : w'.cell? ⟨X, 1, none⟩ = some (.slice pa ps.length pc) := (HW.out.cell (p := ⟨X, 1, none⟩) hX).trans cX1
          have ycZ0 : w'.cell? ⟨Z, 0, none⟩ = some (.string S1) := (HW.out.cell (p := ⟨Z, 0, none⟩) hZ).trans cZ0
          have ycZ1 : w'.cell? ⟨Z, 1, none⟩ = some (.slice zb ps1.length zd) := (HW.out.cell (p := ⟨Z, 1, none⟩) hZ).trans cZ1
          have HV := (show Hid (Rg.Vals l VV t) from hv)
          clear hv hd ho
          refine wpOp_step rfl fun K9 hK9 => ?_
          have HKK := (show Hid _ from hK9)
          clear hK9
          go_simp
          exact HKK.out _ _ ⟨by simp [hsz], fun j => if j = 3 then .string S1 else t j, by simp [e2], HV.out.put 3 _ V3.symm, HW⟩
        · obtain rfl : _ = op := Option.some.inj (show some _ = some op from ho)
          have e1 : t 1 = .string S := (hv 1 (hd { on := 1, ground := .data } (by simp) rfl)).trans V1
          have e3 : t 3 = .string S1 := (hv 3 (hd { on := 3, ground := .data } (by simp) rfl)).trans V3
          have HV := (show Hid (Rg.Vals l VV t) from hv)
          clear hv hd ho
          refine wpOp_step rfl fun K9 hK9 => ?_
          have HKK := (show Hid _ from hK9)
          clear hK9
          go_simp
          refine (begins_b S S1 m3 HM4.out _).mono ?_
          rintro e w9 ⟨rfl, k9⟩
          refine HKK.out _ _ ⟨by simp [hsz], fun j => if j = 4 then .bool true else t j, by simp [e1, e3], HV.out.put 4 _ V4.symm, HW.out.trans (k9.mono HW.out.size)⟩
        · obtain rfl : _ = op := Option.some.inj (show some _ = some op from ho)
          have e4 : t 4 = .bool true := (hv 4 (hd { on := 4, ground := .data } (by simp) rfl)).trans V4
          have HV := (show Hid (Rg.Vals l VV t) from hv)
          clear hv hd ho
          refine wpOp_step rfl fun K9 hK9 => ?_
          have HKK := (show Hid _ from hK9)
          clear hK9
          go_simp
          exact HKK.out _ _ ⟨by simp [hsz], fun j => if j = 5 then .bool false else t j, by simp [e4], HV.out.put 5 _ V5.symm, HW⟩
        · obtain rfl : _ = op := Option.some.inj (show some _ = some op from ho)
          have e5 : t 5 = .bool false := (hv 5 (hd { on := 5, ground := .data } (by simp) rfl)).trans V5
          have HV := (show Hid (Rg.Vals l VV t) from hv)
          clear hv hd ho
          refine wpOp_step rfl fun K9 hK9 => ?_
          have HKK := (show Hid _ from hK9)
          clear hK9
          go_simp
          exact HKK.out _ _ ⟨by simp [hsz], fun j => if j = 6 then .bool false else t j, by simp [e5], HV.out.put 6 _ V6.symm, HW⟩
        · obtain rfl : _ = op := Option.some.inj (show some _ = some op from ho)
          have e6 : t 6 = .bool false := (hv 6 (hd { on := 6, ground := .guard } (by simp) rfl)).trans V6
          have ycX0 : w'.cell? ⟨X, 0, none⟩ = some (.string S) := (HW.out.cell (p := ⟨X, 0, none⟩) hX).trans cX0
          have ycX1 : w'.cell? ⟨X, 1, none⟩ = some (.slice pa ps.length pc) := (HW.out.cell (p := ⟨X, 1, none⟩) hX).trans cX1
          have ycZ0 : w'.cell? ⟨Z, 0, none⟩ = some (.string S1) := (HW.out.cell (p := ⟨Z, 0, none⟩) hZ).trans cZ0
          have ycZ1 : w'.cell? ⟨Z, 1, none⟩ = some (.slice zb ps1.length zd) := (HW.out.cell (p := ⟨Z, 1, none⟩) hZ).trans cZ1
          have HV := (show Hid (Rg.Vals l VV t) from hv)
          clear hv hd ho
          refine wpOp_step rfl fun K9 hK9 => ?_
          have HKK := (show Hid _ from hK9)
          clear hK9
          go_simp
          exact HKK.out _ _ ⟨by simp [hsz], fun j => if j = 7 then .agg #[.string S1, .slice zb ps1.length zd] else t j, by simp [e6], HV.out.put 7 _ V7.symm, HW⟩
        · obtain rfl : _ = op := Option.some.inj (show some _ = some op from ho)
          have e7 : t 7 = .agg #[.string S1, .slice zb ps1.length zd] := (hv 7 (hd { on := 7, ground := .data } (by simp) rfl)).trans V7
          have e6 : t 6 = .bool false := (hv 6 (hd { on := 6, ground := .guard } (by simp) rfl)).trans V6
          have HV := (show Hid (Rg.Vals l VV t) from hv)
          clear hv hd ho
          refine wpOp_step rfl fun K9 hK9 => ?_
          have HKK := (show Hid _ from hK9)
          clear hK9
          go_simp
          refine (St.ok_stream S1 _ ps1 _ (HTZ.out.below HW.out) (HE.out.below HW.out)).mono ?_
          rintro e w9 ⟨rfl, k9⟩
          rw [HST1.out]
          refine HKK.out _ _ ⟨by simp [hsz], fun j => if j = 8 then .bool true else t j, by simp [e7, e6], HV.out.put 8 _ V8.symm, HW.out.trans (k9.mono HW.out.size)⟩
        · obtain rfl : _ = op := Option.some.inj (show some _ = some op from ho)
          have e8 : t 8 = .bool true := (hv 8 (hd { on := 8, ground := .data } (by simp) rfl)).trans V8
          have e6 : t 6 = .bool false := (hv 6 (hd { on := 6, ground := .guard } (by simp) rfl)).trans V6
          have HV := (show Hid (Rg.Vals l VV t) from hv)
          clear hv hd ho
          refine wpOp_step rfl fun K9 hK9 => ?_
          have HKK := (show Hid _ from hK9)
          clear hK9
          go_simp
          exact HKK.out _ _ ⟨by simp [hsz], fun j => if j = 9 then .bool false else t j, by simp [e8, e6], HV.out.put 9 _ V9.symm, HW⟩
        · obtain rfl : _ = op := Option.some.inj (show some _ = some op from ho)
          have e6 : t 6 = .bool false := (hv 6 (hd { on := 6, ground := .data } (by simp) rfl)).trans V6
          have e9 : t 9 = .bool false := (hv 9 (hd { on := 9, ground := .data } (by simp) rfl)).trans V9
          have HV := (show Hid (Rg.Vals l VV t) from hv)
          clear hv hd ho
          refine wpOp_step rfl fun K9 hK9 => ?_
          have HKK := (show Hid _ from hK9)
          clear hK9
          go_simp
          exact HKK.out _ _ ⟨by simp [hsz], fun j => if j = 10 then .bool false else t j, by simp [e6, e9], HV.out.put 10 _ V10.symm, HW⟩
        · obtain rfl : _ = op := Option.some.inj (show some _ = some op from ho)
          have e10 : t 10 = .bool false := (hv 10 (hd { on := 10, ground := .data } (by simp) rfl)).trans V10
          have HV := (show Hid (Rg.Vals l VV t) from hv)
          clear hv hd ho
          refine wpOp_step rfl fun K9 hK9 => ?_
          have HKK := (show Hid _ from hK9)
          clear hK9
          go_simp
          exact HKK.out _ _ ⟨by simp [hsz], fun j => if j = 11 then .bool false else t j, by simp [e10], HV.out.put 11 _ V11.symm, HW⟩
        · obtain rfl : _ = op := Option.some.inj (show some _ = some op from ho)
          have e11 : t 11 = .bool false := (hv 11 (hd { on := 11, ground := .guard } (by simp) rfl)).trans V11
          have HV := (show Hid (Rg.Vals l VV t) from hv)
          clear hv hd ho
          refine wpOp_step rfl fun K9 hK9 => ?_
          have HKK := (show Hid _ from hK9)
          clear hK9
          go_simp
          exact HKK.out _ _ ⟨by simp [hsz], fun j => if j = 12 then .pointer (some ⟨Z, 1, none⟩) else t j, by simp [e11], HV.out.put 12 _ V12.symm, HW⟩
        · obtain rfl : _ = op := Option.some.inj (show some _ = some op from ho)
          have e12 : t 12 = .pointer (some ⟨Z, 1, none⟩) := (hv 12 (hd { on := 12, ground := .data } (by simp) rfl)).trans V12
          have e11 : t 11 = .bool false := (hv 11 (hd { on := 11, ground := .guard } (by simp) rfl)).trans V11
          have ycX0 : w'.cell? ⟨X, 0, none⟩ = some (.string S) := (HW.out.cell (p := ⟨X, 0, none⟩) hX).trans cX0
          have ycX1 : w'.cell? ⟨X, 1, none⟩ = some (.slice pa ps.length pc) := (HW.out.cell (p := ⟨X, 1, none⟩) hX).trans cX1
          have ycZ0 : w'.cell? ⟨Z, 0, none⟩ = some (.string S1) := (HW.out.cell (p := ⟨Z, 0, none⟩) hZ).trans cZ0
          have ycZ1 : w'.cell? ⟨Z, 1, none⟩ = some (.slice zb ps1.length zd) := (HW.out.cell (p := ⟨Z, 1, none⟩) hZ).trans cZ1
          have HV := (show Hid (Rg.Vals l VV t) from hv)
          clear hv hd ho
          refine wpOp_step rfl fun K9 hK9 => ?_
          have HKK := (show Hid _ from hK9)
          clear hK9
          go_simp
          exact HKK.out _ _ ⟨by simp [hsz], fun j => if j = 13 then .slice zb ps1.length zd else t j, by simp [e12, e11], HV.out.put 13 _ V13.symm, HW⟩
        · obtain rfl : _ = op := Option.some.inj (show some _ = some op from ho)
          have e13 : t 13 = .slice zb ps1.length zd := (hv 13 (hd { on := 13, ground := .data } (by simp) rfl)).trans V13
          have e11 : t 11 = .bool false := (hv 11 (hd { on := 11, ground := .guard } (by simp) rfl)).trans V11
          have HV := (show Hid (Rg.Vals l VV t) from hv)
          clear hv hd ho
          refine wpOp_step rfl fun K9 hK9 => ?_
          have HKK := (show Hid _ from hK9)
          clear hK9
          go_simp
          exact HKK.out _ _ ⟨by simp [hsz], fun j => if j = 14 then .int .i64 (ps1.length : Nat) else t j, by simp [e13, e11], HV.out.put 14 _ V14.symm, HW⟩
        · obtain rfl : _ = op := Option.some.inj (show some _ = some op from ho)
          have e11 : t 11 = .bool false := (hv 11 (hd { on := 11, ground := .guard } (by simp) rfl)).trans V11
          have HV := (show Hid (Rg.Vals l VV t) from hv)
          clear hv hd ho
          refine wpOp_step rfl fun K9 hK9 => ?_
          have HKK := (show Hid _ from hK9)
          clear hK9
          go_simp
          exact HKK.out _ _ ⟨by simp [hsz], fun j => if j = 15 then .int .i64 (ps.length : Nat) else t j, by simp [e11], HV.out.put 15 _ V15.symm, HW⟩
        · obtain rfl : _ = op := Option.some.inj (show some _ = some op from ho)
          have e14 : t 14 = .int .i64 (ps1.length : Nat) := (hv 14 (hd { on := 14, ground := .data } (by simp) rfl)).trans V14
          have e15 : t 15 = .int .i64 (ps.length : Nat) := (hv 15 (hd { on := 15, ground := .data } (by simp) rfl)).trans V15
          have e11 : t 11 = .bool false := (hv 11 (hd { on := 11, ground := .guard } (by simp) rfl)).trans V11
          have HV := (show Hid (Rg.Vals l VV t) from hv)
          clear hv hd ho
          refine wpOp_step rfl fun K9 hK9 => ?_
          have HKK := (show Hid _ from hK9)
          clear hK9
          go_simp
          exact HKK.out _ _ ⟨by simp [hsz], fun j => if j = 16 then .bool false else t j, by simp [e14, e15, e11], HV.out.put 16 _ V16.symm, HW⟩
        · obtain rfl : _ = op := Option.some.inj (show some _ = some op from ho)
          have e11 : t 11 = .bool false := (hv 11 (hd { on := 11, ground := .data } (by simp) rfl)).trans V11
          have e16 : t 16 = .bool false := (hv 16 (hd { on := 16, ground := .data } (by simp) rfl)).trans V16
          have HV := (show Hid (Rg.Vals l VV t) from hv)
          clear hv hd ho
          refine wpOp_step rfl fun K9 hK9 => ?_
          have HKK := (show Hid _ from hK9)
          clear hK9
          go_simp
          exact HKK.out _ _ ⟨by simp [hsz], fun j => if j = 17 then .bool false else t j, by simp [e11, e16], HV.out.put 17 _ V17.symm, HW⟩
        · obtain rfl : _ = op := Option.some.inj (show some _ = some op from ho)
          have e17 : t 17 = .bool false := (hv 17 (hd { on := 17, ground := .data } (by simp) rfl)).trans V17
          have HV := (show Hid (Rg.Vals l VV t) from hv)
          clear hv hd ho
          refine wpOp_step rfl fun K9 hK9 => ?_
          have HKK := (show Hid _ from hK9)
          clear hK9
          go_simp
          exact HKK.out _ _ ⟨by simp [hsz], fun j => if j = 18 then .bool false else t j, by simp [e17], HV.out.put 18 _ V18.symm, HW⟩
        · obtain rfl : _ = op := Option.some.inj (show some _ = some op from ho)
          have e18 : t 18 = .bool false := (hv 18 (hd { on := 18, ground := .guard } (by simp) rfl)).trans V18
          have HV := (show Hid (Rg.Vals l VV t) from hv)
          clear hv hd ho
          refine wpOp_step rfl fun K9 hK9 => ?_
          have HKK := (show Hid _ from hK9)
          clear hK9
          go_simp
          exact HKK.out _ _ ⟨by simp [hsz], fun j => if j = 19 then .pointer (some ⟨X, 0, none⟩) else t j, by simp [e18], HV.out.put 19 _ V19.symm, HW⟩
        · obtain rfl : _ = op := Option.some.inj (show some _ = some op from ho)
          have e19 : t 19 = .pointer (some ⟨X, 0, none⟩) := (hv 19 (hd { on := 19, ground := .data } (by simp) rfl)).trans V19
          have e18 : t 18 = .bool false := (hv 18 (hd { on := 18, ground := .guard } (by simp) rfl)).trans V18
          have ycX0 : w'.cell? ⟨X, 0, none⟩ = some (.string S) := (HW.out.cell (p := ⟨X, 0, none⟩) hX).trans cX0
          have ycX1 : w'.cell? ⟨X, 1, none⟩ = some (.slice pa ps.length pc) := (HW.out.cell (p := ⟨X, 1, none⟩) hX).trans cX1
          have ycZ0 : w'.cell? ⟨Z, 0, none⟩ = some (.string S1) := (HW.out.cell (p := ⟨Z, 0, none⟩) hZ).trans cZ0
          have ycZ1 : w'.cell? ⟨Z, 1, none⟩ = some (.slice zb ps1.length zd) := (HW.out.cell (p := ⟨Z, 1, none⟩) hZ).trans cZ1
          have HV := (show Hid (Rg.Vals l VV t) from hv)
          clear hv hd ho
          refine wpOp_step rfl fun K9 hK9 => ?_
          have HKK := (show Hid _ from hK9)
          clear hK9
          go_simp
          exact HKK.out _ _ ⟨by simp [hsz], fun j => if j = 20 then .string S else t j, by simp [e19, e18], HV.out.put 20 _ V20.symm, HW⟩
        · obtain rfl : _ = op := Option.some.inj (show some _ = some op from ho)
          have e18 : t 18 = .bool false := (hv 18 (hd { on := 18, ground := .guard } (by simp) rfl)).trans V18
          have HV := (show Hid (Rg.Vals l VV t) from hv)
          clear hv hd ho
          refine wpOp_step rfl fun K9 hK9 => ?_
          have HKK := (show Hid _ from hK9)
          clear hK9
          go_simp
          exact HKK.out _ _ ⟨by simp [hsz], fun j => if j = 21 then .pointer (some ⟨Z, 1, none⟩) else t j, by simp [e18], HV.out.put 21 _ V21.symm, HW⟩
        · obtain rfl : _ = op := Option.some.inj (show some _ = some op from ho)
          have e21 : t 21 = .pointer (some ⟨Z, 1, none⟩) := (hv 21 (hd { on := 21, ground := .data } (by simp) rfl)).trans V21
          have e18 : t 18 = .bool false := (hv 18 (hd { on := 18, ground := .guard } (by simp) rfl)).trans V18
          have ycX0 : w'.cell? ⟨X, 0, none⟩ = some (.string S) := (HW.out.cell (p := ⟨X, 0, none⟩) hX).trans cX0
          have ycX1 : w'.cell? ⟨X, 1, none⟩ = some (.slice pa ps.length pc) := (HW.out.cell (p := ⟨X, 1, none⟩) hX).trans cX1
          have ycZ0 : w'.cell? ⟨Z, 0, none⟩ = some (.string S1) := (HW.out.cell (p := ⟨Z, 0, none⟩) hZ).trans cZ0
          have ycZ1 : w'.cell? ⟨Z, 1, none⟩ = some (.slice zb ps1.length zd) := (HW.out.cell (p := ⟨Z, 1, none⟩) hZ).trans cZ1
          have HV := (show Hid (Rg.Vals l VV t) from hv)
          clear hv hd ho
          refine wpOp_step rfl fun K9 hK9 => ?_
          have HKK := (show Hid _ from hK9)
          clear hK9
          go_simp
          exact HKK.out _ _ ⟨by simp [hsz], fun j => if j = 22 then .slice zb ps1.length zd else t j, by simp [e21, e18], HV.out.put 22 _ V22.symm, HW⟩
        · obtain rfl : _ = op := Option.some.inj (show some _ = some op from ho)
          have e18 : t 18 = .bool false := (hv 18 (hd { on := 18, ground := .guard } (by simp) rfl)).trans V18
          have HV := (show Hid (Rg.Vals l VV t) from hv)
          clear hv hd ho
          refine wpOp_step rfl fun K9 hK9 => ?_
          have HKK := (show Hid _ from hK9)
          clear hK9
          go_simp
          exact HKK.out _ _ ⟨by simp [hsz], fun j => if j = 23 then .int .i64 (ps.length : Nat) else t j, by simp [e18], HV.out.put 23 _ V23.symm, HW⟩
        · obtain rfl : _ = op := Option.some.inj (show some _ = some op from ho)
          have e22 : t 22 = .slice zb ps1.length zd := (hv 22 (hd { on := 22, ground := .data } (by simp) rfl)).trans V22
          have e23 : t 23 = .int .i64 (ps.length : Nat) := (hv 23 (hd { on := 23, ground := .data } (by simp) rfl)).trans V23
          have e18 : t 18 = .bool false := (hv 18 (hd { on := 18, ground := .guard } (by simp) rfl)).trans V18
          have HV := (show Hid (Rg.Vals l VV t) from hv)
          clear hv hd ho
          refine wpOp_step rfl fun K9 hK9 => ?_
          have HKK := (show Hid _ from hK9)
          clear hK9
          go_simp
          go_wp2_with fail
          exact HKK.out _ _ ⟨by simp [hsz], fun j => if j = 24 then .slice zb ps.length zd else t j, by simp [e22, e23, e18], HV.out.put 24 _ V24.symm, HW⟩
        · obtain rfl : _ = op := Option.some.inj (show some _ = some op from ho)
          have e20 : t 20 = .string S := (hv 20 (hd { on := 20, ground := .data } (by simp) rfl)).trans V20
          have e24 : t 24 = .slice zb ps.length zd := (hv 24 (hd { on := 24, ground := .data } (by simp) rfl)).trans V24
          have e18 : t 18 = .bool false := (hv 18 (hd { on := 18, ground := .guard } (by simp) rfl)).trans V18
          have HV := (show Hid (Rg.Vals l VV t) from hv)
          clear hv hd ho
          refine wpOp_step rfl fun K9 hK9 => ?_
          have HKK := (show Hid _ from hK9)
          clear hK9
          go_simp
          exact HKK.out _ _ ⟨by simp [hsz], fun j => if j = 25 then .agg #[.string S, .slice zb ps.length zd] else t j, by simp [e20, e24, e18], HV.out.put 25 _ V25.symm, HW⟩
        · obtain rfl : _ = op := Option.some.inj (show some _ = some op from ho)
          have e18 : t 18 = .bool false := (hv 18 (hd { on := 18, ground := .guard } (by simp) rfl)).trans V18
          have ycX0 : w'.cell? ⟨X, 0, none⟩ = some (.string S) := (HW.out.cell (p := ⟨X, 0, none⟩) hX).trans cX0
          have ycX1 : w'.cell? ⟨X, 1, none⟩ = some (.slice pa ps.length pc) := (HW.out.cell (p := ⟨X, 1, none⟩) hX).trans cX1
          have ycZ0 : w'.cell? ⟨Z, 0, none⟩ = some (.string S1) := (HW.out.cell (p := ⟨Z, 0, none⟩) hZ).trans cZ0
          have ycZ1 : w'.cell? ⟨Z, 1, none⟩ = some (.slice zb ps1.length zd) := (HW.out.cell (p := ⟨Z, 1, none⟩) hZ).trans cZ1
          have HV := (show Hid (Rg.Vals l VV t) from hv)
          clear hv hd ho
          refine wpOp_step rfl fun K9 hK9 => ?_
          have HKK := (show Hid _ from hK9)
          clear hK9
          go_simp
          exact HKK.out _ _ ⟨by simp [hsz], fun j => if j = 26 then .agg #[.string S, .slice pa ps.length pc] else t j, by simp [e18], HV.out.put 26 _ V26.symm, HW⟩
        · obtain rfl : _ = op := Option.some.inj (show some _ = some op from ho)
          have e25 : t 25 = .agg #[.string S, .slice zb ps.length zd] := (hv 25 (hd { on := 25, ground := .data } (by simp) rfl)).trans V25
          have e26 : t 26 = .agg #[.string S, .slice pa ps.length pc] := (hv 26 (hd { on := 26, ground := .data } (by simp) rfl)).trans V26
          have e18 : t 18 = .bool false := (hv 18 (hd { on := 18, ground := .guard } (by simp) rfl)).trans V18
          have HV := (show Hid (Rg.Vals l VV t) from hv)
          clear hv hd ho
          refine wpOp_step rfl fun K9 hK9 => ?_
          have HKK := (show Hid _ from hK9)
          clear hK9
          go_simp
          refine (LzT.lzs_same _ S _ _ ps hbT (HTK.out.below HW.out) (HTX.out.below HW.out)).mono ?_
          rintro e w9 ⟨rfl, k9⟩
          refine HKK.out _ _ ⟨by simp [hsz], fun j => if j = 27 then .bool true else t j, by simp [e25, e26, e18], HV.out.put 27 _ V27.symm, HW.out.trans (k9.mono HW.out.size)⟩
        · obtain rfl : _ = op := Option.some.inj (show some _ = some op from ho)
          have e27 : t 27 = .bool true := (hv 27 (hd { on := 27, ground := .data } (by simp) rfl)).trans V27
          have e18 : t 18 = .bool false := (hv 18 (hd { on := 18, ground := .guard } (by simp) rfl)).trans V18
          have HV := (show Hid (Rg.Vals l VV t) from hv)
          clear hv hd ho
          refine wpOp_step rfl fun K9 hK9 => ?_
          have HKK := (show Hid _ from hK9)
          clear hK9
          go_simp
          exact HKK.out _ _ ⟨by simp [hsz], fun j => if j = 28 then .bool false else t j, by simp [e27, e18], HV.out.put 28 _ V28.symm, HW⟩
        · obtain rfl : _ = op := Option.some.inj (show some _ = some op from ho)
          have e18 : t 18 = .bool false := (hv 18 (hd { on := 18, ground := .data } (by simp) rfl)).trans V18
          have e28 : t 28 = .bool false := (hv 28 (hd { on := 28, ground := .data } (by simp) rfl)).trans V28
          have HV := (show Hid (Rg.Vals l VV t) from hv)
          clear hv hd ho
          refine wpOp_step rfl fun K9 hK9 => ?_
          have HKK := (show Hid _ from hK9)
          clear hK9
          go_simp
          exact HKK.out _ _ ⟨by simp [hsz], fun j => if j = 29 then .bool false else t j, by simp [e18, e28], HV.out.put 29 _ V29.symm, HW⟩
      case fin =>
        rintro l a' r9 ⟨hsz, t, rfl, hv, HW⟩ hall
        have z29 := (hv 29 (hall 29 (by simp))).trans V29
        rw [z29]
        have kR := HW.out
        clear hv hall z29 HW V0 V1 V2 V3 V4 V5 V6 V7 V8 V9 V10 V11 V12 V13 V14 V15 V16 V17 V18 V19 V20 V21 V22 V23 V24 V25 V26 V27 V28 V29
        replace cX0 := (kR.cell (p := ⟨X, 0, none⟩) hX).trans cX0
        replace cX1 := (kR.cell (p := ⟨X, 1, none⟩) hX).trans cX1
        replace cY0 := (kR.cell (p := ⟨Y, 0, none⟩) hY).trans cY0
        replace cY1 := (kR.cell (p := ⟨Y, 1, none⟩) hY).trans cY1
        replace cZ0 := (kR.cell (p := ⟨Z, 0, none⟩) hZ).trans cZ0
        replace cZ1 := (kR.cell (p := ⟨Z, 1, none⟩) hZ).trans cZ1
        replace hX : X < r9.heap.size := Nat.lt_of_lt_of_le hX kR.size
        replace hY : Y < r9.heap.size := Nat.lt_of_lt_of_le hY kR.size
        replace hZ : Z < r9.heap.size := Nat.lt_of_lt_of_le hZ kR.size
        replace HMX := (show Hid (IsM r9 (.slice va (prs es).length vc) (prs es)) from HMX.out.below kR)
        replace HTX := (show Hid (IsT r9 (.slice pa ps.length pc) ps) from HTX.out.below kR)
        replace HMY := (show Hid (IsM r9 (.slice ya (prs es1).length yc) (prs es1)) from HMY.out.below kR)
        replace HTY := (show Hid (IsT r9 (.slice yb ps1.length yd) ps1) from HTY.out.below kR)
        replace HMZ := (show Hid (IsM r9 (.slice za (prs es1).length zc) (prs es1)) from HMZ.out.below kR)
        replace HTZ := (show Hid (IsT r9 (.slice zb ps1.length zd) ps1) from HTZ.out.below kR)
        replace HTK := (show Hid (IsT r9 (.slice zb ps.length zd) ps) from HTK.out.below kR)
        replace HE := (show Hid (Errs r9) from HE.out.below kR)
        replace HB := (show Hid (Below w.heap.size w r9) from HB.out.trans (kR.mono HB.out.size))
        clear kR
        cases b
        · skip
          obtain ⟨hbad, q1, q2, q3⟩ := putF_no HF.out
          have q1' := q1.symm
          have q2' := q2.symm
          have q3' := q3.symm
          clear q1 q2 q3
          subst q1' q2' q3'
          have hbad' : (S.size : Int) < (q : Int) ∨ (40 : Int) < (q : Int) + (T.size : Int) := by omega
          go_wp2_with fail
          refine (LzT.lzs_same _ S _ _ ps hbT HTZ.out HTX.out).mono ?_
          rintro e v13 ⟨rfl, k63⟩
          replace cX0 := (k63.cell (p := ⟨X, 0, none⟩) hX).trans cX0
          replace cX1 := (k63.cell (p := ⟨X, 1, none⟩) hX).trans cX1
          replace cY0 := (k63.cell (p := ⟨Y, 0, none⟩) hY).trans cY0
          replace cY1 := (k63.cell (p := ⟨Y, 1, none⟩) hY).trans cY1
          replace cZ0 := (k63.cell (p := ⟨Z, 0, none⟩) hZ).trans cZ0
          replace cZ1 := (k63.cell (p := ⟨Z, 1, none⟩) hZ).trans cZ1
          replace hX : X < v13.heap.size := Nat.lt_of_lt_of_le hX k63.size
          replace hY : Y < v13.heap.size := Nat.lt_of_lt_of_le hY k63.size
          replace hZ : Z < v13.heap.size := Nat.lt_of_lt_of_le hZ k63.size
          replace HMX := (show Hid (IsM v13 (.slice va (prs es).length vc) (prs es)) from HMX.out.below k63)
          replace HTX := (show Hid (IsT v13 (.slice pa ps.length pc) ps) from HTX.out.below k63)
          replace HMY := (show Hid (IsM v13 (.slice ya (prs es).length yc) (prs es)) from HMY.out.below k63)
          replace HTY := (show Hid (IsT v13 (.slice yb ps.length yd) ps) from HTY.out.below k63)
          replace HMZ := (show Hid (IsM v13 (.slice za (prs es).length zc) (prs es)) from HMZ.out.below k63)
          replace HTZ := (show Hid (IsT v13 (.slice zb ps.length zd) ps) from HTZ.out.below k63)
          replace HTK := (show Hid (IsT v13 (.slice zb ps.length zd) ps) from HTK.out.below k63)
          replace HE := (show Hid (Errs v13) from HE.out.below k63)
          replace HB := (show Hid (Below w.heap.size w v13) from HB.out.trans (k63.mono HB.out.size))
          clear k63
          rcases Int.lt_or_le (q : Int) (S.size : Int) with h9 | h9
          · have h8 : (40 : Int) < (q : Int) + (T.size : Int) := by omega
            have h7 : ¬ (S.size : Int) < (q : Int) := by omega
            go_wp2
            go_ret
            exact ⟨rfl, HB.out⟩
          · by_cases h7 : (S.size : Int) < (q : Int)
            · go_wp2
              go_ret
              exact ⟨rfl, HB.out⟩
            · have h8 : (40 : Int) < (q : Int) + (T.size : Int) := by omega
              go_wp2
              go_ret
              exact ⟨rfl, HB.out⟩
        · skip
          obtain ⟨sz1, sz2, sz3, sz4⟩ := putF_size HF.out
          have hmx : max (S.size : Int) ((q : Int) + (T.size : Int)) = (S1.size : Int) := by omega
          have hqT : IntKind.i64.wrap ((q : Int) + (T.size : Int)) = (q : Int) + (T.size : Int) := by simp [IntKind.wrap, IntKind.bits, IntKind.signed]; omega
          clear sz1 sz2 sz3 sz4
          have hmix : Tryz.prog.follows .mixedOrders = true := by kernel_rfl
          obtain ⟨VV, hVV⟩ : ∃ VV : Nat → Value, VV = fun j => [(.pointer (some ⟨Z, 0, none⟩) : Value), .string S1, .int .i64 (S1.size : Nat), .pointer (some ⟨X, 0, none⟩), .string S, .int .i64 (S.size : Nat), .int .i64 (q : Nat), .string T, .int .i64 (T.size : Nat), .int .i64 ((q : Int) + (T.size : Int)), .int .i64 (S1.size : Nat), .bool true, .bool true, .agg #[.string S, .slice pa ps.length pc], .string A, .agg #[.string S1, .slice zb ps1.length zd], .string B, .bool true, .bool true, .bool true].getD j undef := ⟨_, rfl⟩
          have V0 : VV 0 = .pointer (some ⟨Z, 0, none⟩) := by rw [hVV]; rfl
          have V1 : VV 1 = .string S1 := by rw [hVV]; rfl
          have V2 : VV 2 = .int .i64 (S1.size : Nat) := by rw [hVV]; rfl
          have V3 : VV 3 = .pointer (some ⟨X, 0, none⟩) := by rw [hVV]; rfl
          have V4 : VV 4 = .string S := by rw [hVV]; rfl
          have V5 : VV 5 = .int .i64 (S.size : Nat) := by rw [hVV]; rfl
          have V6 : VV 6 = .int .i64 (q : Nat) := by rw [hVV]; rfl
          have V7 : VV 7 = .string T := by rw [hVV]; rfl
          have V8 : VV 8 = .int .i64 (T.size : Nat) := by rw [hVV]; rfl
          have V9 : VV 9 = .int .i64 ((q : Int) + (T.size : Int)) := by rw [hVV]; rfl
          have V10 : VV 10 = .int .i64 (S1.size : Nat) := by rw [hVV]; rfl
          have V11 : VV 11 = .bool true := by rw [hVV]; rfl
          have V12 : VV 12 = .bool true := by rw [hVV]; rfl
          have V13 : VV 13 = .agg #[.string S, .slice pa ps.length pc] := by rw [hVV]; rfl
          have V14 : VV 14 = .string A := by rw [hVV]; rfl
          have V15 : VV 15 = .agg #[.string S1, .slice zb ps1.length zd] := by rw [hVV]; rfl
          have V16 : VV 16 = .string B := by rw [hVV]; rfl
          have V17 : VV 17 = .bool true := by rw [hVV]; rfl
          have V18 : VV 18 = .bool true := by rw [hVV]; rfl
          have V19 : VV 19 = .bool true := by rw [hVV]; rfl
          clear hVV
          go_upto_region 13 with fail
          refine wp_region_any hmix ?_
          refine Ri.any_inv (I := fun l a' w' => l.size = 20 ∧ ∃ t2 : Nat → Value, a' = { tmps := #[(Value.slice a0 len0 cap0 : Value), undef, t2 19, Value.slice va (prs es).length vc, Value.pointer (some { block := X, off := 0 }), Value.int IntKind.i64 ↑q, Value.string T, Value.bool o, Value.slice ya (prs es1).length yc, Value.pointer (some { block := Y, off := 0 }), Value.bool true, Value.slice za (prs es1).length zc, Value.pointer (some { block := Z, off := 0 }), Value.bool true, Value.int IntKind.i64 ↑ps.length, Value.slice a0 len0 cap0, Value.int IntKind.i64 ↑len0, Value.bool (decide ((1048576 : Int) < (len0 : Int))), Value.tuple #[Value.slice va (prs es).length vc, Value.agg #[Value.string S, Value.slice pa ps.length pc], Value.int IntKind.i64 ↑q, Value.string T, Value.bool o], Value.slice a0 len0 cap0, Value.tuple #[Value.slice va (prs es).length vc, Value.agg #[Value.string S, Value.slice pa ps.length pc], Value.int IntKind.i64 ↑q, Value.string T, Value.bool o], Value.slice va (prs es).length vc, Value.agg #[Value.string S, Value.slice pa ps.length pc], Value.int IntKind.i64 ↑q, Value.string T, Value.bool o, Value.tuple #[Value.slice ya (prs es1).length yc, Value.agg #[Value.string S1, Value.slice yb ps1.length yd], Value.bool true], Value.slice va (prs es).length vc, Value.agg #[Value.string S, Value.slice pa ps.length pc], Value.int IntKind.i64 ↑q, Value.string T, Value.bool o, Value.tuple #[Value.slice ya (prs es1).length yc, Value.agg #[Value.string S1, Value.slice yb ps1.length yd], Value.bool true], Value.slice ya (prs es1).length yc, Value.agg #[Value.string S1, Value.slice yb ps1.length yd], Value.bool true, Value.tuple #[Value.slice za (prs es1).length zc, Value.agg #[Value.string S1, Value.slice zb ps1.length zd], Value.bool true], Value.slice va (prs es).length vc, Value.agg #[Value.string S, Value.slice pa ps.length pc], Value.int IntKind.i64 ↑q, Value.string T, Value.bool o, Value.tuple #[Value.slice za (prs es1).length zc, Value.agg #[Value.string S1, Value.slice zb ps1.length zd], Value.bool true], Value.slice za (prs es1).length zc, Value.agg #[Value.string S1, Value.slice zb ps1.length zd], Value.bool true, Value.bool true, Value.bool true, Value.bool false, Value.bool false, Value.agg #[Value.string S1, Value.slice zb ps1.length zd], Value.agg #[Value.string S1, Value.slice yb ps1.length yd], Value.bool true, Value.bool false, Value.bool false, Value.bool false, Value.slice za (prs es1).length zc, Value.slice ya (prs es1).length yc, Value.bool true, Value.bool false, Value.bool false, Value.bool false, Value.slice va (prs es).length vc, Value.bool true, Value.bool false, Value.bool false, Value.bool false, Value.agg #[Value.string S, Value.slice pa ps.length pc], Value.bool true, Value.bool false, Value.bool false, Value.bool false, Value.string T, Value.bool true, Value.bool false, Value.bool false, undef, undef, undef, undef, undef, undef, undef, undef, undef, undef, undef, undef, undef, Value.pointer (some { block := X, off := 1 }), Value.slice pa ps.length pc, Value.int IntKind.i64 ↑ps.length, t 0, t 1, t 2, t 3, t 4, t 5, t 6, t 7, t 8, t 9, t 10, t 11, t 12, t 13, t 14, t 15, t 16, t 17, t 18, t 19, t 20, t 21, t 22, t 23, t 24, t 25, t 26, t 27, t 28, Value.bool false, Value.bool true, Value.bool false, undef, undef, undef, undef, undef, undef, undef, undef, undef, undef, undef, undef, undef, undef, undef, undef, undef, t2 0, t2 1, t2 2, t2 3, t2 4, t2 5, t2 6, t2 7, t2 8, t2 9, t2 10, t2 11, t2 12, t2 13, t2 14, t2 15, t2 16, t2 17, t2 18], defers := [] } ∧ Rg.Vals l VV t2 ∧ Hid (Below r9.heap.size r9 w')) ?sz ?low ?step ?fin _ _ _ _ ?start (Ri.closed_none _ _ _) (Rg.left_all _)
          case sz => exact fun l a' w' h => h.1
          case start => exact ⟨by simp, fun j => ([undef, undef, undef, undef, undef, undef, undef, undef, undef, undef, undef, undef, undef, undef, undef, undef, undef, undef, undef, Value.bool false] : List Value).getD j undef, rfl, Rg.vals_none _ _ _, (Below.refl _ _).drew⟩
          case low => exact Ri.low_of (by kernel_rfl)
          case step =>
            rintro l a' w' i ⟨hsz, t2, rfl, hv, HW⟩ hcl hi
            obtain ⟨h0, op, ho, hd⟩ := mem_ready.1 hi
            have hin : i < 20 := (Array.getElem?_eq_some_iff.1 ho).1
            clear h0 hi hcl
            have hc : i = 0 ∨ i = 1 ∨ i = 2 ∨ i = 3 ∨ i = 4 ∨ i = 5 ∨ i = 6 ∨ i = 7 ∨ i = 8 ∨ i = 9 ∨ i = 10 ∨ i = 11 ∨ i = 12 ∨ i = 13 ∨ i = 14 ∨ i = 15 ∨ i = 16 ∨ i = 17 ∨ i = 18 ∨ i = 19 := by omega
            rcases hc with rfl | rfl | rfl | rfl | rfl | rfl | rfl | rfl | rfl | rfl | rfl | rfl | rfl | rfl | rfl | rfl | rfl | rfl | rfl | rfl
            · obtain rfl : _ = op := Option.some.inj (show some _ = some op from ho)
              have HV := (show Hid (Rg.Vals l VV t2) from hv)
              clear hv hd ho
              refine wpOp_step rfl fun K9 hK9 => ?_
              have HKK := (show Hid _ from hK9)
              clear hK9
              go_simp
              exact HKK.out _ _ ⟨by simp [hsz], fun j => if j = 0 then .pointer (some ⟨Z, 0, none⟩) else t2 j, by simp, HV.out.put 0 _ V0.symm, HW⟩
            · obtain rfl : _ = op := Option.some.inj (show some _ = some op from ho)
              have e0 : t2 0 = .pointer (some ⟨Z, 0, none⟩) := (hv 0 (hd { on := 0, ground := .data } (by simp) rfl)).trans V0
              have ycX0 : w'.cell? ⟨X, 0, none⟩ = some (.string S) := (HW.out.cell (p := ⟨X, 0, none⟩) hX).trans cX0
              have ycX1 : w'.cell? ⟨X, 1, none⟩ = some (.slice pa ps.length pc) := (HW.out.cell (p := ⟨X, 1, none⟩) hX).trans cX1
              have ycZ0 : w'.cell? ⟨Z, 0, none⟩ = some (.string S1) := (HW.out.cell (p := ⟨Z, 0, none⟩) hZ).trans cZ0
              have ycZ1 : w'.cell? ⟨Z, 1, none⟩ = some (.slice zb ps1.length zd) := (HW.out.cell (p := ⟨Z, 1, none⟩) hZ).trans cZ1
              have HV := (show Hid (Rg.Vals l VV t2) from hv)
              clear hv hd ho
              refine wpOp_step rfl fun K9 hK9 => ?_
              have HKK := (show Hid _ from hK9)
              clear hK9
              go_simp
              exact HKK.out _ _ ⟨by simp [hsz], fun j => if j = 1 then .string S1 else t2 j, by simp [e0], HV.out.put 1 _ V1.symm, HW⟩
            · obtain rfl : _ = op := Option.some.inj (show some _ = some op from ho)
              have e1 : t2 1 = .string S1 := (hv 1 (hd { on := 1, ground := .data } (by simp) rfl)).trans V1
              have HV := (show Hid (Rg.Vals l VV t2) from hv)
              clear hv hd ho
              refine wpOp_step rfl fun K9 hK9 => ?_
              have HKK := (show Hid _ from hK9)
              clear hK9
              go_simp
              exact HKK.out _ _ ⟨by simp [hsz], fun j => if j = 2 then .int .i64 (S1.size : Nat) else t2 j, by simp [e1], HV.out.put 2 _ V2.symm, HW⟩
            · obtain rfl : _ = op := Option.some.inj (show some _ = some op from ho)
              have HV := (show Hid (Rg.Vals l VV t2) from hv)
              clear hv hd ho
              refine wpOp_step rfl fun K9 hK9 => ?_
              have HKK := (show Hid _ from hK9)
              clear hK9
              go_simp
              exact HKK.out _ _ ⟨by simp [hsz], fun j => if j = 3 then .pointer (some ⟨X, 0, none⟩) else t2 j, by simp, HV.out.put 3 _ V3.symm, HW⟩
            · obtain rfl : _ = op := Option.some.inj (show some _ = some op from ho)
              have e3 : t2 3 = .pointer (some ⟨X, 0, none⟩) := (hv 3 (hd { on := 3, ground := .data } (by simp) rfl)).trans V3
              have ycX0 : w'.cell? ⟨X, 0, none⟩ = some (.string S) := (HW.out.cell (p := ⟨X, 0, none⟩) hX).trans cX0
              have ycX1 : w'.cell? ⟨X, 1, none⟩ = some (.slice pa ps.length pc) := (HW.out.cell (p := ⟨X, 1, none⟩) hX).trans cX1
              have ycZ0 : w'.cell? ⟨Z, 0, none⟩ = some (.string S1) := (HW.out.cell (p := ⟨Z, 0, none⟩) hZ).trans cZ0
              have ycZ1 : w'.cell? ⟨Z, 1, none⟩ = some (.slice zb ps1.length zd) := (HW.out.cell (p := ⟨Z, 1, none⟩) hZ).trans cZ1
              have HV := (show Hid (Rg.Vals l VV t2) from hv)
              clear hv hd ho
              refine wpOp_step rfl fun K9 hK9 => ?_
              have HKK := (show Hid _ from hK9)
              clear hK9
              go_simp
              exact HKK.out _ _ ⟨by simp [hsz], fun j => if j = 4 then .string S else t2 j, by simp [e3], HV.out.put 4 _ V4.symm, HW⟩
            · obtain rfl : _ = op := Option.some.inj (show some _ = some op from ho)
              have e4 : t2 4 = .string S := (hv 4 (hd { on := 4, ground := .data } (by simp) rfl)).trans V4
              have HV := (show Hid (Rg.Vals l VV t2) from hv)
              clear hv hd ho
              refine wpOp_step rfl fun K9 hK9 => ?_
              have HKK := (show Hid _ from hK9)
              clear hK9
              go_simp
              exact HKK.out _ _ ⟨by simp [hsz], fun j => if j = 5 then .int .i64 (S.size : Nat) else t2 j, by simp [e4], HV.out.put 5 _ V5.symm, HW⟩
            · obtain rfl : _ = op := Option.some.inj (show some _ = some op from ho)
              have HV := (show Hid (Rg.Vals l VV t2) from hv)
              clear hv hd ho
              refine wpOp_step rfl fun K9 hK9 => ?_
              have HKK := (show Hid _ from hK9)
              clear hK9
              go_simp
              exact HKK.out _ _ ⟨by simp [hsz], fun j => if j = 6 then .int .i64 (q : Nat) else t2 j, by simp, HV.out.put 6 _ V6.symm, HW⟩
            · obtain rfl : _ = op := Option.some.inj (show some _ = some op from ho)
              have HV := (show Hid (Rg.Vals l VV t2) from hv)
              clear hv hd ho
              refine wpOp_step rfl fun K9 hK9 => ?_
              have HKK := (show Hid _ from hK9)
              clear hK9
              go_simp
              exact HKK.out _ _ ⟨by simp [hsz], fun j => if j = 7 then .string T else t2 j, by simp, HV.out.put 7 _ V7.symm, HW⟩
            · obtain rfl : _ = op := Option.some.inj (show some _ = some op from ho)
              have e7 : t2 7 = .string T := (hv 7 (hd { on := 7, ground := .data } (by simp) rfl)).trans V7
              have HV := (show Hid (Rg.Vals l VV t2) from hv)
              clear hv hd ho
              refine wpOp_step rfl fun K9 hK9 => ?_
              have HKK := (show Hid _ from hK9)
              clear hK9
              go_simp
              exact HKK.out _ _ ⟨by simp [hsz], fun j => if j = 8 then .int .i64 (T.size : Nat) else t2 j, by simp [e7], HV.out.put 8 _ V8.symm, HW⟩
            · obtain rfl : _ = op := Option.some.inj (show some _ = some op from ho)
              have e6 : t2 6 = .int .i64 (q : Nat) := (hv 6 (hd { on := 6, ground := .data } (by simp) rfl)).trans V6
              have e8 : t2 8 = .int .i64 (T.size : Nat) := (hv 8 (hd { on := 8, ground := .data } (by simp) rfl)).trans V8
              have HV := (show Hid (Rg.Vals l VV t2) from hv)
              clear hv hd ho
              refine wpOp_step rfl fun K9 hK9 => ?_
              have HKK := (show Hid _ from hK9)
              clear hK9
              go_simp
              exact HKK.out _ _ ⟨by simp [hsz], fun j => if j = 9 then .int .i64 ((q : Int) + (T.size : Int)) else t2 j, by simp [e6, e8], HV.out.put 9 _ V9.symm, HW⟩
            · obtain rfl : _ = op := Option.some.inj (show some _ = some op from ho)
              have e5 : t2 5 = .int .i64 (S.size : Nat) := (hv 5 (hd { on := 5, ground := .data } (by simp) rfl)).trans V5
              have e9 : t2 9 = .int .i64 ((q : Int) + (T.size : Int)) := (hv 9 (hd { on := 9, ground := .data } (by simp) rfl)).trans V9
              have HV := (show Hid (Rg.Vals l VV t2) from hv)
              clear hv hd ho
              refine wpOp_step rfl fun K9 hK9 => ?_
              have HKK := (show Hid _ from hK9)
              clear hK9
              go_simp
              exact HKK.out _ _ ⟨by simp [hsz], fun j => if j = 10 then .int .i64 (S1.size : Nat) else t2 j, by simp [e5, e9], HV.out.put 10 _ V10.symm, HW⟩
            · obtain rfl : _ = op := Option.some.inj (show some _ = some op from ho)
              have e2 : t2 2 = .int .i64 (S1.size : Nat) := (hv 2 (hd { on := 2, ground := .data } (by simp) rfl)).trans V2
              have e10 : t2 10 = .int .i64 (S1.size : Nat) := (hv 10 (hd { on := 10, ground := .data } (by simp) rfl)).trans V10
              have HV := (show Hid (Rg.Vals l VV t2) from hv)
              clear hv hd ho
              refine wpOp_step rfl fun K9 hK9 => ?_
              have HKK := (show Hid _ from hK9)
              clear hK9
              go_simp
              exact HKK.out _ _ ⟨by simp [hsz], fun j => if j = 11 then .bool true else t2 j, by simp [e2, e10], HV.out.put 11 _ V11.symm, HW⟩
            · obtain rfl : _ = op := Option.some.inj (show some _ = some op from ho)
              have e11 : t2 11 = .bool true := (hv 11 (hd { on := 11, ground := .data } (by simp) rfl)).trans V11
              have HV := (show Hid (Rg.Vals l VV t2) from hv)
              clear hv hd ho
              refine wpOp_step rfl fun K9 hK9 => ?_
              have HKK := (show Hid _ from hK9)
              clear hK9
              go_simp
              exact HKK.out _ _ ⟨by simp [hsz], fun j => if j = 12 then .bool true else t2 j, by simp [e11], HV.out.put 12 _ V12.symm, HW⟩
            · obtain rfl : _ = op := Option.some.inj (show some _ = some op from ho)
              have e12 : t2 12 = .bool true := (hv 12 (hd { on := 12, ground := .guard } (by simp) rfl)).trans V12
              have ycX0 : w'.cell? ⟨X, 0, none⟩ = some (.string S) := (HW.out.cell (p := ⟨X, 0, none⟩) hX).trans cX0
              have ycX1 : w'.cell? ⟨X, 1, none⟩ = some (.slice pa ps.length pc) := (HW.out.cell (p := ⟨X, 1, none⟩) hX).trans cX1
              have ycZ0 : w'.cell? ⟨Z, 0, none⟩ = some (.string S1) := (HW.out.cell (p := ⟨Z, 0, none⟩) hZ).trans cZ0
              have ycZ1 : w'.cell? ⟨Z, 1, none⟩ = some (.slice zb ps1.length zd) := (HW.out.cell (p := ⟨Z, 1, none⟩) hZ).trans cZ1
              have HV := (show Hid (Rg.Vals l VV t2) from hv)
              clear hv hd ho
              refine wpOp_step rfl fun K9 hK9 => ?_
              have HKK := (show Hid _ from hK9)
              clear hK9
              go_simp
              exact HKK.out _ _ ⟨by simp [hsz], fun j => if j = 13 then .agg #[.string S, .slice pa ps.length pc] else t2 j, by simp [e12], HV.out.put 13 _ V13.symm, HW⟩
            · obtain rfl : _ = op := Option.some.inj (show some _ = some op from ho)
              have e13 : t2 13 = .agg #[.string S, .slice pa ps.length pc] := (hv 13 (hd { on := 13, ground := .data } (by simp) rfl)).trans V13
              have e12 : t2 12 = .bool true := (hv 12 (hd { on := 12, ground := .guard } (by simp) rfl)).trans V12
              have HV := (show Hid (Rg.Vals l VV t2) from hv)
              clear hv hd ho
              refine wpOp_step rfl fun K9 hK9 => ?_
              have HKK := (show Hid _ from hK9)
              clear hK9
              go_simp
              refine (St.out_stream S _ ps _ (HTX.out.below HW.out) (HE.out.below HW.out)).mono ?_
              rintro e w9 ⟨rfl, k9⟩
              rw [HA.out]
              refine HKK.out _ _ ⟨by simp [hsz], fun j => if j = 14 then .string A else t2 j, by simp [e13, e12], HV.out.put 14 _ V14.symm, HW.out.trans (k9.mono HW.out.size)⟩
            · obtain rfl : _ = op := Option.some.inj (show some _ = some op from ho)
              have e12 : t2 12 = .bool true := (hv 12 (hd { on := 12, ground := .guard } (by simp) rfl)).trans V12
              have ycX0 : w'.cell? ⟨X, 0, none⟩ = some (.string S) := (HW.out.cell (p := ⟨X, 0, none⟩) hX).trans cX0
              have ycX1 : w'.cell? ⟨X, 1, none⟩ = some (.slice pa ps.length pc) := (HW.out.cell (p := ⟨X, 1, none⟩) hX).trans cX1
              have ycZ0 : w'.cell? ⟨Z, 0, none⟩ = some (.string S1) := (HW.out.cell (p := ⟨Z, 0, none⟩) hZ).trans cZ0
              have ycZ1 : w'.cell? ⟨Z, 1, none⟩ = some (.slice zb ps1.length zd) := (HW.out.cell (p := ⟨Z, 1, none⟩) hZ).trans cZ1
              have HV := (show Hid (Rg.Vals l VV t2) from hv)
              clear hv hd ho
              refine wpOp_step rfl fun K9 hK9 => ?_
              have HKK := (show Hid _ from hK9)
              clear hK9
              go_simp
              exact HKK.out _ _ ⟨by simp [hsz], fun j => if j = 15 then .agg #[.string S1, .slice zb ps1.length zd] else t2 j, by simp [e12], HV.out.put 15 _ V15.symm, HW⟩
            · obtain rfl : _ = op := Option.some.inj (show some _ = some op from ho)
              have e15 : t2 15 = .agg #[.string S1, .slice zb ps1.length zd] := (hv 15 (hd { on := 15, ground := .data } (by simp) rfl)).trans V15
              have e12 : t2 12 = .bool true := (hv 12 (hd { on := 12, ground := .guard } (by simp) rfl)).trans V12
              have HV := (show Hid (Rg.Vals l VV t2) from hv)
              clear hv hd ho
              refine wpOp_step rfl fun K9 hK9 => ?_
              have HKK := (show Hid _ from hK9)
              clear hK9
              go_simp
              refine (St.out_stream S1 _ ps1 _ (HTZ.out.below HW.out) (HE.out.below HW.out)).mono ?_
              rintro e w9 ⟨rfl, k9⟩
              rw [HBB.out]
              refine HKK.out _ _ ⟨by simp [hsz], fun j => if j = 16 then .string B else t2 j, by simp [e15, e12], HV.out.put 16 _ V16.symm, HW.out.trans (k9.mono HW.out.size)⟩
            · obtain rfl : _ = op := Option.some.inj (show some _ = some op from ho)
              have e14 : t2 14 = .string A := (hv 14 (hd { on := 14, ground := .data } (by simp) rfl)).trans V14
              have e16 : t2 16 = .string B := (hv 16 (hd { on := 16, ground := .data } (by simp) rfl)).trans V16
              have e12 : t2 12 = .bool true := (hv 12 (hd { on := 12, ground := .guard } (by simp) rfl)).trans V12
              have HV := (show Hid (Rg.Vals l VV t2) from hv)
              clear hv hd ho
              refine wpOp_step rfl fun K9 hK9 => ?_
              have HKK := (show Hid _ from hK9)
              clear hK9
              go_simp
              refine (begins_b A B HAB.out.1 HAB.out.2 _).mono ?_
              rintro e w9 ⟨rfl, k9⟩
              refine HKK.out _ _ ⟨by simp [hsz], fun j => if j = 17 then .bool true else t2 j, by simp [e14, e16, e12], HV.out.put 17 _ V17.symm, HW.out.trans (k9.mono HW.out.size)⟩
            · obtain rfl : _ = op := Option.some.inj (show some _ = some op from ho)
              have e12 : t2 12 = .bool true := (hv 12 (hd { on := 12, ground := .data } (by simp) rfl)).trans V12
              have e17 : t2 17 = .bool true := (hv 17 (hd { on := 17, ground := .data } (by simp) rfl)).trans V17
              have HV := (show Hid (Rg.Vals l VV t2) from hv)
              clear hv hd ho
              refine wpOp_step rfl fun K9 hK9 => ?_
              have HKK := (show Hid _ from hK9)
              clear hK9
              go_simp
              exact HKK.out _ _ ⟨by simp [hsz], fun j => if j = 18 then .bool true else t2 j, by simp [e12, e17], HV.out.put 18 _ V18.symm, HW⟩
            · obtain rfl : _ = op := Option.some.inj (show some _ = some op from ho)
              have e18 : t2 18 = .bool true := (hv 18 (hd { on := 18, ground := .data } (by simp) rfl)).trans V18
              have HV := (show Hid (Rg.Vals l VV t2) from hv)
              clear hv hd ho
              refine wpOp_step rfl fun K9 hK9 => ?_
              have HKK := (show Hid _ from hK9)
              clear hK9
              go_simp
              exact HKK.out _ _ ⟨by simp [hsz], fun j => if j = 19 then .bool true else t2 j, by simp [e18], HV.out.put 19 _ V19.symm, HW⟩
          case fin =>
            rintro l a' w' ⟨hsz, t2, rfl, hv, HW⟩ hall
            have z19 := (hv 19 (hall 19 (by simp))).trans V19
            rw [z19]
            have hb9 := HB.out.trans (HW.out.mono HB.out.size)
            clear hv hall z19
            go_wp2
            go_ret
            exact ⟨rfl, hb9⟩
end Go.Proofs.YtdggchcapjidjaaGreatDoor.LPutMore

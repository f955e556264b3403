/- The walk of the law FnOutTwice: it answers true. -/
import Derived.Test.YtlejldaennlfaaeGreatDoorDrawX
import Derived.Test.YtlejldaennlfaaeGreatDoorLaid
import Derived.Test.YtlejldaennlfaaeGreatDoorLzM
import Derived.Test.YtlejldaennlfaaeGreatDoorMt
import Derived.Test.YtlejldaennlfaaeGreatDoorSp
import Derived.Test.YtlejldaennlfaaeGreatDoorMpY
import Derived.Test.YtlejldaennlfaaeGreatDoorTxP
import Derived.Test.YtlejldaennlfaaeGreatDoorMpZ
namespace Go.Proofs.YtlejldaennlfaaeGreatDoor.LOutTwice
open Go.RowKit Go.Proofs.YtlejldaennlfaaeGreatDoor.Kit Go.Proofs.YtlejldaennlfaaeGreatDoor.Mp Go.Proofs.YtlejldaennlfaaeGreatDoor.Mm Go.Proofs.YtlejldaennlfaaeGreatDoor.Ml Go.Proofs.YtlejldaennlfaaeGreatDoor.Ms Go.Proofs.YtlejldaennlfaaeGreatDoor.App Go.Proofs.YtlejldaennlfaaeGreatDoor.DrawM Go.Proofs.YtlejldaennlfaaeGreatDoor.Mt Go.Proofs.YtlejldaennlfaaeGreatDoor.Sp Go.Proofs.YtlejldaennlfaaeGreatDoor.Tx
open Go.Proofs.YtlejldaennlfaaeGreatDoor.LzM (lz_same)
open Go.Proofs.YtlejldaennlfaaeGreatDoor.Wa (ba_ext)
open Go.Proofs.YtlejldaennlfaaeGreatDoor.Read (Errs)
set_option linter.unusedVariables false
set_option linter.unusedSimpArgs false

set_option maxHeartbeats 1000000 in
theorem long (a : Option Addr) (len cap : Nat) (w : World) (h : (1048576 : Int) < (len : Int)) :
    Calls Tryz.prog 5 #[.slice a len cap] w fun e w' => e = .returned (.bool true) ∧ Below w.heap.size w w' := by
  go_enter Tryz.func5, Tryz.ntmps5
  go_wp2
  go_ret
  exact ⟨rfl, Below.refl _ _⟩


set_option maxRecDepth 8000 in
set_option maxHeartbeats 16000000 in
theorem short (a : Option Addr) (len cap : Nat) (z : Nat → Int) (w : World) (hc : CodeIn w a len cap z) (h : (len : Int) ≤ 1048576) (herr : Errs w) :
    Calls Tryz.prog 5 #[.slice a len cap] w fun e w' => e = .returned (.bool true) ∧ Below w.heap.size w w' := by
  go_enter Tryz.func5, Tryz.ntmps5
  go_wp2_with fail
  refine (drawTextOut a len cap z _ hc).mono ?_
  rintro e w1 ⟨v, m, s, rfl, hm1, hml, hsm, hsz, k1⟩
  have herr1 := herr.below k1
  obtain ⟨mo, HO⟩ : ∃ mo, Hid (tOut m s.data.toList = mo) := ⟨_, rfl⟩
  have hmo : mo.1.length ≤ 8 := by rw [← HO.out]; exact tout_len m _
  have hmt : mo.2.length ≤ 300 := by rw [← HO.out]; exact tout_size m _
  obtain ⟨mx, mt⟩ := mo
  simp only at hmo hmt
  clear herr
  go_wp2_with fail
  refine (stout_any _ v m hm1 (by omega) s (by omega)).mono ?_
  rintro e w2 ⟨vS, T, rfl, hrS, hT, k2⟩
  rw [HO.out] at hrS hT
  have hS2 := isM_of_row hrS
  have hm2 := hm1.below k2
  have herr2 := herr1.below k2
  have b2 := k1.trans (k2.mono k1.size)
  clear hrS hm1 herr1 k1 k2
  go_wp2_with fail
  refine (tout_any _ v m hm2 s herr2).mono ?_
  rintro e w3 ⟨vX, T2, rfl, hrX, hT2, k3⟩
  rw [HO.out] at hrX hT2
  obtain rfl : T2 = T := ba_ext (hT2.trans hT.symm)
  have hX3 := isM_of_row hrX
  have hS3 := hS2.below k3
  have hm3 := hm2.below k3
  have herr3 := herr2.below k3
  have b3 := b2.trans (k3.mono b2.size)
  have hTs : T2.size ≤ 300 := by rw [← lenL, hT]; exact hmt
  simp only at hX3 hS3 hT
  have HT := (show Hid _ from hT)
  clear hrX hT2 hS2 hm2 herr2 b2 k3 hT
  go_wp2_with fail
  refine (lz_same _ mx (by omega) _ _ hX3 hS3).mono ?_
  rintro e w4 ⟨rfl, k4⟩
  have hX4 := hX3.below k4
  have hS4 := hS3.below k4
  have hm4 := hm3.below k4
  have herr4 := herr3.below k4
  have b4 := b3.trans (k4.mono b3.size)
  clear hX3 hS3 hm3 herr3 b3 k4
  go_wp2_with fail
  refine (sok_any _ v m hm4 (by omega)).mono ?_
  rintro e w5 ⟨rfl, k5⟩
  have hX5 := hX4.below k5
  have hS5 := hS4.below k5
  have hm5 := hm4.below k5
  have herr5 := herr4.below k5
  have b5 := b4.trans (k5.mono b4.size)
  clear hX4 hS4 hm4 herr4 b4 k5
  cases hok : okM m
  · go_wp2_with fail
    refine (lz_same _ mx (by omega) _ _ hX5 hS5).mono ?_
    rintro e w6 ⟨rfl, k6⟩
    go_wp2
    go_ret
    exact ⟨rfl, b5.trans (k6.mono b5.size)⟩
  go_wp2_with fail
  refine (TxW.sok_any s (by unfold maxLen; omega) _).mono ?_
  rintro e w6 ⟨rfl, rfl⟩
  cases hs : okB s.data.toList
  · go_wp2_with fail
    refine (lz_same _ mx (by omega) _ _ hX5 hS5).mono ?_
    rintro e w7 ⟨rfl, k7⟩
    go_wp2
    go_ret
    exact ⟨rfl, b5.trans (k7.mono b5.size)⟩

  by_cases h7 : 7 < mx.length
  · have h7' : (7 : Int) < (mx.length : Int) := by omega
    obtain ⟨ax, cx, rfl⟩ := isM_slice hX5
    have HX : Hid (IsM _ (.slice ax mx.length cx) mx) := hX5
    clear hX5
    go_wp2_with fail
    refine (lz_same _ mx (by omega) _ _ HX.out hS5).mono ?_
    rintro e w7 ⟨rfl, k7⟩
    go_wp2
    go_ret
    exact ⟨rfl, b5.trans (k7.mono b5.size)⟩
  have h7' : ¬ (7 : Int) < (mx.length : Int) := by omega
  have h7'' : (mx.length : Int) ≤ 7 := by omega

  by_cases h40 : 40 ≤ T2.size
  · have h40' : (40 : Int) ≤ (T2.size : Int) := by omega
    obtain ⟨ax, cx, rfl⟩ := isM_slice hX5
    have HX : Hid (IsM _ (.slice ax mx.length cx) mx) := hX5
    clear hX5
    go_wp2_with fail
    refine (lz_same _ mx (by omega) _ _ HX.out hS5).mono ?_
    rintro e w7 ⟨rfl, k7⟩
    go_wp2
    go_ret
    exact ⟨rfl, b5.trans (k7.mono b5.size)⟩
  have h40' : ¬ (40 : Int) ≤ (T2.size : Int) := by omega

  have hlT : mt.length < 40 := by rw [← HT.out, lenL]; omega
  have htw := out_twice m s.data.toList hok hs (by rw [HO.out]; simp only; omega) (by rw [HO.out]; exact hlT)
  rw [HO.out] at htw
  simp only at htw
  have HW := (show Hid _ from htw)
  clear htw hok hs
  have hX5' := hX5
  obtain ⟨ax, cx, rfl⟩ := isM_slice hX5
  have HX : Hid (IsM _ (.slice ax mx.length cx) mx) := hX5
  clear hX5
  have hz : (T2 ++ ⟨#[122]⟩ : ByteArray).data.toList = mt ++ [122] := by rw [ByteArray.data_append, Array.toList_append, HT.out]
  have HZ := (show Hid _ from hz)
  clear hz hX5'
  go_wp2_with fail
  refine (tout_any _ _ mx HX.out _ herr5).mono ?_
  rintro e w7 ⟨vY, U, rfl, hrY, hU, k7⟩
  rw [ByteArray.data_append, Array.toList_append, HT.out] at hrY hU
  have HW' : tOut mx (mt ++ (#[122] : Array UInt8).toList) = (mx, mt ++ [122]) := HW.out
  rw [HW'] at hrY hU
  obtain rfl : U = T2 ++ ⟨#[122]⟩ := ba_ext (hU.trans HZ.out.symm)
  have hY7 := isM_of_row hrY
  simp only at hY7
  have hX7 := HX.out.below k7
  have b7 := b5.trans (k7.mono b5.size)
  clear hrY hU herr5 b5 k7 hS5 hm5
  go_wp2_with fail
  refine (lz_same _ mx (by omega) _ _ hY7 hX7).mono ?_
  rintro e w8 ⟨rfl, k8⟩
  go_wp2
  go_ret
  exact ⟨rfl, b7.trans (k8.mono b7.size)⟩
end Go.Proofs.YtlejldaennlfaaeGreatDoor.LOutTwice

/- The walk of the law FnTextThere: it answers true. -/
import Derived.Test.YtlejldaennlfaadGreatDoorDrawX
import Derived.Test.YtlejldaennlfaadGreatDoorLaid
import Derived.Test.YtlejldaennlfaadGreatDoorLzM
import Derived.Test.YtlejldaennlfaadGreatDoorMt
import Derived.Test.YtlejldaennlfaadGreatDoorSp
import Derived.Test.YtlejldaennlfaadGreatDoorMpY
import Derived.Test.YtlejldaennlfaadGreatDoorTxP
import Derived.Test.YtlejldaennlfaadGreatDoorMpZ
import Derived.Test.YtlejldaennlfaadGreatDoorLzO
namespace Go.Proofs.YtlejldaennlfaadGreatDoor.LTextThere
open Go.RowKit Go.Proofs.YtlejldaennlfaadGreatDoor.Kit Go.Proofs.YtlejldaennlfaadGreatDoor.Mp Go.Proofs.YtlejldaennlfaadGreatDoor.Mm Go.Proofs.YtlejldaennlfaadGreatDoor.Ml Go.Proofs.YtlejldaennlfaadGreatDoor.Ms Go.Proofs.YtlejldaennlfaadGreatDoor.App Go.Proofs.YtlejldaennlfaadGreatDoor.DrawM Go.Proofs.YtlejldaennlfaadGreatDoor.Mt Go.Proofs.YtlejldaennlfaadGreatDoor.Sp Go.Proofs.YtlejldaennlfaadGreatDoor.Tx
open Go.Proofs.YtlejldaennlfaadGreatDoor.LzM (lz_same)
open Go.Proofs.YtlejldaennlfaadGreatDoor.Wa (ba_ext)
open Go.Proofs.YtlejldaennlfaadGreatDoor.Read (Errs)
open Go.Proofs.YtlejldaennlfaadGreatDoor.TxW (held_any)
set_option linter.unusedVariables false
set_option linter.unusedSimpArgs false

set_option maxHeartbeats 1000000 in
theorem long (a : Option Addr) (len cap : Nat) (w : World) (h : (1048576 : Int) < (len : Int)) :
    Calls Tryz.prog 3 #[.slice a len cap] w fun e w' => e = .returned (.bool true) ∧ Below w.heap.size w w' := by
  go_enter Tryz.func3, Tryz.ntmps3
  go_wp2
  go_ret
  exact ⟨rfl, Below.refl _ _⟩


set_option maxRecDepth 8000 in
set_option maxHeartbeats 16000000 in
theorem short (a : Option Addr) (len cap : Nat) (z : Nat → Int) (w : World) (hc : CodeIn w a len cap z) (h : (len : Int) ≤ 1048576) (herr : Errs w) :
    Calls Tryz.prog 3 #[.slice a len cap] w fun e w' => e = .returned (.bool true) ∧ Below w.heap.size w w' := by
  go_enter Tryz.func3, Tryz.ntmps3
  go_wp2_with fail
  refine (drawTextOut a len cap z _ hc).mono ?_
  rintro e w1 ⟨v, m, s, rfl, hm1, hml, hsm, hsz, k1⟩
  have herr1 := herr.below k1
  obtain ⟨mo, HO⟩ : ∃ mo, Hid (tOut m s.data.toList = mo) := ⟨_, rfl⟩
  have hmo : mo.1.length ≤ 8 := by rw [← HO.out]; exact tout_len m _
  have hmt : mo.2.length ≤ 300 := by rw [← HO.out]; exact tout_size m _
  obtain ⟨mx, mt⟩ := mo
  simp only at hmo hmt
  clear herr
  go_wp2_with fail
  refine (stout_any _ v m hm1 (by omega) s (by omega)).mono ?_
  rintro e w2 ⟨vS, T, rfl, hrS, hT, k2⟩
  rw [HO.out] at hrS hT
  have hS2 := isM_of_row hrS
  have hm2 := hm1.below k2
  have herr2 := herr1.below k2
  have b2 := k1.trans (k2.mono k1.size)
  clear hrS hm1 herr1 k1 k2
  go_wp2_with fail
  refine (tout_any _ v m hm2 s herr2).mono ?_
  rintro e w3 ⟨vX, T2, rfl, hrX, hT2, k3⟩
  rw [HO.out] at hrX hT2
  obtain rfl : T2 = T := ba_ext (hT2.trans hT.symm)
  have hX3 := isM_of_row hrX
  have hS3 := hS2.below k3
  have hm3 := hm2.below k3
  have herr3 := herr2.below k3
  have b3 := b2.trans (k3.mono b2.size)
  have hTs : T2.size ≤ 300 := by rw [← lenL, hT]; exact hmt
  simp only at hX3 hS3 hT
  have HT := (show Hid _ from hT)
  clear hrX hT2 hS2 hm2 herr2 b2 k3 hT
  go_wp2_with fail
  refine (lz_same _ mx (by omega) _ _ hX3 hS3).mono ?_
  rintro e w4 ⟨rfl, k4⟩
  have hX4 := hX3.below k4
  have hS4 := hS3.below k4
  have hm4 := hm3.below k4
  have herr4 := herr3.below k4
  have b4 := b3.trans (k4.mono b3.size)
  clear hX3 hS3 hm3 herr3 b3 k4
  go_wp2_with fail
  refine (sok_any _ v m hm4 (by omega)).mono ?_
  rintro e w5 ⟨rfl, k5⟩
  have hX5 := hX4.below k5
  have hS5 := hS4.below k5
  have hm5 := hm4.below k5
  have herr5 := herr4.below k5
  have b5 := b4.trans (k5.mono b4.size)
  clear hX4 hS4 hm4 herr4 b4 k5
  cases hok : okM m
  · go_wp2_with fail
    refine (lz_same _ mx (by omega) _ _ hX5 hS5).mono ?_
    rintro e w6 ⟨rfl, k6⟩
    go_wp2
    go_ret
    exact ⟨rfl, b5.trans (k6.mono b5.size)⟩
  go_wp2_with fail
  refine (TxW.sok_any s (by unfold maxLen; omega) _).mono ?_
  rintro e w6 ⟨rfl, rfl⟩
  cases hs : okB s.data.toList
  · go_wp2_with fail
    refine (lz_same _ mx (by omega) _ _ hX5 hS5).mono ?_
    rintro e w7 ⟨rfl, k7⟩
    go_wp2
    go_ret
    exact ⟨rfl, b5.trans (k7.mono b5.size)⟩

  have hpn : Nas.ends (pieL s.data.toList) = nms (pcs (bd s.data.toList)) := by rw [pie_ok _ hs]; rfl
  have hnl : (nms (pcs (bd s.data.toList))).length ≤ 1000 := by
    have h1 := Nas.ends_le (pieL s.data.toList)
    have h2 := pie_few _ hs
    rw [hpn] at h1; omega
  obtain ⟨ns, HN⟩ : ∃ ns, Hid (nms (pcs (bd s.data.toList)) = ns) := ⟨_, rfl⟩
  rw [HN.out] at hpn hnl
  have HPN := (show Hid _ from hpn)
  clear hpn
  go_wp2_with fail
  refine (LzO.own_any s ns HPN.out hnl _ herr5).mono ?_
  rintro e w7 ⟨bo, rfl, hbo, k7⟩
  have hX6 := hX5.below k7
  have hS6 := hS5.below k7
  have herr6 := herr5.below k7
  have b6 := b5.trans (k7.mono b5.size)
  clear hX5 hS5 hm5 herr5 b5 k7
  have hX5 := hX6
  have hS5 := hS6
  have herr5 := herr6
  have b5 := b6
  clear hX6 hS6 herr6 b6
  cases bo
  · clear hbo
    go_wp2_with fail
    refine (lz_same _ mx (by omega) _ _ hX5 hS5).mono ?_
    rintro e w8 ⟨rfl, k8⟩
    go_wp2
    go_ret
    exact ⟨rfl, b5.trans (k8.mono b5.size)⟩
  have hown := hbo rfl
  clear hbo

  by_cases h7 : 7 < mx.length
  · have h7' : (7 : Int) < (mx.length : Int) := by omega
    obtain ⟨ax, cx, rfl⟩ := isM_slice hX5
    have HX : Hid (IsM _ (.slice ax mx.length cx) mx) := hX5
    clear hX5
    go_wp2_with fail
    refine (lz_same _ mx (by omega) _ _ HX.out hS5).mono ?_
    rintro e w7 ⟨rfl, k7⟩
    go_wp2
    go_ret
    exact ⟨rfl, b5.trans (k7.mono b5.size)⟩
  have h7' : ¬ (7 : Int) < (mx.length : Int) := by omega
  have h7'' : (mx.length : Int) ≤ 7 := by omega

  by_cases h40 : 40 ≤ T2.size
  · have h40' : (40 : Int) ≤ (T2.size : Int) := by omega
    obtain ⟨ax, cx, rfl⟩ := isM_slice hX5
    have HX : Hid (IsM _ (.slice ax mx.length cx) mx) := hX5
    clear hX5
    go_wp2_with fail
    refine (lz_same _ mx (by omega) _ _ HX.out hS5).mono ?_
    rintro e w7 ⟨rfl, k7⟩
    go_wp2
    go_ret
    exact ⟨rfl, b5.trans (k7.mono b5.size)⟩
  have h40' : ¬ (40 : Int) ≤ (T2.size : Int) := by omega

  have hlT : mt.length < 40 := by rw [← HT.out, lenL]; omega
  have htw := out_back m s.data.toList hok hs (by rw [HN.out]; exact hown) (by rw [HO.out]; simp only; omega) (by rw [HO.out]; exact hlT)
  rw [HO.out] at htw
  simp only at htw
  have HW := (show Hid _ from htw)
  have hdk := hd_ok _ hs
  have hhl := heldN_len s.data.toList
  have hls := lenL s
  have hbl := bd_len s.data.toList
  clear htw hok hs hown
  obtain ⟨ax, cx, rfl⟩ := isM_slice hX5
  have HX : Hid (IsM _ (.slice ax mx.length cx) mx) := hX5
  have hz : (T2 ++ ⟨#[122]⟩ : ByteArray).data.toList = mt ++ [122] := by rw [ByteArray.data_append, Array.toList_append, HT.out]
  have HZ := (show Hid _ from hz)
  have hq : (s.extract 0 (s.size - heldN s.data.toList) ++ ⟨#[122]⟩ : ByteArray).data.toList = bd s.data.toList ++ [122] := by
    rw [ByteArray.data_append, Array.toList_append, ByteArray.data_extract, Array.toList_extract, List.extract_eq_take_drop, List.drop_zero, Nat.sub_zero, ← hls]
    rfl
  have HQ := (show Hid _ from hq)
  clear hz hX5 hq hbl
  go_wp2_with fail
  refine (tin_any _ _ mx HX.out _ herr5).mono ?_
  rintro e w7 ⟨U, rfl, hU, k7⟩
  rw [ByteArray.data_append, Array.toList_append, HT.out] at hU
  replace hU := hU.trans HW.out
  obtain rfl : U = s.extract 0 (s.size - heldN s.data.toList) ++ ⟨#[122]⟩ := ba_ext (hU.trans HQ.out.symm)
  have b7 := b5.trans (k7.mono b5.size)
  clear hU herr5 b5 k7 hS5 HX
  go_wp2_with fail
  refine (held_any s _).mono ?_
  rintro e w8 ⟨rfl, k8⟩
  rw [hdk]
  have b8 := b7.trans (k8.mono b7.size)
  rw [hls] at hhl
  have hsb : ((s.size : Int) - ((heldN s.data.toList : Nat) : Int)) = ((s.size - heldN s.data.toList : Nat) : Int) := by omega
  have hs0 : s.size ≤ 300 := hsz
  generalize heldN s.data.toList = hn at hhl hsb
  go_wp2
  go_ret
  exact ⟨rfl, b8⟩
end Go.Proofs.YtlejldaennlfaadGreatDoor.LTextThere

/- The walk of the law FnOutLong: it answers true. -/
import Derived.Test.YtlejldaennlfaaeGreatDoorDrawX
import Derived.Test.YtlejldaennlfaaeGreatDoorLaid
import Derived.Test.YtlejldaennlfaaeGreatDoorLzM
import Derived.Test.YtlejldaennlfaaeGreatDoorMt
import Derived.Test.YtlejldaennlfaaeGreatDoorSp
import Derived.Test.YtlejldaennlfaaeGreatDoorMpY
import Derived.Test.YtlejldaennlfaaeGreatDoorTxP
import Derived.Test.YtlejldaennlfaaeGreatDoorMpZ
import Derived.Test.YtlejldaennlfaaeGreatDoorLzO
namespace Go.Proofs.YtlejldaennlfaaeGreatDoor.LOutLong
open Go.RowKit Go.Proofs.YtlejldaennlfaaeGreatDoor.Kit Go.Proofs.YtlejldaennlfaaeGreatDoor.Mp Go.Proofs.YtlejldaennlfaaeGreatDoor.Mm Go.Proofs.YtlejldaennlfaaeGreatDoor.Ml Go.Proofs.YtlejldaennlfaaeGreatDoor.Ms Go.Proofs.YtlejldaennlfaaeGreatDoor.App Go.Proofs.YtlejldaennlfaaeGreatDoor.DrawM Go.Proofs.YtlejldaennlfaaeGreatDoor.Mt Go.Proofs.YtlejldaennlfaaeGreatDoor.Sp Go.Proofs.YtlejldaennlfaaeGreatDoor.Tx
open Go.Proofs.YtlejldaennlfaaeGreatDoor.LzM (lz_same)
open Go.Proofs.YtlejldaennlfaaeGreatDoor.Wa (ba_ext)
open Go.Proofs.YtlejldaennlfaaeGreatDoor.Read (Errs)
open Go.Proofs.YtlejldaennlfaaeGreatDoor.LzE Go.Proofs.YtlejldaennlfaaeGreatDoor.LzO
open Go.Proofs.YtlejldaennlfaaeGreatDoor.TxW (held_any)
open Go.Proofs.YtlejldaennlfaaeGreatDoor.EndW (endV isB impl3 impl1 sideZ)
set_option linter.unusedVariables false
set_option linter.unusedSimpArgs false

set_option maxHeartbeats 1000000 in
theorem long (a : Option Addr) (len cap : Nat) (w : World) (h : (1048576 : Int) < (len : Int)) :
    Calls Tryz.prog 7 #[.slice a len cap] w fun e w' => e = .returned (.bool true) ∧ Below w.heap.size w w' := by
  go_enter Tryz.func7, Tryz.ntmps7
  go_wp2
  go_ret
  exact ⟨rfl, Below.refl _ _⟩

theorem count_step (ms : List (Int × Int)) (k : Nat) (f : Int × Int) (h : ms[k]? = some f) : (ms.take (k + 1)).countP inB = (ms.take k).countP inB + (if inB f = true then 1 else 0) := by
  rw [List.take_add_one, h]
  simp only [Option.toList_some, List.countP_append, List.countP_singleton]
theorem count_le (ms : List (Int × Int)) (k : Nat) : (ms.take k).countP inB ≤ ms.length := Nat.le_trans List.countP_le_length (by rw [List.length_take]; omega)

set_option maxRecDepth 8000 in
set_option maxHeartbeats 16000000 in
theorem short (a : Option Addr) (len cap : Nat) (z : Nat → Int) (w : World) (hc : CodeIn w a len cap z) (h : (len : Int) ≤ 1048576) (herr : Errs w) :
    Calls Tryz.prog 7 #[.slice a len cap] w fun e w' => e = .returned (.bool true) ∧ Below w.heap.size w w' := by
  go_enter Tryz.func7, Tryz.ntmps7
  go_wp2_with fail
  refine (drawTextOut a len cap z _ hc).mono ?_
  rintro e w1 ⟨v, m, s, rfl, hm1, hml, hsm, hsz, k1⟩
  have herr1 := herr.below k1
  obtain ⟨mo, HO⟩ : ∃ mo, Hid (tOut m s.data.toList = mo) := ⟨_, rfl⟩
  have hmo : mo.1.length ≤ 8 := by rw [← HO.out]; exact tout_len m _
  have hmt : mo.2.length ≤ 300 := by rw [← HO.out]; exact tout_size m _
  obtain ⟨mx, mt⟩ := mo
  simp only at hmo hmt
  clear herr
  go_wp2_with fail
  refine (stout_any _ v m hm1 (by omega) s (by omega)).mono ?_
  rintro e w2 ⟨vS, T, rfl, hrS, hT, k2⟩
  rw [HO.out] at hrS hT
  have hS2 := isM_of_row hrS
  have hm2 := hm1.below k2
  have herr2 := herr1.below k2
  have b2 := k1.trans (k2.mono k1.size)
  clear hrS hm1 herr1 k1 k2
  go_wp2_with fail
  refine (tout_any _ v m hm2 s herr2).mono ?_
  rintro e w3 ⟨vX, T2, rfl, hrX, hT2, k3⟩
  rw [HO.out] at hrX hT2
  obtain rfl : T2 = T := ba_ext (hT2.trans hT.symm)
  have hX3 := isM_of_row hrX
  have hS3 := hS2.below k3
  have hm3 := hm2.below k3
  have herr3 := herr2.below k3
  have b3 := b2.trans (k3.mono b2.size)
  have hTs : T2.size ≤ 300 := by rw [← lenL, hT]; exact hmt
  simp only at hX3 hS3 hT
  have HT := (show Hid _ from hT)
  clear hrX hT2 hS2 hm2 herr2 b2 k3 hT
  go_wp2_with fail
  refine (lz_same _ mx (by omega) _ _ hX3 hS3).mono ?_
  rintro e w4 ⟨rfl, k4⟩
  have hX4 := hX3.below k4
  have hS4 := hS3.below k4
  have hm4 := hm3.below k4
  have herr4 := herr3.below k4
  have b4 := b3.trans (k4.mono b3.size)
  clear hX3 hS3 hm3 herr3 b3 k4
  go_wp2_with fail
  refine (sok_any _ v m hm4 (by omega)).mono ?_
  rintro e w5 ⟨rfl, k5⟩
  have hX5 := hX4.below k5
  have hS5 := hS4.below k5
  have hm5 := hm4.below k5
  have herr5 := herr4.below k5
  have b5 := b4.trans (k5.mono b4.size)
  clear hX4 hS4 hm4 herr4 b4 k5
  cases hok : okM m
  · go_wp2_with fail
    refine (lz_same _ mx (by omega) _ _ hX5 hS5).mono ?_
    rintro e w6 ⟨rfl, k6⟩
    go_wp2
    go_ret
    exact ⟨rfl, b5.trans (k6.mono b5.size)⟩
  go_wp2_with fail
  refine (TxW.sok_any s (by unfold maxLen; omega) _).mono ?_
  rintro e w6 ⟨rfl, rfl⟩
  cases hs : okB s.data.toList
  · go_wp2_with fail
    refine (lz_same _ mx (by omega) _ _ hX5 hS5).mono ?_
    rintro e w7 ⟨rfl, k7⟩
    go_wp2
    go_ret
    exact ⟨rfl, b5.trans (k7.mono b5.size)⟩

  by_cases h7 : 7 < mx.length
  · have h7' : (7 : Int) < (mx.length : Int) := by omega
    obtain ⟨ax, cx, rfl⟩ := isM_slice hX5
    have HX : Hid (IsM _ (.slice ax mx.length cx) mx) := hX5
    clear hX5
    go_wp2_with fail
    refine (lz_same _ mx (by omega) _ _ HX.out hS5).mono ?_
    rintro e w7 ⟨rfl, k7⟩
    go_wp2
    go_ret
    exact ⟨rfl, b5.trans (k7.mono b5.size)⟩
  have h7' : ¬ (7 : Int) < (mx.length : Int) := by omega
  have h7'' : (mx.length : Int) ≤ 7 := by omega

  have hlo := out_long m s.data.toList hok hs (by rw [HO.out]; simp only; omega)
  rw [HO.out] at hlo
  simp only at hlo
  have hpS : Hid (Nas.ends (pieL s.data.toList) = nms (pcs (bd s.data.toList))) := by
    show Nas.ends (pieL s.data.toList) = _
    rw [pie_ok _ hs]; rfl
  have hnl : (nms (pcs (bd s.data.toList))).length ≤ 1000 := by
    have h1 := Nas.ends_le (pieL s.data.toList)
    have h2 := pie_few _ hs
    rw [hpS.out] at h1; omega
  obtain ⟨ms, HM⟩ : ∃ ms, Hid (nms (pcs (bd s.data.toList)) = ms) := ⟨_, rfl⟩
  rw [HM.out] at hlo hpS hnl
  have hdk := hd_ok _ hs
  have hfin : (T2.size : Int) = (s.size : Int) - ((heldN s.data.toList : Nat) : Int) + ((ms.countP inB : Nat) : Int) := by
    have h1 := bd_len s.data.toList
    have h2 := heldN_len s.data.toList
    have h3 := lenL s
    have h4 := lenL T2
    rw [HT.out] at h4
    omega
  have HF := (show Hid _ from hfin)
  have hh5 := heldN_le s.data.toList
  clear hlo hfin hok hs
  obtain ⟨ax, cx, rfl⟩ := isM_slice hX5
  clear hX5 hS5 hm5
  go_wp2_with fail
  refine (names_is s ms hpS.out _ herr5).mono ?_
  rintro e w7 ⟨vN, rfl, hE, k7⟩
  have b7 := b5.trans (k7.mono b5.size)
  obtain ⟨an, cn, rfl⟩ := isE_slice hE
  have HE : Hid (IsE w7 (.slice an ms.length cn) ms) := hE
  clear hE herr5 b5 k7
  go_wp2
  go_loopw [9, 11] (fun n i wr => ∃ k : Nat, k ≤ ms.length ∧ i = .int .i64 k ∧ n = .int .i64 ((ms.take k).countP inB : Nat) ∧ Below w7.heap.size w7 wr) (fun n i wr => ms.length - (intOf i).toNat)
  case atStart => exact ⟨0, Nat.zero_le _, rfl, rfl, Below.refl _ _⟩
  case round =>
    obtain ⟨k, hk, rfl, rfl, hb⟩ := hrel
    have hcl := count_le ms k
    by_cases hkl : k < ms.length
    · have hkl' : (k : Int) < (ms.length : Int) := by omega
      have hf : ms[k]? = some ms[k] := List.getElem?_eq_getElem hkl
      obtain ⟨g, rfl, _, hc1, hc2, hat⟩ := isE_at (HE.out.below hb) k _ hf
      have hst := count_step ms k ms[k] hf
      generalize ms[k] = f at hf hat hst
      obtain ⟨fa, fp⟩ := f
      obtain ⟨t0, t1⟩ := hat
      simp only at t0 t1
      rw [← isB_inB] at hst
      simp only at hst
      have HST := (show Hid _ from hst)
      clear hf hst
      go_wp2_with fail
      refine (impl1 fa fp _).mono ?_
      rintro e w8 ⟨rfl, k8⟩
      have b8 := hb.trans (k8.mono hb.size)
      cases hB : isB 1 fa fp
      · go_wp2
        go_roundw
        case rel => exact ⟨k + 1, by omega, by go_num, by rw [HST.out, hB]; rfl, b8⟩
        case measure => simp [intOf]; omega
      · go_wp2
        go_roundw
        case rel => exact ⟨k + 1, by omega, by go_num, by rw [HST.out, hB]; go_num, b8⟩
        case measure => simp [intOf]; omega
    · have hge : (ms.length : Int) ≤ (k : Int) := by omega
      have hall : (ms.take k).countP inB = ms.countP inB := by rw [List.take_of_length_le (by omega)]
      rw [hall] at hcl ⊢
      clear hall
      go_wp2_with fail
      refine (held_any s _).mono ?_
      rintro e w8 ⟨rfl, k8⟩
      rw [hdk]
      generalize ms.countP inB = cnt at HF hcl
      generalize heldN s.data.toList = hn at HF hh5
      have hle : (s.size : Int) ≤ 300 := by omega
      go_wp2
      go_ret
      refine ⟨?_, b7.trans ((hb.trans (k8.mono hb.size)).mono b7.size)⟩
      have := HF.out
      simp
      omega
end Go.Proofs.YtlejldaennlfaaeGreatDoor.LOutLong

/- The walk of the law FnTextHides: it answers true. -/
import Derived.Test.YtlejldaennlfaadGreatDoorDrawX
import Derived.Test.YtlejldaennlfaadGreatDoorLaid
import Derived.Test.YtlejldaennlfaadGreatDoorLzM
import Derived.Test.YtlejldaennlfaadGreatDoorMt
import Derived.Test.YtlejldaennlfaadGreatDoorSp
import Derived.Test.YtlejldaennlfaadGreatDoorMpY
import Derived.Test.YtlejldaennlfaadGreatDoorTxP
import Derived.Test.YtlejldaennlfaadGreatDoorMpZ
import Derived.Test.YtlejldaennlfaadGreatDoorLzO
namespace Go.Proofs.YtlejldaennlfaadGreatDoor.LTextHides
open Go.RowKit Go.Proofs.YtlejldaennlfaadGreatDoor.Kit Go.Proofs.YtlejldaennlfaadGreatDoor.Mp Go.Proofs.YtlejldaennlfaadGreatDoor.Mm Go.Proofs.YtlejldaennlfaadGreatDoor.Ml Go.Proofs.YtlejldaennlfaadGreatDoor.Ms Go.Proofs.YtlejldaennlfaadGreatDoor.App Go.Proofs.YtlejldaennlfaadGreatDoor.DrawM Go.Proofs.YtlejldaennlfaadGreatDoor.Mt Go.Proofs.YtlejldaennlfaadGreatDoor.Sp Go.Proofs.YtlejldaennlfaadGreatDoor.Tx
open Go.Proofs.YtlejldaennlfaadGreatDoor.LzM (lz_same)
open Go.Proofs.YtlejldaennlfaadGreatDoor.Wa (ba_ext)
open Go.Proofs.YtlejldaennlfaadGreatDoor.Read (Errs)
open Go.Proofs.YtlejldaennlfaadGreatDoor.LzE Go.Proofs.YtlejldaennlfaadGreatDoor.LzO
open Go.Proofs.YtlejldaennlfaadGreatDoor.EndW (endV isB impl3 impl1 sideZ)
set_option linter.unusedVariables false
set_option linter.unusedSimpArgs false

set_option maxHeartbeats 1000000 in
theorem long (a : Option Addr) (len cap : Nat) (w : World) (h : (1048576 : Int) < (len : Int)) :
    Calls Tryz.prog 4 #[.slice a len cap] w fun e w' => e = .returned (.bool true) ∧ Below w.heap.size w w' := by
  go_enter Tryz.func4, Tryz.ntmps4
  go_wp2
  go_ret
  exact ⟨rfl, Below.refl _ _⟩


set_option maxRecDepth 8000 in
set_option maxHeartbeats 16000000 in
theorem short (a : Option Addr) (len cap : Nat) (z : Nat → Int) (w : World) (hc : CodeIn w a len cap z) (h : (len : Int) ≤ 1048576) (herr : Errs w) :
    Calls Tryz.prog 4 #[.slice a len cap] w fun e w' => e = .returned (.bool true) ∧ Below w.heap.size w w' := by
  go_enter Tryz.func4, Tryz.ntmps4
  go_wp2_with fail
  refine (drawTextOut a len cap z _ hc).mono ?_
  rintro e w1 ⟨v, m, s, rfl, hm1, hml, hsm, hsz, k1⟩
  have herr1 := herr.below k1
  obtain ⟨mo, HO⟩ : ∃ mo, Hid (tOut m s.data.toList = mo) := ⟨_, rfl⟩
  have hmo : mo.1.length ≤ 8 := by rw [← HO.out]; exact tout_len m _
  have hmt : mo.2.length ≤ 300 := by rw [← HO.out]; exact tout_size m _
  obtain ⟨mx, mt⟩ := mo
  simp only at hmo hmt
  clear herr
  go_wp2_with fail
  refine (stout_any _ v m hm1 (by omega) s (by omega)).mono ?_
  rintro e w2 ⟨vS, T, rfl, hrS, hT, k2⟩
  rw [HO.out] at hrS hT
  have hS2 := isM_of_row hrS
  have hm2 := hm1.below k2
  have herr2 := herr1.below k2
  have b2 := k1.trans (k2.mono k1.size)
  clear hrS hm1 herr1 k1 k2
  go_wp2_with fail
  refine (tout_any _ v m hm2 s herr2).mono ?_
  rintro e w3 ⟨vX, T2, rfl, hrX, hT2, k3⟩
  rw [HO.out] at hrX hT2
  obtain rfl : T2 = T := ba_ext (hT2.trans hT.symm)
  have hX3 := isM_of_row hrX
  have hS3 := hS2.below k3
  have hm3 := hm2.below k3
  have herr3 := herr2.below k3
  have b3 := b2.trans (k3.mono b2.size)
  have hTs : T2.size ≤ 300 := by rw [← lenL, hT]; exact hmt
  simp only at hX3 hS3 hT
  have HT := (show Hid _ from hT)
  clear hrX hT2 hS2 hm2 herr2 b2 k3 hT
  go_wp2_with fail
  refine (lz_same _ mx (by omega) _ _ hX3 hS3).mono ?_
  rintro e w4 ⟨rfl, k4⟩
  have hX4 := hX3.below k4
  have hS4 := hS3.below k4
  have hm4 := hm3.below k4
  have herr4 := herr3.below k4
  have b4 := b3.trans (k4.mono b3.size)
  clear hX3 hS3 hm3 herr3 b3 k4
  go_wp2_with fail
  refine (sok_any _ v m hm4 (by omega)).mono ?_
  rintro e w5 ⟨rfl, k5⟩
  have hX5 := hX4.below k5
  have hS5 := hS4.below k5
  have hm5 := hm4.below k5
  have herr5 := herr4.below k5
  have b5 := b4.trans (k5.mono b4.size)
  clear hX4 hS4 hm4 herr4 b4 k5
  cases hok : okM m
  · go_wp2_with fail
    refine (lz_same _ mx (by omega) _ _ hX5 hS5).mono ?_
    rintro e w6 ⟨rfl, k6⟩
    go_wp2
    go_ret
    exact ⟨rfl, b5.trans (k6.mono b5.size)⟩
  go_wp2_with fail
  refine (TxW.sok_any s (by unfold maxLen; omega) _).mono ?_
  rintro e w6 ⟨rfl, rfl⟩
  cases hs : okB s.data.toList
  · go_wp2_with fail
    refine (lz_same _ mx (by omega) _ _ hX5 hS5).mono ?_
    rintro e w7 ⟨rfl, k7⟩
    go_wp2
    go_ret
    exact ⟨rfl, b5.trans (k7.mono b5.size)⟩

  by_cases h7 : 7 < mx.length
  · have h7' : (7 : Int) < (mx.length : Int) := by omega
    obtain ⟨ax, cx, rfl⟩ := isM_slice hX5
    have HX : Hid (IsM _ (.slice ax mx.length cx) mx) := hX5
    clear hX5
    go_wp2_with fail
    refine (lz_same _ mx (by omega) _ _ HX.out hS5).mono ?_
    rintro e w7 ⟨rfl, k7⟩
    go_wp2
    go_ret
    exact ⟨rfl, b5.trans (k7.mono b5.size)⟩
  have h7' : ¬ (7 : Int) < (mx.length : Int) := by omega
  have h7'' : (mx.length : Int) ≤ 7 := by omega

  by_cases h40 : 40 < T2.size
  · have h40' : (40 : Int) < (T2.size : Int) := by omega
    obtain ⟨ax, cx, rfl⟩ := isM_slice hX5
    have HX : Hid (IsM _ (.slice ax mx.length cx) mx) := hX5
    clear hX5
    go_wp2_with fail
    refine (lz_same _ mx (by omega) _ _ HX.out hS5).mono ?_
    rintro e w7 ⟨rfl, k7⟩
    go_wp2
    go_ret
    exact ⟨rfl, b5.trans (k7.mono b5.size)⟩
  have h40' : ¬ (40 : Int) < (T2.size : Int) := by omega

  have hlT : mt.length ≤ 40 := by rw [← HT.out, lenL]; omega
  have hby := out_bytes m s.data.toList hok hs
  have hna := out_names m s.data.toList hok hs
  have hhi := hides m s.data.toList hok hs (by rw [HO.out]; simp only; omega)
  rw [HO.out] at hby hna hhi
  simp only at hby hna hhi
  have hokT : okB T2.data.toList = true := by rw [HT.out, ok_iff]; exact ⟨hlT, hby⟩
  obtain ⟨ns, HN⟩ : ∃ ns, Hid (nms (pcs mt) = ns) := ⟨_, rfl⟩
  have hpT : Nas.ends (pieL T2.data.toList) = ns := by rw [← LzE.ends_pie _ hokT, HT.out]; exact HN.out
  have hnT : ns.length ≤ 1000 := by
    have h1 := Nas.ends_le (pieL T2.data.toList)
    have h2 := pie_few _ hokT
    rw [hpT] at h1; omega
  have hpS : Hid (Nas.ends (pieL s.data.toList) = nms (pcs (bd s.data.toList))) := by
    show Nas.ends (pieL s.data.toList) = _
    rw [pie_ok _ hs]; rfl
  have hlen : (nms (pcs (bd s.data.toList))).length = ns.length := by rw [← HN.out, hna, List.length_map]
  rw [HN.out] at hhi
  obtain ⟨ms, HM⟩ : ∃ ms, Hid (nms (pcs (bd s.data.toList)) = ms) := ⟨_, rfl⟩
  rw [HM.out] at hlen hpS
  have HPT := (show Hid _ from hpT)
  have HL := (show Hid _ from hlen)
  have HHI := (show Hid _ from hhi)
  clear hby hna hhi hokT hpT hlen hok hs
  obtain ⟨ax, cx, rfl⟩ := isM_slice hX5
  clear hX5 hS5 hm5
  go_wp2_with fail
  refine (names_is T2 ns HPT.out _ herr5).mono ?_
  rintro e w7 ⟨vN, rfl, hE, k7⟩
  have herr7 := herr5.below k7
  have b7 := b5.trans (k7.mono b5.size)
  obtain ⟨an, cn, rfl⟩ := isE_slice hE
  have HE : Hid (IsE w7 (.slice an ns.length cn) ns) := hE
  clear hE herr5 b5 k7
  go_wp2
  go_loopw [10] (fun i wr => ∃ k : Nat, k ≤ ns.length ∧ i = .int .i64 k ∧ Below w7.heap.size w7 wr) (fun i wr => ns.length - (intOf i).toNat)
  case atStart => exact ⟨0, Nat.zero_le _, rfl, Below.refl _ _⟩
  case round =>
    obtain ⟨k, hk, rfl, hb⟩ := hrel
    by_cases hkl : k < ns.length
    · have hkl' : (k : Int) < (ns.length : Int) := by omega
      have hf : ns[k]? = some ns[k] := List.getElem?_eq_getElem hkl
      have hin := HHI.out ns[k] (List.getElem_mem hkl)
      obtain ⟨g, rfl, _, hc1, hc2, hat⟩ := isE_at (HE.out.below hb) k _ hf
      generalize ns[k] = f at hf hat hin
      obtain ⟨fa, fp⟩ := f
      obtain ⟨t0, t1⟩ := hat
      simp only at t0 t1
      rw [← isB_inB] at hin
      simp only at hin
      clear hf
      go_wp2_with fail
      refine (impl1 fa fp _).mono ?_
      rintro e w8 ⟨rfl, k8⟩
      have b8 := hb.trans (k8.mono hb.size)
      rw [hin]
      go_wp2
      go_roundw
      case rel => exact ⟨k + 1, by omega, by go_num, b8⟩
      case measure => simp [intOf]; omega
    · have hge : (ns.length : Int) ≤ (k : Int) := by omega
      go_wp2_with fail
      refine (names_is s ms hpS.out _ (herr7.below hb)).mono ?_
      rintro e w8 ⟨vM, rfl, hM, k8⟩
      obtain ⟨am, cm, rfl⟩ := isE_slice hM
      clear hM
      rw [HL.out]
      go_wp2
      go_ret
      exact ⟨rfl, b7.trans ((hb.trans (k8.mono hb.size)).mono b7.size)⟩
end Go.Proofs.YtlejldaennlfaadGreatDoor.LTextHides

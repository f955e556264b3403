/- The walk of the law FnTextStep: it answers true. -/
import Derived.Test.YtlejldaennlfaadGreatDoorDrawX
import Derived.Test.YtlejldaennlfaadGreatDoorLaid
import Derived.Test.YtlejldaennlfaadGreatDoorLzM
import Derived.Test.YtlejldaennlfaadGreatDoorMt
import Derived.Test.YtlejldaennlfaadGreatDoorSp
import Derived.Test.YtlejldaennlfaadGreatDoorMpY
import Derived.Test.YtlejldaennlfaadGreatDoorTxP
import Derived.Test.YtlejldaennlfaadGreatDoorMpV
import Derived.Test.YtlejldaennlfaadGreatDoorLzP
namespace Go.Proofs.YtlejldaennlfaadGreatDoor.LTextStep
open Go.RowKit Go.Proofs.YtlejldaennlfaadGreatDoor.Kit Go.Proofs.YtlejldaennlfaadGreatDoor.Mp Go.Proofs.YtlejldaennlfaadGreatDoor.Mm Go.Proofs.YtlejldaennlfaadGreatDoor.Ml Go.Proofs.YtlejldaennlfaadGreatDoor.Ms Go.Proofs.YtlejldaennlfaadGreatDoor.App Go.Proofs.YtlejldaennlfaadGreatDoor.DrawM Go.Proofs.YtlejldaennlfaadGreatDoor.Mt Go.Proofs.YtlejldaennlfaadGreatDoor.Sp Go.Proofs.YtlejldaennlfaadGreatDoor.Tx
open Go.Proofs.YtlejldaennlfaadGreatDoor.LzM (lz_same)
open Go.Proofs.YtlejldaennlfaadGreatDoor.Wa (ba_ext)
open Go.Proofs.YtlejldaennlfaadGreatDoor.Read (Errs)
open Go.Proofs.YtlejldaennlfaadGreatDoor.Lz (IsP At4 sz_any)
open Go.Proofs.YtlejldaennlfaadGreatDoor.LzP (pieces_is isP_slice)
open Go.Proofs.YtlejldaennlfaadGreatDoor.TxW (held_any)
set_option linter.unusedVariables false
set_option linter.unusedSimpArgs false

set_option maxHeartbeats 1000000 in
theorem long (a a1 : Option Addr) (len cap len1 cap1 : Nat) (w : World) (h : (1048576 : Int) < (len : Int)) :
    Calls Tryz.prog 5 #[.slice a len cap, .slice a1 len1 cap1] w fun e w' => e = .returned (.bool true) ∧ Below w.heap.size w w' := by
  go_enter Tryz.func5, Tryz.ntmps5
  go_wp2
  go_ret
  exact ⟨rfl, Below.refl _ _⟩

set_option maxHeartbeats 1000000 in
theorem long2 (a a1 : Option Addr) (len cap len1 cap1 : Nat) (w : World) (h0 : (len : Int) ≤ 1048576) (h : (1048576 : Int) < (len1 : Int)) :
    Calls Tryz.prog 5 #[.slice a len cap, .slice a1 len1 cap1] w fun e w' => e = .returned (.bool true) ∧ Below w.heap.size w w' := by
  go_enter Tryz.func5, Tryz.ntmps5
  go_wp2
  go_ret
  exact ⟨rfl, Below.refl _ _⟩

theorem isP_take {W : World} {a : Option Addr} {n c : Nat} {ps : List Pc} (h : IsP W (.slice a n c) ps) (k : Nat) (hk : k ≤ ps.length) : IsP W (.slice a k c) (ps.take k) := by
  rcases h with ⟨h1, rfl⟩ | ⟨g, o, cap, h1, h2, h3, h4⟩
  · simp at h1 hk
    obtain ⟨rfl, _, rfl⟩ := h1
    subst hk
    exact .inl ⟨rfl, rfl⟩
  · simp at h1
    obtain ⟨rfl, rfl, rfl⟩ := h1
    refine .inr ⟨g, o, c, by rw [List.length_take, Nat.min_eq_left hk], by rw [List.length_take]; omega, h3, fun i p hp => h4 i p ?_⟩
    rw [List.getElem?_take] at hp
    split at hp
    · exact hp
    · cases hp
theorem isP_cap {W : World} {a : Option Addr} {n c : Nat} {ps : List Pc} (h : IsP W (.slice a n c) ps) : n ≤ c := by
  rcases h with ⟨h1, rfl⟩ | ⟨g, o, cap, h1, h2, h3, h4⟩
  · simp at h1; omega
  · simp at h1; omega

set_option maxRecDepth 8000 in
set_option maxHeartbeats 16000000 in
theorem short (a a1 : Option Addr) (len cap len1 cap1 : Nat) (z : Nat → Int) (w : World) (hc : CodeIn w a len cap z) (h : (len : Int) ≤ 1048576) (hl1 : (len1 : Int) ≤ 1048576) (herr : Errs w) :
    Calls Tryz.prog 5 #[.slice a len cap, .slice a1 len1 cap1] w fun e w' => e = .returned (.bool true) ∧ Below w.heap.size w w' := by
  go_enter Tryz.func5, Tryz.ntmps5
  go_wp2_with fail
  refine (drawTextOut a len cap z _ hc).mono ?_
  rintro e w1 ⟨v, m, s, rfl, hm1, hml, hsm, hsz, k1⟩
  have herr1 := herr.below k1
  obtain ⟨mo, HO⟩ : ∃ mo, Hid (tOut m s.data.toList = mo) := ⟨_, rfl⟩
  have hmo : mo.1.length ≤ 8 := by rw [← HO.out]; exact tout_len m _
  have hmt : mo.2.length ≤ 300 := by rw [← HO.out]; exact tout_size m _
  obtain ⟨mx, mt⟩ := mo
  simp only at hmo hmt
  clear herr
  go_wp2_with fail
  refine (stout_any _ v m hm1 (by omega) s (by omega)).mono ?_
  rintro e w2 ⟨vS, T, rfl, hrS, hT, k2⟩
  rw [HO.out] at hrS hT
  have hS2 := isM_of_row hrS
  have hm2 := hm1.below k2
  have herr2 := herr1.below k2
  have b2 := k1.trans (k2.mono k1.size)
  clear hrS hm1 herr1 k1 k2
  go_wp2_with fail
  refine (tout_any _ v m hm2 s herr2).mono ?_
  rintro e w3 ⟨vX, T2, rfl, hrX, hT2, k3⟩
  rw [HO.out] at hrX hT2
  obtain rfl : T2 = T := ba_ext (hT2.trans hT.symm)
  have hX3 := isM_of_row hrX
  have hS3 := hS2.below k3
  have hm3 := hm2.below k3
  have herr3 := herr2.below k3
  have b3 := b2.trans (k3.mono b2.size)
  have hTs : T2.size ≤ 300 := by rw [← lenL, hT]; exact hmt
  simp only at hX3 hS3 hT
  have HT := (show Hid _ from hT)
  clear hrX hT2 hS2 hm2 herr2 b2 k3 hT
  go_wp2_with fail
  refine (lz_same _ mx (by omega) _ _ hX3 hS3).mono ?_
  rintro e w4 ⟨rfl, k4⟩
  have hX4 := hX3.below k4
  have hS4 := hS3.below k4
  have hm4 := hm3.below k4
  have herr4 := herr3.below k4
  have b4 := b3.trans (k4.mono b3.size)
  clear hX3 hS3 hm3 herr3 b3 k4
  go_wp2_with fail
  refine (sok_any _ v m hm4 (by omega)).mono ?_
  rintro e w5 ⟨rfl, k5⟩
  have hX5 := hX4.below k5
  have hS5 := hS4.below k5
  have hm5 := hm4.below k5
  have herr5 := herr4.below k5
  have b5 := b4.trans (k5.mono b4.size)
  clear hX4 hS4 hm4 herr4 b4 k5
  cases hok : okM m
  · go_wp2_with fail
    refine (lz_same _ mx (by omega) _ _ hX5 hS5).mono ?_
    rintro e w6 ⟨rfl, k6⟩
    go_wp2
    go_ret
    exact ⟨rfl, b5.trans (k6.mono b5.size)⟩
  go_wp2_with fail
  refine (TxW.sok_any s (by unfold maxLen; omega) _).mono ?_
  rintro e w6 ⟨rfl, rfl⟩
  cases hs : okB s.data.toList
  · go_wp2_with fail
    refine (lz_same _ mx (by omega) _ _ hX5 hS5).mono ?_
    rintro e w7 ⟨rfl, k7⟩
    go_wp2
    go_ret
    exact ⟨rfl, b5.trans (k7.mono b5.size)⟩

  obtain ⟨ps, HPS⟩ : ∃ ps, Hid (pieL s.data.toList = ps) := ⟨_, rfl⟩
  have hpl : ps.length ≤ 40 := by rw [← HPS.out]; exact pie_few _ hs
  obtain ⟨j, hj, hjl⟩ : ∃ j : Nat, (len1 : Int) % ((ps.length : Int) + 1) = (j : Int) ∧ j ≤ ps.length := by
    refine ⟨len1 % (ps.length + 1), ?_, ?_⟩
    · simp
    · have := Nat.mod_lt len1 (show 0 < ps.length + 1 by omega); omega
  obtain ⟨hA, hB, hC⟩ := step_cut m s.data.toList hok hs j (by rw [HPS.out]; exact hjl)
  rw [HPS.out, HO.out] at hB hC
  rw [HPS.out, lenL] at hA
  obtain ⟨at_, HAT⟩ : ∃ k, Hid (szs (ps.take j) = k) := ⟨_, rfl⟩
  rw [HAT.out] at hA hB hC
  have hs40 : s.size ≤ 40 := by rw [← lenL]; exact (ok_parts _ hs).1
  have hokA : okB (s.data.toList.take at_) = true := ok_take _ _ hs
  have xA : (s.extract 0 at_).data.toList = s.data.toList.take at_ := by
    rw [ByteArray.data_extract, Array.toList_extract, List.extract_eq_take_drop, List.drop_zero, Nat.sub_zero]
  have xB : (s.extract at_ s.size).data.toList = s.data.toList.drop at_ := Nm.ext_from s at_
  have HB := (show Hid _ from hB)
  have HC := (show Hid _ from hC)
  have XA := (show Hid _ from xA)
  have XB := (show Hid _ from xB)
  have HKA := (show Hid _ from hokA)
  have hat' : (at_ : Int) ≤ (s.size : Int) := by omega
  have hj2 : (j : Int) ≤ (ps.length : Int) := by omega
  have hpos : (0 : Int) < (ps.length : Int) + 1 := by omega
  have hA1 := tout_len m (s.data.toList.take at_)
  have hA2 := tout_size m (s.data.toList.take at_)
  obtain ⟨ma, HMA⟩ : ∃ ma, Hid (tOut m (s.data.toList.take at_) = ma) := ⟨_, rfl⟩
  rw [HMA.out] at hA1 hA2
  obtain ⟨my, ta⟩ := ma
  simp only at hA1 hA2
  clear hB hC xA xB hokA hok hs hS5
  have HX5 : Hid (IsM w6 vX mx) := hX5
  have HM5 : Hid (IsM w6 v m) := hm5
  clear hX5 hm5
  go_wp2_with fail
  refine (pieces_is s ps HPS.out _ herr5).mono ?_
  rintro e w7 ⟨vP, rfl, hP, k7⟩
  have b7 := b5.trans (k7.mono b5.size)
  have HX7 : Hid (IsM w7 vX mx) := HX5.out.below k7
  have HM7 : Hid (IsM w7 v m) := HM5.out.below k7
  have herr7 := herr5.below k7
  obtain ⟨ap, cp, rfl⟩ := isP_slice hP
  have hcap := isP_cap hP
  have HP : Hid (IsP w7 (.slice ap j cp) (ps.take j)) := isP_take hP j hjl
  clear hP herr5 b5 k7 HX5 HM5
  have hsz40 : szs (ps.take j) ≤ 1000000 := by rw [HAT.out]; omega
  have hcap' : (j : Int) ≤ (cp : Int) := by omega
  go_wp2_with fail
  refine (sz_any _ (ps.take j) (by rw [List.length_take]; omega) hsz40 _ HP.out).mono ?_
  rintro e w8 ⟨rfl, k8⟩
  rw [HAT.out]
  have b8 := b7.trans (k8.mono b7.size)
  have HX8 : Hid (IsM w8 vX mx) := HX7.out.below k8
  have HM8 : Hid (IsM w8 v m) := HM7.out.below k8
  have herr8 := herr7.below k8
  clear hj hpos HP herr7 b7 k8 HX7 HM7
  go_wp2_with fail
  refine (tout_any _ _ m HM8.out _ herr8).mono ?_
  rintro e w9 ⟨vY, A, rfl, hrY, hA3, k9⟩
  have b9 := b8.trans (k9.mono b8.size)
  have HX9 : Hid (IsM w9 vX mx) := HX8.out.below k9
  have herr9 := herr8.below k9
  rw [XA.out, HMA.out] at hrY hA3
  have hY9 := isM_of_row hrY
  simp only at hY9 hA3
  have HY9 : Hid (IsM w9 vY my) := hY9
  have HA3 := (show Hid _ from hA3)
  have hAs : A.size ≤ 300 := by rw [← lenL, hA3]; exact hA2
  clear hrY hA3 hY9 herr8 b8 k9 HX8 HM8
  have hB1 := tout_len my (s.data.toList.drop at_)
  have hB2 := tout_size my (s.data.toList.drop at_)
  go_wp2_with fail
  refine (tout_any _ _ my HY9.out _ herr9).mono ?_
  rintro e w10 ⟨vZ, B, rfl, hrZ, hB3, k10⟩
  have b10 := b9.trans (k10.mono b9.size)
  have HX10 : Hid (IsM w10 vX mx) := HX9.out.below k10
  rw [XB.out] at hrZ hB3
  have HB' : Hid (heldN (s.data.toList.take at_) = 0 → tOut my (s.data.toList.drop at_) = (mx, (tOut my (s.data.toList.drop at_)).2) ∧ ta ++ (tOut my (s.data.toList.drop at_)).2 = mt) := by
    have := HB.out
    rw [HMA.out] at this
    exact this
  have HC' : Hid (ta <+: mt) := by
    have := HC.out
    rw [HMA.out] at this
    exact this
  generalize tOut my (s.data.toList.drop at_) = mb at hrZ hB3 HB' hB1 hB2
  obtain ⟨mz, tb⟩ := mb
  simp only at hrZ hB3 hB1 hB2
  have hZ10 := isM_of_row hrZ
  have HZ10 : Hid (IsM w10 vZ mz) := hZ10
  have HB3 := (show Hid _ from hB3)
  have hBs : B.size ≤ 300 := by rw [← lenL, hB3]; exact hB2
  clear hrZ hB3 hZ10 b9 k10 herr9 HX9 HY9 HB HC
  go_wp2_with fail
  refine (held_any _ _).mono ?_
  rintro e w11 ⟨rfl, k11⟩
  rw [XA.out, hd_ok _ HKA.out]
  have b11 := b10.trans (k11.mono b10.size)
  have HX11 : Hid (IsM w11 vX mx) := HX10.out.below k11
  have HZ11 : Hid (IsM w11 vZ mz) := HZ10.out.below k11
  clear b10 k11 HX10 HZ10
  by_cases h0 : heldN (s.data.toList.take at_) = 0
  · obtain ⟨e1, e2⟩ := HB'.out h0
    obtain rfl : mz = mx := by simpa using e1
    have hab : A ++ B = T2 := ba_ext (by rw [ByteArray.data_append, Array.toList_append, HA3.out, HB3.out, HT.out]; exact e2)
    rw [h0]
    clear e1 e2 HB' HC'
    subst hab
    go_wp2_with fail
    refine (lz_same _ mz (by omega) _ _ HZ11.out HX11.out).mono ?_
    rintro e w12 ⟨rfl, k12⟩
    go_wp2
    go_ret
    exact ⟨rfl, b11.trans (k12.mono b11.size)⟩
  · have hle : A.size ≤ T2.size := by
      have := HC'.out.length_le
      rw [← HA3.out, ← HT.out, lenL, lenL] at this; exact this
    have hcut : T2.extract 0 A.size = A := ba_ext (by
      rw [ByteArray.data_extract, Array.toList_extract, List.extract_eq_take_drop, List.drop_zero, Nat.sub_zero, HT.out, HA3.out, ← lenL, HA3.out]
      exact (List.prefix_iff_eq_take.1 HC'.out).symm)
    have h0' : (0 : Int) < ((heldN (s.data.toList.take at_) : Nat) : Int) := by omega
    have hle' : (A.size : Int) ≤ (T2.size : Int) := by omega
    generalize heldN (s.data.toList.take at_) = hn at h0'
    clear HB' HC'
    go_wp2
    go_ret
    exact ⟨by simp [hcut], b11⟩
end Go.Proofs.YtlejldaennlfaadGreatDoor.LTextStep

/- The walk of the law FnTextPlain: it answers true. -/
import Derived.Test.YtlejldaennlfaaeGreatDoorDrawX
import Derived.Test.YtlejldaennlfaaeGreatDoorLaid
import Derived.Test.YtlejldaennlfaaeGreatDoorLzM
import Derived.Test.YtlejldaennlfaaeGreatDoorMt
import Derived.Test.YtlejldaennlfaaeGreatDoorSp2
import Derived.Test.YtlejldaennlfaaeGreatDoorMpY
import Derived.Test.YtlejldaennlfaaeGreatDoorTxP
import Derived.Test.YtlejldaennlfaaeGreatDoorMpW
import Derived.Test.YtlejldaennlfaaeGreatDoorLzO
import Derived.Test.YtlejldaennlfaaeGreatDoorLzP
namespace Go.Proofs.YtlejldaennlfaaeGreatDoor.LTextPlain
open Go.RowKit Go.Proofs.YtlejldaennlfaaeGreatDoor.Kit Go.Proofs.YtlejldaennlfaaeGreatDoor.Mp Go.Proofs.YtlejldaennlfaaeGreatDoor.Mm Go.Proofs.YtlejldaennlfaaeGreatDoor.Ml Go.Proofs.YtlejldaennlfaaeGreatDoor.Ms Go.Proofs.YtlejldaennlfaaeGreatDoor.App Go.Proofs.YtlejldaennlfaaeGreatDoor.DrawM Go.Proofs.YtlejldaennlfaaeGreatDoor.Mt Go.Proofs.YtlejldaennlfaaeGreatDoor.Sp Go.Proofs.YtlejldaennlfaaeGreatDoor.Tx
open Go.Proofs.YtlejldaennlfaaeGreatDoor.LzM (lz_same)
open Go.Proofs.YtlejldaennlfaaeGreatDoor.Wa (ba_ext)
open Go.Proofs.YtlejldaennlfaaeGreatDoor.Read (Errs)
open Go.Proofs.YtlejldaennlfaaeGreatDoor.LzE Go.Proofs.YtlejldaennlfaaeGreatDoor.LzO
open Go.Proofs.YtlejldaennlfaaeGreatDoor.Lz (IsP At4)
open Go.Proofs.YtlejldaennlfaaeGreatDoor.LzP (pieces_is isP_slice)
set_option linter.unusedVariables false
set_option linter.unusedSimpArgs false

set_option maxHeartbeats 1000000 in
theorem long (a : Option Addr) (len cap : Nat) (w : World) (h : (1048576 : Int) < (len : Int)) :
    Calls Tryz.prog 3 #[.slice a len cap] w fun e w' => e = .returned (.bool true) ∧ Below w.heap.size w w' := by
  go_enter Tryz.func3, Tryz.ntmps3
  go_wp2
  go_ret
  exact ⟨rfl, Below.refl _ _⟩

theorem isP_at {W : World} {a : Option Addr} {n c : Nat} {ps : List Pc} (h : IsP W (.slice a n c) ps) (i : Nat) (p : Pc) (hi : ps[i]? = some p) : ∃ g o, a = some ⟨g, o, none⟩ ∧ n = ps.length ∧ ps.length ≤ c ∧ c ≤ maxLen ∧ At4 W g (o + i * 4) p := by
  rcases h with ⟨_, rfl⟩ | ⟨g, o, cap, h1, h2, h3, h4⟩
  · cases hi
  · simp at h1
    obtain ⟨rfl, rfl, rfl⟩ := h1
    exact ⟨g, o, rfl, rfl, h2, h3, h4 i p hi⟩
theorem take_pre (ps : List Pc) (k : Nat) (p : Pc) (h : ps[k]? = some p) : ps.take (k + 1) = ps.take k ++ [p] ∧ ps.take k ++ [p] <+: ps := by
  have e : ps.take (k + 1) = ps.take k ++ [p] := by rw [List.take_add_one, h]; rfl
  exact ⟨e, by rw [← e]; exact List.take_prefix _ _⟩

set_option maxRecDepth 8000 in
set_option maxHeartbeats 16000000 in
theorem short (a : Option Addr) (len cap : Nat) (z : Nat → Int) (w : World) (hc : CodeIn w a len cap z) (h : (len : Int) ≤ 1048576) (herr : Errs w) :
    Calls Tryz.prog 3 #[.slice a len cap] w fun e w' => e = .returned (.bool true) ∧ Below w.heap.size w w' := by
  go_enter Tryz.func3, Tryz.ntmps3
  go_wp2_with fail
  refine (drawTextIn a len cap z _ hc).mono ?_
  rintro e w1 ⟨v, m, s, rfl, hm1, hml, hsm, hsz, k1⟩
  have herr1 := herr.below k1
  obtain ⟨mt, HO⟩ : ∃ mt, Hid (tIn m s.data.toList = mt) := ⟨_, rfl⟩
  have hmt : mt.length ≤ 300 := by rw [← HO.out]; exact tin_size m _
  clear herr
  go_wp2_with fail
  refine (tin_any _ v m hm1 s herr1).mono ?_
  rintro e w2 ⟨T, rfl, hT, k2⟩
  rw [HO.out] at hT
  have hm2 := hm1.below k2
  have herr2 := herr1.below k2
  have b2 := k1.trans (k2.mono k1.size)
  clear hm1 herr1 k1 k2
  go_wp2_with fail
  refine (stin_any _ v m hm2 (by omega) s (by omega)).mono ?_
  rintro e w3 ⟨T2, rfl, hT2, k3⟩
  rw [HO.out] at hT2
  obtain rfl : T = T2 := ba_ext (hT.trans hT2.symm)
  have hm3 := hm2.below k3
  have herr3 := herr2.below k3
  have b3 := b2.trans (k3.mono b2.size)
  have hTs : T.size ≤ 300 := by rw [← lenL, hT]; exact hmt
  have HT := (show Hid _ from hT)
  clear hT hT2 hm2 herr2 b2 k3
  go_wp2_with fail
  refine (sok_any _ v m hm3 (by omega)).mono ?_
  rintro e w5 ⟨rfl, k5⟩
  have hm5 := hm3.below k5
  have herr5 := herr3.below k5
  have b5 := b3.trans (k5.mono b3.size)
  clear hm3 herr3 b3 k5
  cases hok : okM m
  · go_wp2_with fail
    refine (stin_any _ v m hm5 (by omega) s (by omega)).mono ?_
    rintro e w6 ⟨T2, rfl, hT2, k6⟩
    rw [HO.out] at hT2
    obtain rfl : T = T2 := ba_ext (HT.out.trans hT2.symm)
    go_wp2
    go_ret
    exact ⟨rfl, b5.trans (k6.mono b5.size)⟩
  go_wp2_with fail
  refine (TxW.sok_any s (by unfold maxLen; omega) _).mono ?_
  rintro e w6 ⟨rfl, rfl⟩
  cases hs : okB s.data.toList
  · go_wp2_with fail
    refine (stin_any _ v m hm5 (by omega) s (by omega)).mono ?_
    rintro e w6 ⟨T2, rfl, hT2, k6⟩
    rw [HO.out] at hT2
    obtain rfl : T = T2 := ba_ext (HT.out.trans hT2.symm)
    go_wp2
    go_ret
    exact ⟨rfl, b5.trans (k6.mono b5.size)⟩

  have htp := tplain m s.data.toList hok hs
  rw [HO.out] at htp
  obtain ⟨ps, HPS⟩ : ∃ ps, Hid (pieL s.data.toList = ps) := ⟨_, rfl⟩
  have hpl : ps.length ≤ 40 := by rw [← HPS.out]; exact pie_few _ hs
  rw [HPS.out] at htp
  have HTP := (show Hid _ from htp)
  have hs40 : s.size ≤ 40 := by rw [← lenL]; exact (ok_parts _ hs).1
  have HOK := (show Hid _ from hok)
  clear htp hok hs
  have HM5 : Hid (IsM w6 v m) := hm5
  clear hm5
  go_wp2_with fail
  refine (pieces_is s ps HPS.out _ herr5).mono ?_
  rintro e w7 ⟨vP, rfl, hP, k7⟩
  have b7 := b5.trans (k7.mono b5.size)
  have HM7 : Hid (IsM w7 v m) := HM5.out.below k7
  have herr7 := herr5.below k7
  obtain ⟨ap, cp, rfl⟩ := isP_slice hP
  have HP : Hid (IsP w7 (.slice ap ps.length cp) ps) := hP
  clear hP herr5 b5 k7 HM5
  go_wp2
  go_loopw [6, 8, 9] (fun pl at_ i wr => ∃ (k : Nat) (P : ByteArray), k ≤ ps.length ∧ i = .int .i64 k ∧ at_ = .int .i64 (szs (ps.take k) : Nat) ∧ pl = .string P ∧ Hid (P.data.toList = plP (ps.take k) s.data.toList) ∧ Below w7.heap.size w7 wr) (fun pl at_ i wr => ps.length - (intOf i).toNat)
  case atStart => exact ⟨0, ⟨#[]⟩, Nat.zero_le _, rfl, rfl, rfl, (rfl : (⟨#[]⟩ : ByteArray).data.toList = plP (ps.take 0) s.data.toList), Below.refl _ _⟩
  case round =>
    obtain ⟨k, P, hk, rfl, rfl, rfl, HPP, hb⟩ := hrel
    have hPz : P.size ≤ 40 := by
      have h1 := plP_le (ps.take k) s.data.toList
      rw [← HPP.out, lenL, lenL] at h1; omega
    by_cases hkl : k < ps.length
    · have hkl' : (k : Int) < (ps.length : Int) := by omega
      have hf : ps[k]? = some ps[k] := List.getElem?_eq_getElem hkl
      obtain ⟨g, o, rfl, _, hc1, hc2, hat⟩ := isP_at (HP.out.below hb) k _ hf
      obtain ⟨ht1, ht2⟩ := take_pre ps k ps[k] hf
      generalize ps[k] = q at hf hat ht1 ht2
      have hin := (Wa.pie_in s (ps.take k) q (by rw [HPS.out]; exact ht2)).1
      have hsn := plP_snoc (ps.take k) q s.data.toList
      rw [← ht1] at hsn
      have hss : szs (ps.take (k + 1)) = szs (ps.take k) + q.sz := by rw [ht1, Wa.szs_snoc]
      obtain ⟨sz, nm, ad, po⟩ := q
      obtain ⟨x0, x1, x2, x3⟩ := hat
      simp only at x0 x1 x2 x3 hin hsn hss
      have HSN := (show Hid _ from hsn)
      have HSS := (show Hid _ from hss)
      clear hf ht1 ht2 hsn hss x2 x3
      generalize hA : szs (ps.take k) = A at hin HSN HSS
      have b0 : (A : Int) ≤ (A : Int) + (sz : Int) := by omega
      have b1 : (A : Int) + (sz : Int) ≤ (s.size : Int) := by omega
      have b3 : (A : Int) ≤ (s.size : Int) := by omega
      have b4 : (s.size : Int) ≤ 40 := by omega
      have HA := (show Hid _ from hA)
      clear hA
      cases nm
      · have hext : (s.extract A (A + sz)).size ≤ 40 := by rw [ByteArray.size_extract]; omega
        go_wp2
        go_roundw
        case rel =>
          refine ⟨k + 1, P ++ s.extract A (A + sz), by omega, by go_num, by rw [HSS.out]; go_num, by first | rfl | simp, ?_, hb⟩
          show (P ++ s.extract A (A + sz)).data.toList = _
          rw [HSN.out, if_neg (by simp), ByteArray.data_append, Array.toList_append, HPP.out, Nm.ext_to, show A + sz - A = sz by omega]
        case measure => simp [intOf]; omega
      · go_wp2
        go_roundw
        case rel =>
          refine ⟨k + 1, P, by omega, by go_num, by rw [HSS.out]; go_num, rfl, ?_, hb⟩
          show P.data.toList = _
          rw [HSN.out, if_pos rfl, List.append_nil, HPP.out]
        case measure => simp [intOf]; omega
    · have hge : (ps.length : Int) ≤ (k : Int) := by omega
      have hall : ps.take k = ps := List.take_of_length_le (by omega)
      have HPA : Hid (P.data.toList = plP ps s.data.toList) := by
        show P.data.toList = _
        rw [HPP.out, hall]
      clear hall HPP
      obtain ⟨ms, HMS⟩ : ∃ ms, Hid (Nas.ends (pieL s.data.toList) = ms) := ⟨_, rfl⟩
      have hml2 : ms.length ≤ 40 := by
        have h1 := Nas.ends_le (pieL s.data.toList)
        rw [HMS.out, HPS.out] at h1; omega
      go_wp2_with fail
      refine (names_is s ms HMS.out _ (herr7.below hb)).mono ?_
      rintro e w8 ⟨vN, rfl, hE, k8⟩
      have b8 := hb.trans (k8.mono hb.size)
      obtain ⟨an, cn, rfl⟩ := isE_slice hE
      clear hE
      by_cases h0 : ms.length = 0
      · have hms : ms = [] := List.length_eq_zero_iff.1 h0
        have hn : nms ps = [] := by rw [← HPS.out, ← hms, ← HMS.out]; rfl
        obtain ⟨e1, e2⟩ := HTP.out.2 hn
        obtain rfl : T = P := ba_ext (HT.out.trans (e1.trans HPA.out.symm))
        have HE2 := (show Hid _ from e2)
        clear e1 e2 hn
        subst hms
        go_wp2_with fail
        refine (tout_any _ v m (HM7.out.below b8) s (herr7.below b8)).mono ?_
        rintro e w9 ⟨vX, U, rfl, hrX, hU, k9⟩
        rw [HE2.out] at hrX hU
        obtain rfl : U = T := ba_ext (hU.trans HPA.out.symm)
        have hX := isM_of_row hrX
        have b9 := b8.trans (k9.mono b8.size)
        simp only at hX
        go_wp2_with fail
        refine (lz_same _ m (by omega) _ _ hX (HM7.out.below b9)).mono ?_
        rintro e w10 ⟨rfl, k10⟩
        go_wp2
        go_ret
        exact ⟨rfl, b7.trans ((b9.trans (k10.mono b9.size)).mono b7.size)⟩
      · have h0' : (0 : Int) < (ms.length : Int) := by omega
        have hfin : (P.size : Int) ≤ (T.size : Int) := by
          have h1 := HTP.out.1
          rw [← HPA.out, ← HT.out, lenL, lenL] at h1; omega
        go_wp2
        go_ret
        exact ⟨by simp, b7.trans (b8.mono b7.size)⟩
end Go.Proofs.YtlejldaennlfaaeGreatDoor.LTextPlain

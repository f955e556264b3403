/- The walk of the law FnTextIn: it answers true. -/
import Derived.Test.YtlejldaennlfaaeGreatDoorDrawX
import Derived.Test.YtlejldaennlfaaeGreatDoorLaid
import Derived.Test.YtlejldaennlfaaeGreatDoorLzM
import Derived.Test.YtlejldaennlfaaeGreatDoorMt
import Derived.Test.YtlejldaennlfaaeGreatDoorSp2
import Derived.Test.YtlejldaennlfaaeGreatDoorMpY
import Derived.Test.YtlejldaennlfaaeGreatDoorTxP
import Derived.Test.YtlejldaennlfaaeGreatDoorMpW
import Derived.Test.YtlejldaennlfaaeGreatDoorLzO
import Derived.Test.YtlejldaennlfaaeGreatDoorMlMi
namespace Go.Proofs.YtlejldaennlfaaeGreatDoor.LTextIn
open Go.RowKit Go.Proofs.YtlejldaennlfaaeGreatDoor.Kit Go.Proofs.YtlejldaennlfaaeGreatDoor.Mp Go.Proofs.YtlejldaennlfaaeGreatDoor.Mm Go.Proofs.YtlejldaennlfaaeGreatDoor.Ml Go.Proofs.YtlejldaennlfaaeGreatDoor.Ms Go.Proofs.YtlejldaennlfaaeGreatDoor.App Go.Proofs.YtlejldaennlfaaeGreatDoor.DrawM Go.Proofs.YtlejldaennlfaaeGreatDoor.Mt Go.Proofs.YtlejldaennlfaaeGreatDoor.Sp Go.Proofs.YtlejldaennlfaaeGreatDoor.Tx
open Go.Proofs.YtlejldaennlfaaeGreatDoor.LzM (lz_same)
open Go.Proofs.YtlejldaennlfaaeGreatDoor.Wa (ba_ext)
open Go.Proofs.YtlejldaennlfaaeGreatDoor.Read (Errs)
open Go.Proofs.YtlejldaennlfaaeGreatDoor.LzE Go.Proofs.YtlejldaennlfaaeGreatDoor.LzO
open Go.Proofs.YtlejldaennlfaaeGreatDoor.EndW (endV isB impl3 impl1 sideZ)
set_option linter.unusedVariables false
set_option linter.unusedSimpArgs false

set_option maxHeartbeats 1000000 in
theorem long (a : Option Addr) (len cap : Nat) (w : World) (h : (1048576 : Int) < (len : Int)) :
    Calls Tryz.prog 4 #[.slice a len cap] w fun e w' => e = .returned (.bool true) ∧ Below w.heap.size w w' := by
  go_enter Tryz.func4, Tryz.ntmps4
  go_wp2
  go_ret
  exact ⟨rfl, Below.refl _ _⟩


set_option maxRecDepth 8000 in
set_option maxHeartbeats 16000000 in
theorem short (a : Option Addr) (len cap : Nat) (z : Nat → Int) (w : World) (hc : CodeIn w a len cap z) (h : (len : Int) ≤ 1048576) (herr : Errs w) :
    Calls Tryz.prog 4 #[.slice a len cap] w fun e w' => e = .returned (.bool true) ∧ Below w.heap.size w w' := by
  go_enter Tryz.func4, Tryz.ntmps4
  go_wp2_with fail
  refine (drawTextIn a len cap z _ hc).mono ?_
  rintro e w1 ⟨v, m, s, rfl, hm1, hml, hsm, hsz, k1⟩
  have herr1 := herr.below k1
  obtain ⟨mt, HO⟩ : ∃ mt, Hid (tIn m s.data.toList = mt) := ⟨_, rfl⟩
  have hmt : mt.length ≤ 300 := by rw [← HO.out]; exact tin_size m _
  clear herr
  go_wp2_with fail
  refine (tin_any _ v m hm1 s herr1).mono ?_
  rintro e w2 ⟨T, rfl, hT, k2⟩
  rw [HO.out] at hT
  have hm2 := hm1.below k2
  have herr2 := herr1.below k2
  have b2 := k1.trans (k2.mono k1.size)
  clear hm1 herr1 k1 k2
  go_wp2_with fail
  refine (stin_any _ v m hm2 (by omega) s (by omega)).mono ?_
  rintro e w3 ⟨T2, rfl, hT2, k3⟩
  rw [HO.out] at hT2
  obtain rfl : T = T2 := ba_ext (hT.trans hT2.symm)
  have hm3 := hm2.below k3
  have herr3 := herr2.below k3
  have b3 := b2.trans (k3.mono b2.size)
  have hTs : T.size ≤ 300 := by rw [← lenL, hT]; exact hmt
  have HT := (show Hid _ from hT)
  clear hT hT2 hm2 herr2 b2 k3
  go_wp2_with fail
  refine (sok_any _ v m hm3 (by omega)).mono ?_
  rintro e w5 ⟨rfl, k5⟩
  have hm5 := hm3.below k5
  have herr5 := herr3.below k5
  have b5 := b3.trans (k5.mono b3.size)
  clear hm3 herr3 b3 k5
  cases hok : okM m
  · go_wp2_with fail
    refine (stin_any _ v m hm5 (by omega) s (by omega)).mono ?_
    rintro e w6 ⟨T2, rfl, hT2, k6⟩
    rw [HO.out] at hT2
    obtain rfl : T = T2 := ba_ext (HT.out.trans hT2.symm)
    go_wp2
    go_ret
    exact ⟨rfl, b5.trans (k6.mono b5.size)⟩
  go_wp2_with fail
  refine (TxW.sok_any s (by unfold maxLen; omega) _).mono ?_
  rintro e w6 ⟨rfl, rfl⟩
  cases hs : okB s.data.toList
  · go_wp2_with fail
    refine (stin_any _ v m hm5 (by omega) s (by omega)).mono ?_
    rintro e w6 ⟨T2, rfl, hT2, k6⟩
    rw [HO.out] at hT2
    obtain rfl : T = T2 := ba_ext (HT.out.trans hT2.symm)
    go_wp2
    go_ret
    exact ⟨rfl, b5.trans (k6.mono b5.size)⟩

  have hnot := in_none m s.data.toList hok hs
  have hokT := in_ok m s.data.toList hok hs
  rw [HO.out] at hnot hokT
  obtain ⟨ns, HN⟩ : ∃ ns, Hid (nms (pcs mt) = ns) := ⟨_, rfl⟩
  have hpT : Hid (Nas.ends (pieL T.data.toList) = ns) := by
    show Nas.ends (pieL T.data.toList) = ns
    rw [← LzE.ends_pie _ (by rw [HT.out]; exact hokT.1), HT.out]; exact HN.out
  have hnT : ns.length ≤ 1000 := by
    have h1 := Nas.ends_le (pieL T.data.toList)
    have h2 := pie_few T.data.toList (by rw [HT.out]; exact hokT.1)
    rw [hpT.out] at h1; omega
  have hle : (T.size : Int) ≤ (s.size : Int) := by
    have h1 := lenL T
    have h2 := lenL s
    rw [HT.out] at h1
    have := hokT.2
    omega
  rw [HN.out] at hnot
  have HNO := (show Hid _ from hnot)
  clear hnot hokT hok hs
  have HM5 : Hid (IsM w6 v m) := hm5
  clear hm5
  go_wp2_with fail
  refine (names_is T ns hpT.out _ herr5).mono ?_
  rintro e w7 ⟨vN, rfl, hE, k7⟩
  have b7 := b5.trans (k7.mono b5.size)
  have HM7 : Hid (IsM w7 v m) := HM5.out.below k7
  obtain ⟨an, cn, rfl⟩ := isE_slice hE
  have HE : Hid (IsE w7 (.slice an ns.length cn) ns) := hE
  clear hE herr5 b5 k7 HM5
  go_wp2
  go_loopw [7] (fun i wr => ∃ k : Nat, k ≤ ns.length ∧ i = .int .i64 k ∧ Below w7.heap.size w7 wr) (fun i wr => ns.length - (intOf i).toNat)
  case atStart => exact ⟨0, Nat.zero_le _, rfl, Below.refl _ _⟩
  case round =>
    obtain ⟨k, hk, rfl, hb⟩ := hrel
    by_cases hkl : k < ns.length
    · have hkl' : (k : Int) < (ns.length : Int) := by omega
      have hf : ns[k]? = some ns[k] := List.getElem?_eq_getElem hkl
      obtain ⟨hin, hlo, hhi⟩ := HNO.out ns[k] (List.getElem_mem hkl)
      obtain ⟨g, rfl, _, hc1, hc2, hat⟩ := isE_at (HE.out.below hb) k _ hf
      generalize ns[k] = f at hf hat hin hlo hhi
      obtain ⟨fa, fp⟩ := f
      obtain ⟨t0, t1⟩ := hat
      simp only at t0 t1 hin hlo hhi
      have hwf : (Lit.int .i64 fp).wf = true := Mj.wf_small _ (by omega) (by omega)
      have HF2 := (show Hid _ from hf)
      clear hf
      go_wp2_with fail
      refine (Ml.in_any _ v m (HM7.out.below hb) fp hwf).mono ?_
      rintro e w8 ⟨rfl, k8⟩
      have b8 := hb.trans (k8.mono hb.size)
      have hat8 := HE.out.below b8
      obtain ⟨_, hgg, _, _, _, y0, y1⟩ := isE_at hat8 k _ HF2.out
      obtain rfl : g = _ := by simpa using hgg
      simp only at y0 y1
      have HBB := (show Hid _ from hb)
      clear hat8 hgg t0 t1 hb k8
      cases hB : isB 3 fa fp
      · clear hin
        generalize mIn m fp = q
        obtain ⟨⟨q1, q2⟩, qb⟩ := q
        have z8 := b8.size
        have hg8 : g < w8.heap.size := blk y0
        go_wp2_with fail
        refine (impl3 fa fp _).mono ?_
        rintro e w9 ⟨rfl, k9⟩
        rw [hB]
        have b9 : Below w7.heap.size w7 w9 := (b8.trans (((Below.refl _ w8).alloc (Nat.le_refl _) _).mono b8.size)).trans (k9.mono (by simp; omega))
        go_wp2
        go_roundw
        case rel => exact ⟨k + 1, by omega, by go_num, b9⟩
        case measure => simp [intOf]; omega
      · have hbf : (mIn m fp).2 = false := hin (by unfold isB at hB; simpa using hB)
        generalize mIn m fp = q at hbf
        obtain ⟨⟨q1, q2⟩, qb⟩ := q
        simp only at hbf
        subst hbf
        have z8 := b8.size
        have hg8 : g < w8.heap.size := blk y0
        go_wp2_with fail
        refine (impl3 fa fp _).mono ?_
        rintro e w9 ⟨rfl, k9⟩
        rw [hB]
        have b9 : Below w7.heap.size w7 w9 := (b8.trans (((Below.refl _ w8).alloc (Nat.le_refl _) _).mono b8.size)).trans (k9.mono (by simp; omega))
        go_wp2
        go_roundw
        case rel => exact ⟨k + 1, by omega, by go_num, b9⟩
        case measure => simp [intOf]; omega
    · have hge : (ns.length : Int) ≤ (k : Int) := by omega
      go_wp2
      go_ret
      exact ⟨by simp, b7.trans (hb.mono b7.size)⟩
end Go.Proofs.YtlejldaennlfaaeGreatDoor.LTextIn

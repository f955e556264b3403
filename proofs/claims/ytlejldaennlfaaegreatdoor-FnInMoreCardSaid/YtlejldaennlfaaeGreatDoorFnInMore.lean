/- The walk of the law FnInMore: it answers true. -/
import Derived.Test.YtlejldaennlfaaeGreatDoorDrawX
import Derived.Test.YtlejldaennlfaaeGreatDoorLaid
import Derived.Test.YtlejldaennlfaaeGreatDoorLzM
import Derived.Test.YtlejldaennlfaaeGreatDoorMt
import Derived.Test.YtlejldaennlfaaeGreatDoorSp2
import Derived.Test.YtlejldaennlfaaeGreatDoorMpY
import Derived.Test.YtlejldaennlfaaeGreatDoorTxP
import Derived.Test.YtlejldaennlfaaeGreatDoorMpW
import Derived.Test.YtlejldaennlfaaeGreatDoorLzO
import Derived.Test.YtlejldaennlfaaeGreatDoorMlMi
namespace Go.Proofs.YtlejldaennlfaaeGreatDoor.LInMore
open Go.RowKit Go.Proofs.YtlejldaennlfaaeGreatDoor.Kit Go.Proofs.YtlejldaennlfaaeGreatDoor.Mp Go.Proofs.YtlejldaennlfaaeGreatDoor.Mm Go.Proofs.YtlejldaennlfaaeGreatDoor.Ml Go.Proofs.YtlejldaennlfaaeGreatDoor.Ms Go.Proofs.YtlejldaennlfaaeGreatDoor.App Go.Proofs.YtlejldaennlfaaeGreatDoor.DrawM Go.Proofs.YtlejldaennlfaaeGreatDoor.Mt Go.Proofs.YtlejldaennlfaaeGreatDoor.Sp Go.Proofs.YtlejldaennlfaaeGreatDoor.Tx
open Go.Proofs.YtlejldaennlfaaeGreatDoor.LzM (lz_same)
open Go.Proofs.YtlejldaennlfaaeGreatDoor.Wa (ba_ext)
open Go.Proofs.YtlejldaennlfaaeGreatDoor.Read (Errs)
open Go.Proofs.YtlejldaennlfaaeGreatDoor.LzE Go.Proofs.YtlejldaennlfaaeGreatDoor.LzO
open Go.Proofs.YtlejldaennlfaaeGreatDoor.EndW (endV isB impl3 impl1 sideZ)
set_option linter.unusedVariables false
set_option linter.unusedSimpArgs false

set_option maxHeartbeats 1000000 in
theorem long (a a1 : Option Addr) (len cap len1 cap1 : Nat) (w : World) (h : (1048576 : Int) < (len : Int)) :
    Calls Tryz.prog 8 #[.slice a len cap, .slice a1 len1 cap1] w fun e w' => e = .returned (.bool true) ∧ Below w.heap.size w w' := by
  go_enter Tryz.func8, Tryz.ntmps8
  go_wp2
  go_ret
  exact ⟨rfl, Below.refl _ _⟩

set_option maxHeartbeats 1000000 in
theorem long2 (a a1 : Option Addr) (len cap len1 cap1 : Nat) (w : World) (h0 : (len : Int) ≤ 1048576) (h : (1048576 : Int) < (len1 : Int)) :
    Calls Tryz.prog 8 #[.slice a len cap, .slice a1 len1 cap1] w fun e w' => e = .returned (.bool true) ∧ Below w.heap.size w w' := by
  go_enter Tryz.func8, Tryz.ntmps8
  go_wp2
  go_ret
  exact ⟨rfl, Below.refl _ _⟩


set_option maxRecDepth 8000 in
set_option maxHeartbeats 16000000 in
theorem short (a a1 : Option Addr) (len cap len1 cap1 : Nat) (z : Nat → Int) (w : World) (hc : CodeIn w a len cap z) (h : (len : Int) ≤ 1048576) (hl1 : (len1 : Int) ≤ 1048576) (herr : Errs w) :
    Calls Tryz.prog 8 #[.slice a len cap, .slice a1 len1 cap1] w fun e w' => e = .returned (.bool true) ∧ Below w.heap.size w w' := by
  go_enter Tryz.func8, Tryz.ntmps8
  go_wp2_with fail
  refine (drawTextIn a len cap z _ hc).mono ?_
  rintro e w1 ⟨v, m, s, rfl, hm1, hml, hsm, hsz, k1⟩
  have herr1 := herr.below k1
  obtain ⟨mt, HO⟩ : ∃ mt, Hid (tIn m s.data.toList = mt) := ⟨_, rfl⟩
  have hmt : mt.length ≤ 300 := by rw [← HO.out]; exact tin_size m _
  clear herr
  go_wp2_with fail
  refine (tin_any _ v m hm1 s herr1).mono ?_
  rintro e w2 ⟨T, rfl, hT, k2⟩
  rw [HO.out] at hT
  have hm2 := hm1.below k2
  have herr2 := herr1.below k2
  have b2 := k1.trans (k2.mono k1.size)
  clear hm1 herr1 k1 k2
  go_wp2_with fail
  refine (stin_any _ v m hm2 (by omega) s (by omega)).mono ?_
  rintro e w3 ⟨T2, rfl, hT2, k3⟩
  rw [HO.out] at hT2
  obtain rfl : T = T2 := ba_ext (hT.trans hT2.symm)
  have hm3 := hm2.below k3
  have herr3 := herr2.below k3
  have b3 := b2.trans (k3.mono b2.size)
  have hTs : T.size ≤ 300 := by rw [← lenL, hT]; exact hmt
  have HT := (show Hid _ from hT)
  clear hT hT2 hm2 herr2 b2 k3
  go_wp2_with fail
  refine (sok_any _ v m hm3 (by omega)).mono ?_
  rintro e w5 ⟨rfl, k5⟩
  have hm5 := hm3.below k5
  have herr5 := herr3.below k5
  have b5 := b3.trans (k5.mono b3.size)
  clear hm3 herr3 b3 k5
  cases hok : okM m
  · go_wp2_with fail
    refine (stin_any _ v m hm5 (by omega) s (by omega)).mono ?_
    rintro e w6 ⟨T2, rfl, hT2, k6⟩
    rw [HO.out] at hT2
    obtain rfl : T = T2 := ba_ext (HT.out.trans hT2.symm)
    go_wp2
    go_ret
    exact ⟨rfl, b5.trans (k6.mono b5.size)⟩
  go_wp2_with fail
  refine (TxW.sok_any s (by unfold maxLen; omega) _).mono ?_
  rintro e w6 ⟨rfl, rfl⟩
  cases hs : okB s.data.toList
  · go_wp2_with fail
    refine (stin_any _ v m hm5 (by omega) s (by omega)).mono ?_
    rintro e w6 ⟨T2, rfl, hT2, k6⟩
    rw [HO.out] at hT2
    obtain rfl : T = T2 := ba_ext (HT.out.trans hT2.symm)
    go_wp2
    go_ret
    exact ⟨rfl, b5.trans (k6.mono b5.size)⟩

  have hpS : Hid (Nas.ends (pieL s.data.toList) = nms (pcs (bd s.data.toList))) := by
    show Nas.ends (pieL s.data.toList) = _
    rw [pie_ok _ hs]; rfl
  have hnl : (nms (pcs (bd s.data.toList))).length ≤ 1000 := by
    have h1 := Nas.ends_le (pieL s.data.toList)
    have h2 := pie_few _ hs
    rw [hpS.out] at h1; omega
  have hbds : ∀ e ∈ nms (pcs (bd s.data.toList)), 1 ≤ e.2 ∧ e.2 ≤ 17 := fun e he => by
    have := Text.side_bd e.1 e.2 (nms_any _ e he)
    omega
  have hmore := fun (e : Int × Int) (he : inB e = true) (ha : ∀ f ∈ nms (pcs (bd s.data.toList)), sideZ f.1 f.2 = 3 → (mIn m f.2).2 = true) => in_more m s.data.toList e hok hs he ha
  rw [HO.out] at hmore
  generalize nms (pcs (bd s.data.toList)) = ns at hpS hnl hbds hmore
  have HMO := (show Hid _ from hmore)
  have HBD := (show Hid _ from hbds)
  clear hok hs hmore hbds
  have HM5 : Hid (IsM w6 v m) := hm5
  clear hm5
  go_wp2_with fail
  refine (names_is s ns hpS.out _ herr5).mono ?_
  rintro e w7 ⟨vN, rfl, hE, k7⟩
  have b7 := b5.trans (k7.mono b5.size)
  have HM7 : Hid (IsM w7 v m) := HM5.out.below k7
  have herr7 := herr5.below k7
  obtain ⟨an, cn, rfl⟩ := isE_slice hE
  have HE : Hid (IsE w7 (.slice an ns.length cn) ns) := hE
  clear hE herr5 b5 k7 HM5
  go_wp2
  go_loopw [9] (fun i wr => ∃ k : Nat, k ≤ ns.length ∧ i = .int .i64 k ∧ Hid (∀ f ∈ ns.take k, sideZ f.1 f.2 = 3 → (mIn m f.2).2 = true) ∧ Below w7.heap.size w7 wr) (fun i wr => ns.length - (intOf i).toNat)
  case atStart => exact ⟨0, Nat.zero_le _, rfl, (fun e he => by simp at he : ∀ f ∈ ns.take 0, sideZ f.1 f.2 = 3 → (mIn m f.2).2 = true), Below.refl _ _⟩
  case round =>
    obtain ⟨k, hk, rfl, HUP, hb⟩ := hrel
    by_cases hkl : k < ns.length
    · have hkl' : (k : Int) < (ns.length : Int) := by omega
      have hf : ns[k]? = some ns[k] := List.getElem?_eq_getElem hkl
      obtain ⟨hlo, hhi⟩ := HBD.out ns[k] (List.getElem_mem hkl)
      obtain ⟨g, rfl, _, hc1, hc2, hat⟩ := isE_at (HE.out.below hb) k _ hf
      have hst := take_mem ns k ns[k] hf
      generalize ns[k] = f at hf hat hlo hhi hst
      obtain ⟨fa, fp⟩ := f
      obtain ⟨t0, t1⟩ := hat
      simp only at t0 t1 hlo hhi
      have hwf : (Lit.int .i64 fp).wf = true := Mj.wf_small _ (by omega) (by omega)
      have HF2 := (show Hid _ from hf)
      have HST := (show Hid _ from hst)
      clear hf hst
      go_wp2_with fail
      refine (Ml.in_any _ v m (HM7.out.below hb) fp hwf).mono ?_
      rintro e w8 ⟨rfl, k8⟩
      have b8 := hb.trans (k8.mono hb.size)
      have hat8 := HE.out.below b8
      obtain ⟨_, hgg, _, _, _, y0, y1⟩ := isE_at hat8 k _ HF2.out
      obtain rfl : g = _ := by simpa using hgg
      simp only at y0 y1
      clear hat8 hgg t0 t1 hb k8
      have z8 := b8.size
      have hg8 : g < w8.heap.size := blk y0
      have hnew : (sideZ fa fp = 3 → (mIn m fp).2 = true) → Hid (∀ f ∈ ns.take (k + 1), sideZ f.1 f.2 = 3 → (mIn m f.2).2 = true) := fun hq => (fun f hf => by
        rcases HST.out f hf with h | h
        · exact HUP.out f h
        · rw [h]; exact hq : ∀ f ∈ ns.take (k + 1), sideZ f.1 f.2 = 3 → (mIn m f.2).2 = true)
      have HNE := (show Hid _ from hnew)
      clear hnew
      cases hB : isB 3 fa fp
      · have HN1 := HNE.out fun h3 => absurd h3 (isB_side 3 fa fp hB)
        generalize mIn m fp = q
        obtain ⟨⟨q1, q2⟩, qb⟩ := q
        go_wp2_with fail
        refine (impl3 fa fp _).mono ?_
        rintro e w9 ⟨rfl, k9⟩
        rw [hB]
        have b9 : Below w7.heap.size w7 w9 := (b8.trans (((Below.refl _ w8).alloc (Nat.le_refl _) _).mono b8.size)).trans (k9.mono (by simp; omega))
        go_wp2
        go_roundw
        case rel => exact ⟨k + 1, by omega, by go_num, HN1, b9⟩
        case measure => simp [intOf]; omega
      · have HN1 := fun hq : (mIn m fp).2 = true => HNE.out fun _ => hq
        clear HNE
        generalize mIn m fp = q at HN1
        obtain ⟨⟨q1, q2⟩, qb⟩ := q
        simp only at HN1
        cases qb
        · clear HN1
          go_wp2_with fail
          refine (impl3 fa fp _).mono ?_
          rintro e w9 ⟨rfl, k9⟩
          rw [hB]
          have b9 : Below w7.heap.size w7 w9 := (b8.trans (((Below.refl _ w8).alloc (Nat.le_refl _) _).mono b8.size)).trans (k9.mono (by simp; omega))
          go_wp2
          go_ret
          exact ⟨rfl, b7.trans (b9.mono b7.size)⟩
        · have HN2 := HN1 rfl
          clear HN1
          go_wp2_with fail
          refine (impl3 fa fp _).mono ?_
          rintro e w9 ⟨rfl, k9⟩
          rw [hB]
          have b9 : Below w7.heap.size w7 w9 := (b8.trans (((Below.refl _ w8).alloc (Nat.le_refl _) _).mono b8.size)).trans (k9.mono (by simp; omega))
          go_wp2
          go_roundw
          case rel => exact ⟨k + 1, by omega, by go_num, HN2, b9⟩
          case measure => simp [intOf]; omega
    · have hge : (ns.length : Int) ≤ (k : Int) := by omega
      have hall : ns.take k = ns := List.take_of_length_le (by omega)
      have hup := HUP.out
      rw [hall] at hup
      have HUA := (show Hid _ from hup)
      clear hup hall HUP
      have r0 : 0 ≤ (len1 : Int) % 3 := by omega
      have r1 : (len1 : Int) % 3 < 3 := by omega
      have r2 : 0 ≤ (len1 : Int) / 2 % 9 := by omega
      have r3 : (len1 : Int) / 2 % 9 < 9 := by omega
      have hib : inB (1 + (len1 : Int) % 3, 1 + (len1 : Int) / 2 % 9) = true := inB_mk _ _ (by omega)
      have hfin := HMO.out _ hib HUA.out
      have HFI := (show Hid _ from hfin)
      clear hfin
      go_wp2_with fail
      refine (Ml.out_any _ v m (HM7.out.below hb) (1 + (len1 : Int) % 3, 1 + (len1 : Int) / 2 % 9)).mono ?_
      rintro e w8 ⟨vX, rfl, hrX, k8⟩
      have hX := isM_of_row hrX
      have b8 := hb.trans (k8.mono hb.size)
      clear hrX
      generalize mOut m (1 + (len1 : Int) % 3, 1 + (len1 : Int) / 2 % 9) = mo at hX HFI
      obtain ⟨mx, mp, mb⟩ := mo
      simp only at hX
      have HX : Hid (IsM w8 vX mx) := hX
      clear hX
      go_wp2_with fail
      refine (tin_any _ _ mx HX.out _ (herr7.below b8)).mono ?_
      rintro e w9 ⟨U, rfl, hU, k9⟩
      obtain rfl : U = T := ba_ext (hU.trans (HFI.out.trans HT.out.symm))
      go_wp2
      go_ret
      exact ⟨rfl, b7.trans ((b8.trans (k9.mono b8.size)).mono b7.size)⟩
end Go.Proofs.YtlejldaennlfaaeGreatDoor.LInMore

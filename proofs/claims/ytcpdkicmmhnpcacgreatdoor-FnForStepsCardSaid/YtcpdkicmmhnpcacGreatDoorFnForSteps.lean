/- The walk of the law on parts that went on: it answers true. -/
import Derived.Test.YtcpdkicmmhnpcacGreatDoorDrawQ
import Derived.Test.YtcpdkicmmhnpcacGreatDoorAc
import Derived.Test.YtcpdkicmmhnpcacGreatDoorSsC
import Derived.Test.YtcpdkicmmhnpcacGreatDoorLaid
namespace Go.Proofs.YtcpdkicmmhnpcacGreatDoor.LForSteps
open Go.RowKit Go.Shelf Go.Proofs.YtcpdkicmmhnpcacGreatDoor.Kit Go.Proofs.YtcpdkicmmhnpcacGreatDoor.Tx Go.Proofs.YtcpdkicmmhnpcacGreatDoor.Nm Go.Proofs.YtcpdkicmmhnpcacGreatDoor.App Go.Proofs.YtcpdkicmmhnpcacGreatDoor.St Go.Proofs.YtcpdkicmmhnpcacGreatDoor.StP
open Go.Proofs.YtcpdkicmmhnpcacGreatDoor.Read (Errs)
set_option linter.unusedSimpArgs false
set_option linter.unusedVariables false

set_option maxHeartbeats 400000 in
theorem long (a0 a1 : Option Addr) (len0 cap0 len1 cap1 : Nat) (w : World) (h : (1048576 : Int) < (len0 : Int)) :
    Calls Tryz.prog 4 #[.slice a0 len0 cap0, .slice a1 len1 cap1] w fun e w' => e = .returned (.bool true) ∧ Below w.heap.size w w' := by
  go_enter Tryz.func4, Tryz.ntmps4
  go_wp2
  go_ret
  exact ⟨rfl, Below.refl _ _⟩
set_option maxHeartbeats 400000 in
theorem long2 (a0 a1 : Option Addr) (len0 cap0 len1 cap1 : Nat) (w : World) (h : (len0 : Int) ≤ 1048576) (h2 : (1048576 : Int) < (len1 : Int)) :
    Calls Tryz.prog 4 #[.slice a0 len0 cap0, .slice a1 len1 cap1] w fun e w' => e = .returned (.bool true) ∧ Below w.heap.size w w' := by
  go_enter Tryz.func4, Tryz.ntmps4
  go_wp2
  go_ret
  exact ⟨rfl, Below.refl _ _⟩

set_option maxRecDepth 8000 in
set_option maxHeartbeats 16000000 in
theorem short (a0 a1 : Option Addr) (len0 cap0 len1 cap1 : Nat) (z : Nat → Int) (w : World) (hc : CodeIn w a0 len0 cap0 z) (h : (len0 : Int) ≤ 1048576) (h2 : (len1 : Int) ≤ 1048576) (herr : Errs w) :
    Calls Tryz.prog 4 #[.slice a0 len0 cap0, .slice a1 len1 cap1] w fun e w' => e = .returned (.bool true) ∧ Below w.heap.size w w' := by
  go_enter Tryz.func4, Tryz.ntmps4
  go_wp2_with fail
  refine (drawStreamFor a0 len0 cap0 z _ hc).mono ?_
  rintro e w1 ⟨S, pv, ps, n, rfl, hT, ⟨hS, hpl, hpb⟩, k1⟩
  obtain ⟨pa, pc, rfl, hT'⟩ := id hT
  clear hT'
  have he1 := herr.below k1
  have bA : Below w1.heap.size w1 (w1.alloc (.cells #[.string S, .slice pa ps.length pc] 26)) := (Below.refl _ _).alloc (Nat.le_refl _) _
  have hps : ∀ p ∈ ps, p.2.size ≤ 1073741824 := fun p hp => by have := (hpb p hp).2; omega
  have HPS := (show Hid (∀ p ∈ ps, p.2.size ≤ 1073741824) from hps)
  have HE := (show Hid (Errs (w1.alloc (.cells #[.string S, .slice pa ps.length pc] 26))) from he1.below bA)
  have HT := (show Hid (IsT (w1.alloc (.cells #[.string S, .slice pa ps.length pc] 26)) (.slice pa ps.length pc) ps) from hT.below bA)
  have HB := (show Hid (Below w.heap.size w (w1.alloc (.cells #[.string S, .slice pa ps.length pc] 26))) from k1.trans (bA.mono k1.size))
  clear hps hpb he1 hT k1 bA herr
  go_wp2_with fail
  refine (for_stream S _ ps n _ HT.out HE.out).mono ?_
  rintro e w2 ⟨rfl, k2⟩
  have c2 := keepc k2 w1.heap.size (by simp)
  have e0 : w2.cell? ⟨w1.heap.size, 0, none⟩ = some (.string S) := by rw [c2 0]; simp [go_sem]
  have e1 : w2.cell? ⟨w1.heap.size, 1, none⟩ = some (.slice pa ps.length pc) := by rw [c2 1]; simp [go_sem]
  have hl2 : w1.heap.size < w2.heap.size := by have := k2.size; simp at this; omega
  have HT2 := (show Hid (IsT w2 (.slice pa ps.length pc) ps) from HT.out.below k2)
  have HE2 := (show Hid (Errs w2) from HE.out.below k2)
  have HB2 := (show Hid (Below w.heap.size w w2) from HB.out.trans (k2.mono HB.out.size))
  clear k2 c2 HT HE HB
  obtain ⟨X, hX⟩ : ∃ X, w1.heap.size = X := ⟨_, rfl⟩
  obtain ⟨N, hN⟩ : ∃ N, forZ S ps n = N := ⟨_, rfl⟩
  rw [hX] at e0 e1 hl2 ⊢
  rw [hN]
  have HN := (show Hid (forZ S ps n = N) from hN)
  clear hX hN
  go_wp2_with fail
  refine (StS.sfor_any S _ ps n _ HT2.out (by omega) HPS.out).mono ?_
  rintro e w3 ⟨rfl, k3⟩
  rw [HN.out]
  have f0 := (k3.cell (p := ⟨X, 0, none⟩) hl2).trans e0
  have f1 := (k3.cell (p := ⟨X, 1, none⟩) hl2).trans e1
  have hl3 : X < w3.heap.size := by have := k3.size; omega
  have HT3 := (show Hid (IsT w3 (.slice pa ps.length pc) ps) from HT2.out.below k3)
  have HE3 := (show Hid (Errs w3) from HE2.out.below k3)
  have HB3 := (show Hid (Below w.heap.size w w3) from HB2.out.trans (k3.mono HB2.out.size))
  clear k3 e0 e1 HT2 HE2 HB2
  go_wp2_with fail
  refine (StS.sstream_any S _ ps _ HT3.out (by omega) HPS.out).mono ?_
  rintro e w4 ⟨rfl, k4⟩
  have g0 := (k4.cell (p := ⟨X, 0, none⟩) hl3).trans f0
  have g1 := (k4.cell (p := ⟨X, 1, none⟩) hl3).trans f1
  have hl4 : X < w4.heap.size := by have := k4.size; omega
  have HT4 := (show Hid (IsT w4 (.slice pa ps.length pc) ps) from HT3.out.below k4)
  have HE4 := (show Hid (Errs w4) from HE3.out.below k4)
  have HB4 := (show Hid (Below w.heap.size w w4) from HB3.out.trans (k4.mono HB3.out.size))
  clear k4 f0 f1 HT3 HE3 HB3
  cases hst : stB S ps
  · go_wp2_with fail
    refine (StS.sfor_any S _ ps n _ HT4.out (by omega) HPS.out).mono ?_
    rintro e w5 ⟨rfl, k5⟩
    rw [HN.out]
    go_wp2
    go_ret
    exact ⟨by first | rfl | simp, HB4.out.trans (k5.mono HB4.out.size)⟩
  · have HST := (show Hid (stB S ps = true) from hst)
    have hsm := stB_small hst
    have hmod0 := Int.emod_nonneg (len1 : Int) (show ((ps.length : Int) + 1) ≠ 0 by omega)
    have hmod1 := Int.emod_lt_of_pos (len1 : Int) (show (0 : Int) < (ps.length : Int) + 1 by omega)
    obtain ⟨K, hK⟩ := Int.eq_ofNat_of_zero_le hmod0
    have hKl : K ≤ ps.length := by omega
    have HSM := (show Hid (Small ps) from hsm)
    clear hst hsm hmod0 hmod1
    have ip := in_pos HSM.out
    have op' := out_pos HSM.out
    have hsmI := sm_in HST.out
    have hsmO := sm_out ps
    have htx := txW_small HSM.out
    have hIk := fun k => sm_le (sideH true) ps ip k
    have hOk := fun k => sm_le (sideH false) ps op' k
    have hI0 := fun k => sm_nonneg (sideH true) (ps.take k) fun q hq => ip q (List.mem_of_mem_take hq)
    have hO0 := fun k => sm_nonneg (sideH false) (ps.take k) fun q hq => op' q (List.mem_of_mem_take hq)
    have fz : ∀ m : Int, 0 ≤ m → m ≤ (S.size : Int) → forZ S ps m = acr (sideH true) (sideH false) ps m := fun m h0 h1 => if_pos ⟨HST.out, h0, h1⟩
    have bz : ∀ m : Int, 0 ≤ m → m ≤ ((txW ps).size : Int) → backZ S ps m = acr (sideH false) (sideH true) ps m := fun m h0 h1 => if_pos ⟨HST.out, h0, h1⟩
    have hF := fun k => (fz _ (hI0 k) (by have := hIk k; omega)).trans (acr_part (t := sideH false) ps ip k)
    have hB := fun k => (bz _ (hO0 k) (by have := hOk k; omega)).trans (acr_part (t := sideH true) ps op' k)
    have HF := (show Hid (∀ k, forZ S ps (sm (sideH true) (ps.take k)) = sm (sideH false) (ps.take k)) from hF)
    have HBk := (show Hid (∀ k, backZ S ps (sm (sideH false) (ps.take k)) = sm (sideH true) (ps.take k)) from hB)
    have HI := (show Hid (∀ k, 0 ≤ sm (sideH true) (ps.take k) ∧ sm (sideH true) (ps.take k) ≤ 41) from fun k => ⟨hI0 k, by have := hIk k; omega⟩)
    have HO := (show Hid (∀ k, 0 ≤ sm (sideH false) (ps.take k) ∧ sm (sideH false) (ps.take k) ≤ 240) from fun k => ⟨hO0 k, by have := hOk k; omega⟩)
    clear ip op' hsmI hsmO htx hIk hOk hI0 hO0 fz bz hF hB
    go_wp2
    go_loopw [9, 10, 11] (fun c g i wr => ∃ k : Nat, k ≤ K ∧ i = .int .i64 k ∧ c = .int .i64 (sm (sideH true) (ps.take k)) ∧ g = .int .i64 (sm (sideH false) (ps.take k)) ∧ Below w4.heap.size w4 wr) (fun c g i wr => K - (intOf i).toNat)
    case atStart => exact ⟨0, Nat.zero_le _, rfl, rfl, rfl, Below.refl _ _⟩
    case round =>
      obtain ⟨k, hk, rfl, rfl, rfl, hb⟩ := hrel
      have m0 := (hb.cell (p := ⟨X, 0, none⟩) hl4).trans g0
      have m1 := (hb.cell (p := ⟨X, 1, none⟩) hl4).trans g1
      obtain ⟨hi1, hi2⟩ := HI.out k
      obtain ⟨ho1, ho2⟩ := HO.out k
      by_cases hkl : k < K
      · have hkl' : (k : Int) < (K : Int) := by omega
        have hkp' : (k : Int) < (ps.length : Int) := by omega
        have hp : ps[k]? = some (ps[k]'(by omega)) := List.getElem?_eq_getElem (by omega)
        obtain ⟨a', c', ev', -, -, hr⟩ := HT4.out.below hb
        simp only [Value.slice.injEq] at ev'
        obtain ⟨rfl, -, rfl⟩ := ev'
        rcases hr with rfl | ⟨g', o', rfl, hat⟩
        · simp at hp
        obtain ⟨p0, p1⟩ := hat k _ hp
        have hz1 := side_small HSM.out true _ (List.mem_of_getElem? hp)
        have hz2 := side_small HSM.out false _ (List.mem_of_getElem? hp)
        have hs1 := sm_take (sideH true) ps k _ hp
        have hs2 := sm_take (sideH false) ps k _ hp
        generalize ps[k]'(by omega) = p at hp p0 p1 hz1 hz2 hs1 hs2
        have hz1' : 1 ≤ p.1 ∧ p.1 ≤ 6 := hz1
        have hz2' : 1 ≤ ((p.2.size : Nat) : Int) ∧ ((p.2.size : Nat) : Int) ≤ 6 := hz2
        have HS1 := (show Hid (sm (sideH true) (ps.take (k + 1)) = sm (sideH true) (ps.take k) + p.1) from hs1)
        have HS2 := (show Hid (sm (sideH false) (ps.take (k + 1)) = sm (sideH false) (ps.take k) + ((p.2.size : Nat) : Int)) from hs2)
        have HBW := (show Hid (Below w4.heap.size w4 wr) from hb)
        clear hat hb hz1 hz2 hs1 hs2 hp
        generalize sm (sideH true) (ps.take k) = A at *
        generalize sm (sideH false) (ps.take k) = B at *
        go_wp2
        go_roundw
        case rel => exact ⟨k + 1, by omega, by go_num, by rw [HS1.out], by rw [HS2.out], HBW.out⟩
        case measure => simp [intOf]; omega
      · have hge : (K : Int) ≤ (k : Int) := by omega
        obtain rfl : k = K := by omega
        have HF1 := (show Hid _ from HF.out k)
        have HB1 := (show Hid _ from HBk.out k)
        have HBW := (show Hid (Below w.heap.size w wr) from HB4.out.trans (hb.mono HB4.out.size))
        have HTW := (show Hid (IsT wr (.slice pa ps.length pc) ps) from HT4.out.below hb)
        have HEW := (show Hid (Errs wr) from HE4.out.below hb)
        clear HF HBk HI HO hb
        generalize sm (sideH true) (ps.take k) = A at *
        generalize sm (sideH false) (ps.take k) = B at *
        have hlw : X < wr.heap.size := blk m0
        go_wp2_with fail
        refine (for_stream S _ ps A _ HTW.out HEW.out).mono ?_
        rintro e w6 ⟨rfl, k6⟩
        rw [HF1.out]
        have q0 := (k6.cell (p := ⟨X, 0, none⟩) hlw).trans m0
        have q1 := (k6.cell (p := ⟨X, 1, none⟩) hlw).trans m1
        go_wp2_with fail
        refine (back_stream S _ ps B _ (HTW.out.below k6) (HEW.out.below k6)).mono ?_
        rintro e w7 ⟨rfl, k7⟩
        rw [HB1.out]
        go_wp2
        go_ret
        exact ⟨by first | rfl | simp, (HBW.out.trans (k6.mono HBW.out.size)).trans (k7.mono (by have := HBW.out.size; have := k6.size; omega))⟩
end Go.Proofs.YtcpdkicmmhnpcacGreatDoor.LForSteps

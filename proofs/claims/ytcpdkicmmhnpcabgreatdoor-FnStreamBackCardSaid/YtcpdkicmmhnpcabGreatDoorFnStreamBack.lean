/- The walk of the law on what is known to have come: it answers true. -/
import Derived.Test.YtcpdkicmmhnpcabGreatDoorDrawB
import Derived.Test.YtcpdkicmmhnpcabGreatDoorAc
import Derived.Test.YtcpdkicmmhnpcabGreatDoorSsC
import Derived.Test.YtcpdkicmmhnpcabGreatDoorLaid
import Derived.Test.YtcpdkicmmhnpcabGreatDoorRi
import Derived.Deep.Cut
namespace Go.Proofs.YtcpdkicmmhnpcabGreatDoor.LStreamBack
open Go.RowKit Go.Shelf Go.Proofs.YtcpdkicmmhnpcabGreatDoor.Kit Go.Proofs.YtcpdkicmmhnpcabGreatDoor.Tx Go.Proofs.YtcpdkicmmhnpcabGreatDoor.Nm Go.Proofs.YtcpdkicmmhnpcabGreatDoor.App Go.Proofs.YtcpdkicmmhnpcabGreatDoor.St Go.Proofs.YtcpdkicmmhnpcabGreatDoor.StP
open Go.Proofs.YtcpdkicmmhnpcabGreatDoor.Read (Errs)
set_option linter.unusedSimpArgs false
set_option linter.unusedVariables false

set_option maxHeartbeats 400000 in
theorem long (a0 a1 : Option Addr) (len0 cap0 len1 cap1 : Nat) (w : World) (h : (1048576 : Int) < (len0 : Int)) :
    Calls Tryz.prog 3 #[.slice a0 len0 cap0, .slice a1 len1 cap1] w fun e w' => e = .returned (.bool true) ∧ Below w.heap.size w w' := by
  go_enter Tryz.func3, Tryz.ntmps3
  go_wp2
  go_ret
  exact ⟨rfl, Below.refl _ _⟩
set_option maxHeartbeats 400000 in
theorem long2 (a0 a1 : Option Addr) (len0 cap0 len1 cap1 : Nat) (w : World) (h : (len0 : Int) ≤ 1048576) (h2 : (1048576 : Int) < (len1 : Int)) :
    Calls Tryz.prog 3 #[.slice a0 len0 cap0, .slice a1 len1 cap1] w fun e w' => e = .returned (.bool true) ∧ Below w.heap.size w w' := by
  go_enter Tryz.func3, Tryz.ntmps3
  go_wp2
  go_ret
  exact ⟨rfl, Below.refl _ _⟩

set_option maxRecDepth 8000 in
set_option maxHeartbeats 16000000 in
theorem short (a0 a1 : Option Addr) (len0 cap0 len1 cap1 : Nat) (z : Nat → Int) (w : World) (hc : CodeIn w a0 len0 cap0 z) (h : (len0 : Int) ≤ 1048576) (h2 : (len1 : Int) ≤ 1048576) (herr : Errs w) :
    Calls Tryz.prog 3 #[.slice a0 len0 cap0, .slice a1 len1 cap1] w fun e w' => e = .returned (.bool true) ∧ Below w.heap.size w w' := by
  go_enter Tryz.func3, Tryz.ntmps3
  go_wp2_with fail
  refine (drawStreamBack a0 len0 cap0 z _ hc).mono ?_
  rintro e w1 ⟨S, pv, ps, n, rfl, hT, ⟨hS, hpl, hpb⟩, k1⟩
  obtain ⟨pa, pc, rfl, hT'⟩ := id hT
  clear hT'
  have he1 := herr.below k1
  have bA : Below w1.heap.size w1 (w1.alloc (.cells #[.string S, .slice pa ps.length pc] 25)) := (Below.refl _ _).alloc (Nat.le_refl _) _
  have hps : ∀ p ∈ ps, p.2.size ≤ 1073741824 := fun p hp => by have := (hpb p hp).2; omega
  have HPS := (show Hid (∀ p ∈ ps, p.2.size ≤ 1073741824) from hps)
  have HE := (show Hid (Errs (w1.alloc (.cells #[.string S, .slice pa ps.length pc] 25))) from he1.below bA)
  have HT := (show Hid (IsT (w1.alloc (.cells #[.string S, .slice pa ps.length pc] 25)) (.slice pa ps.length pc) ps) from hT.below bA)
  have HB := (show Hid (Below w.heap.size w (w1.alloc (.cells #[.string S, .slice pa ps.length pc] 25))) from k1.trans (bA.mono k1.size))
  clear hps hpb he1 hT k1 bA herr
  go_wp2_with fail
  refine (back_stream S _ ps n _ HT.out HE.out).mono ?_
  rintro e w2 ⟨rfl, k2⟩
  have c2 := keepc k2 w1.heap.size (by simp)
  have e0 : w2.cell? ⟨w1.heap.size, 0, none⟩ = some (.string S) := by rw [c2 0]; simp [go_sem]
  have e1 : w2.cell? ⟨w1.heap.size, 1, none⟩ = some (.slice pa ps.length pc) := by rw [c2 1]; simp [go_sem]
  have hl2 : w1.heap.size < w2.heap.size := by have := k2.size; simp at this; omega
  have HT2 := (show Hid (IsT w2 (.slice pa ps.length pc) ps) from HT.out.below k2)
  have HE2 := (show Hid (Errs w2) from HE.out.below k2)
  have HB2 := (show Hid (Below w.heap.size w w2) from HB.out.trans (k2.mono HB.out.size))
  clear k2 c2 HT HE HB
  obtain ⟨X, hX⟩ : ∃ X, w1.heap.size = X := ⟨_, rfl⟩
  obtain ⟨N, hN⟩ : ∃ N, backZ S ps n = N := ⟨_, rfl⟩
  rw [hX] at e0 e1 hl2 ⊢
  rw [hN]
  have HN := (show Hid (backZ S ps n = N) from hN)
  clear hX hN
  go_wp2_with fail
  refine (StS.sback_any S _ ps n _ HT2.out (by omega) HPS.out).mono ?_
  rintro e w3 ⟨rfl, k3⟩
  rw [HN.out]
  have f0 := (k3.cell (p := ⟨X, 0, none⟩) hl2).trans e0
  have f1 := (k3.cell (p := ⟨X, 1, none⟩) hl2).trans e1
  have hl3 : X < w3.heap.size := by have := k3.size; omega
  have HT3 := (show Hid (IsT w3 (.slice pa ps.length pc) ps) from HT2.out.below k3)
  have HE3 := (show Hid (Errs w3) from HE2.out.below k3)
  have HB3 := (show Hid (Below w.heap.size w w3) from HB2.out.trans (k3.mono HB2.out.size))
  clear k3 e0 e1 HT2 HE2 HB2
  go_wp2_with fail
  refine (StS.sstream_any S _ ps _ HT3.out (by omega) HPS.out).mono ?_
  rintro e w4 ⟨rfl, k4⟩
  have g0 := (k4.cell (p := ⟨X, 0, none⟩) hl3).trans f0
  have g1 := (k4.cell (p := ⟨X, 1, none⟩) hl3).trans f1
  have hl4 : X < w4.heap.size := by have := k4.size; omega
  have HT4 := (show Hid (IsT w4 (.slice pa ps.length pc) ps) from HT3.out.below k4)
  have HE4 := (show Hid (Errs w4) from HE3.out.below k4)
  have HB4 := (show Hid (Below w.heap.size w w4) from HB3.out.trans (k4.mono HB3.out.size))
  clear k4 f0 f1 HT3 HE3 HB3
  cases hst : stB S ps
  · go_wp2_with fail
    refine (StS.sback_any S _ ps n _ HT4.out (by omega) HPS.out).mono ?_
    rintro e w5 ⟨rfl, k5⟩
    rw [HN.out]
    go_wp2
    go_ret
    exact ⟨by first | rfl | simp, HB4.out.trans (k5.mono HB4.out.size)⟩
  · have HST := (show Hid (stB S ps = true) from hst)
    have hsm := stB_small hst
    have HSM := (show Hid (Small ps) from hsm)
    clear hst hsm
    by_cases hn0 : n < 0
    · go_wp2_with fail
      refine (StS.sback_any S _ ps n _ HT4.out (by omega) HPS.out).mono ?_
      rintro e w5 ⟨rfl, k5⟩
      rw [HN.out]
      go_wp2
      go_ret
      exact ⟨by first | rfl | simp, HB4.out.trans (k5.mono HB4.out.size)⟩
    · have hn0' : ¬ n < 0 := hn0
      obtain ⟨O, hO0⟩ : ∃ O, outB S ps = O := ⟨_, rfl⟩
      obtain ⟨OS, hO1⟩ : ∃ OS, O.size = OS := ⟨_, rfl⟩
      have hOt : sm (sideH false) ps = (OS : Int) := by rw [sm_out, ← outB_ok HST.out, hO0, hO1]
      have hOSb : OS ≤ 240 := by
        have h1 := txW_small HSM.out
        have h2 := HSM.out.1
        have e : (txW ps).size = OS := by rw [← outB_ok HST.out, hO0, hO1]
        omega
      have HO0 := (show Hid (outB S ps = O) from hO0)
      have HO1 := (show Hid (O.size = OS) from hO1)
      have HOT := (show Hid (sm (sideH false) ps = (OS : Int)) from hOt)
      clear hO0 hOt hO1
      go_wp2_with fail
      refine (out_stream S _ ps _ HT4.out HE4.out).mono ?_
      rintro e w5 ⟨rfl, k5⟩
      rw [HO0.out]
      have hO1 := HO1.out
      have p0 := (k5.cell (p := ⟨X, 0, none⟩) hl4).trans g0
      have p1 := (k5.cell (p := ⟨X, 1, none⟩) hl4).trans g1
      have hl5 : X < w5.heap.size := by have := k5.size; omega
      have HT5 := (show Hid (IsT w5 (.slice pa ps.length pc) ps) from HT4.out.below k5)
      have HE5 := (show Hid (Errs w5) from HE4.out.below k5)
      have HB5 := (show Hid (Below w.heap.size w w5) from HB4.out.trans (k5.mono HB4.out.size))
      clear k5 g0 g1 HT4 HE4 HB4
      by_cases hn1 : (OS : Int) < n
      · go_wp2_with fail
        refine (StS.sback_any S _ ps n _ HT5.out (by omega) HPS.out).mono ?_
        rintro e w9 ⟨rfl, k9⟩
        rw [HN.out]
        go_wp2
        go_ret
        exact ⟨by first | rfl | simp, HB5.out.trans (k9.mono HB5.out.size)⟩
      · have hn1' : ¬ (OS : Int) < n := hn1
        have hmod0 := Int.emod_nonneg (len1 : Int) (show (n + 1) ≠ 0 by omega)
        have hmod1 := Int.emod_lt_of_pos (len1 : Int) (show (0 : Int) < n + 1 by omega)
        go_wp2_with fail
        refine (out_stream S _ ps _ HT5.out HE5.out).mono ?_
        rintro e w6 ⟨rfl, k6⟩
        rw [HO0.out]
        have q0 := (k6.cell (p := ⟨X, 0, none⟩) hl5).trans p0
        have q1 := (k6.cell (p := ⟨X, 1, none⟩) hl5).trans p1
        have hl6 : X < w6.heap.size := by have := k6.size; omega
        have HT6 := (show Hid (IsT w6 (.slice pa ps.length pc) ps) from HT5.out.below k6)
        have HE6 := (show Hid (Errs w6) from HE5.out.below k6)
        have HB6 := (show Hid (Below w.heap.size w w6) from HB5.out.trans (k6.mono HB5.out.size))
        clear k6 p0 p1 HT5 HE5 HB5
        go_wp2_with fail
        obtain ⟨M, hM⟩ : ∃ M, (len1 : Int) % (n + 1) = M := ⟨_, rfl⟩
        rw [hM] at hmod0 hmod1
        rw [hM]
        have hOt := HOT.out
        have hHo : hdN S.data.toList = heldN S.data.toList := hd_ok _ (stB_parts.1 HST.out).1
        obtain ⟨H, hH1⟩ : ∃ H, hdN S.data.toList = H := ⟨_, rfl⟩
        have hH := (show Hid (hdN S.data.toList = H) from hH1)
        have hHl : H ≤ S.size := by rw [← hH1, hHo, ← lenL]; exact heldN_len _
        have hIn : sm (sideH true) ps = (S.size : Int) - (H : Int) := by rw [sm_in HST.out, ← hHo, hH1]
        obtain ⟨D, hD⟩ : ∃ D, S.size - H = D := ⟨_, rfl⟩
        have hDi : (S.size : Int) - (H : Int) = (D : Int) := by omega
        have hwD : IntKind.i64.wrap ((S.size : Int) - (H : Int)) = (D : Int) := by simp [IntKind.wrap, IntKind.bits, IntKind.signed]; omega
        have ip := in_pos HSM.out
        have op' := out_pos HSM.out
        have fz : ∀ m : Int, 0 ≤ m → m ≤ (S.size : Int) → forZ S ps m = acr (sideH true) (sideH false) ps m := fun m h0 h1 => if_pos ⟨HST.out, h0, h1⟩
        have bz : ∀ m : Int, 0 ≤ m → m ≤ (OS : Int) → backZ S ps m = acr (sideH false) (sideH true) ps m := fun m h0 h1 => if_pos ⟨HST.out, h0, by rw [← sm_out, hOt]; exact h1⟩
        obtain ⟨k, hk1, hk2, hk3, hk4⟩ := acr_k (t := sideH true) ps op' n (by omega)
        have hNa : N = acr (sideH false) (sideH true) ps n := by rw [← HN.out]; exact bz n (by omega) (by omega)
        have hNe : N = sm (sideH true) (ps.take k) := hNa.trans hk2
        have hN0 : 0 ≤ N := by rw [hNe]; exact sm_nonneg _ _ fun q hq => ip q (List.mem_of_mem_take hq)
        have hN1 : N ≤ (S.size : Int) := by have := sm_le _ ps ip k; omega
        obtain ⟨FN, hFN⟩ : ∃ FN, forZ S ps N = FN := ⟨_, rfl⟩
        have hle1 : FN ≤ n := by rw [← hFN, fz N hN0 hN1, hNe, acr_part ps ip k]; exact hk3
        obtain ⟨BM, hBM⟩ : ∃ BM, backZ S ps M = BM := ⟨_, rfl⟩
        have hle2 : BM ≤ N := by rw [← hBM, bz M hmod0 (by omega), hNa]; exact acr_mono ps op' ip M n hmod0 (by omega)
        have hbO : backZ S ps (OS : Nat) = (D : Int) := by rw [bz _ (by omega) (by omega), acr_full ps op' _ (by omega)]; omega
        have hb0 : backZ S ps 0 = 0 := by rw [bz 0 (by omega) (by omega)]; exact acr_zero ps op'
        clear hM hOt hHo hH1 hIn hD hDi ip op' fz bz hk1 hk2 hk3 hk4 hNa hNe hN0 hN1
        have hmix : Tryz.prog.follows .mixedOrders = true := by kernel_rfl
        obtain ⟨VV, hVV⟩ : ∃ VV : Nat → Value, VV = fun j => [(.agg #[.string S, .slice pa ps.length pc] : Value), .int .i64 (N), .int .i64 (FN), .int .i64 (n), .bool true, .bool true, .agg #[.string S, .slice pa ps.length pc], .int .i64 (M), .int .i64 (BM), .int .i64 (N), .bool true, .bool true, .bool true, .agg #[.string S, .slice pa ps.length pc], .int .i64 ((OS : Nat)), .int .i64 ((D : Nat)), .pointer (some ⟨X, 0, none⟩), .string S, .int .i64 ((S.size : Nat)), .pointer (some ⟨X, 0, none⟩), .string S, .int .i64 ((H : Nat)), .int .i64 ((D : Nat)), .bool true, .bool true, .bool true, .agg #[.string S, .slice pa ps.length pc], .int .i64 (0), .bool true, .bool true, .bool true].getD j undef := ⟨_, rfl⟩
        have V0 : VV 0 = .agg #[.string S, .slice pa ps.length pc] := by rw [hVV]; rfl
        have V1 : VV 1 = .int .i64 (N) := by rw [hVV]; rfl
        have V2 : VV 2 = .int .i64 (FN) := by rw [hVV]; rfl
        have V3 : VV 3 = .int .i64 (n) := by rw [hVV]; rfl
        have V4 : VV 4 = .bool true := by rw [hVV]; rfl
        have V5 : VV 5 = .bool true := by rw [hVV]; rfl
        have V6 : VV 6 = .agg #[.string S, .slice pa ps.length pc] := by rw [hVV]; rfl
        have V7 : VV 7 = .int .i64 (M) := by rw [hVV]; rfl
        have V8 : VV 8 = .int .i64 (BM) := by rw [hVV]; rfl
        have V9 : VV 9 = .int .i64 (N) := by rw [hVV]; rfl
        have V10 : VV 10 = .bool true := by rw [hVV]; rfl
        have V11 : VV 11 = .bool true := by rw [hVV]; rfl
        have V12 : VV 12 = .bool true := by rw [hVV]; rfl
        have V13 : VV 13 = .agg #[.string S, .slice pa ps.length pc] := by rw [hVV]; rfl
        have V14 : VV 14 = .int .i64 ((OS : Nat)) := by rw [hVV]; rfl
        have V15 : VV 15 = .int .i64 ((D : Nat)) := by rw [hVV]; rfl
        have V16 : VV 16 = .pointer (some ⟨X, 0, none⟩) := by rw [hVV]; rfl
        have V17 : VV 17 = .string S := by rw [hVV]; rfl
        have V18 : VV 18 = .int .i64 ((S.size : Nat)) := by rw [hVV]; rfl
        have V19 : VV 19 = .pointer (some ⟨X, 0, none⟩) := by rw [hVV]; rfl
        have V20 : VV 20 = .string S := by rw [hVV]; rfl
        have V21 : VV 21 = .int .i64 ((H : Nat)) := by rw [hVV]; rfl
        have V22 : VV 22 = .int .i64 ((D : Nat)) := by rw [hVV]; rfl
        have V23 : VV 23 = .bool true := by rw [hVV]; rfl
        have V24 : VV 24 = .bool true := by rw [hVV]; rfl
        have V25 : VV 25 = .bool true := by rw [hVV]; rfl
        have V26 : VV 26 = .agg #[.string S, .slice pa ps.length pc] := by rw [hVV]; rfl
        have V27 : VV 27 = .int .i64 (0) := by rw [hVV]; rfl
        have V28 : VV 28 = .bool true := by rw [hVV]; rfl
        have V29 : VV 29 = .bool true := by rw [hVV]; rfl
        have V30 : VV 30 = .bool true := by rw [hVV]; rfl
        clear hVV
        refine wp_region_any hmix ?_
        refine Ri.any_inv (I := fun l a' w' => l.size = 31 ∧ ∃ t : Nat → Value, a' = { tmps := #[.slice a0 len0 cap0, .slice a1 len1 cap1, undef, undef, t 30, .pointer (some ⟨X, 0, none⟩), .int .i64 (n), .int .i64 (N), .int .i64 (M), .int .i64 ((OS : Nat)), .slice a0 len0 cap0, .int .i64 ((len0 : Nat)), .bool (decide ((1048576 : Int) < (len0 : Int))), .bool (decide ((1048576 : Int) < (len0 : Int))), .slice a1 len1 cap1, .int .i64 ((len1 : Nat)), .bool (decide ((1048576 : Int) < (len1 : Int))), .bool (decide ((1048576 : Int) < (len0 : Int)) || decide ((1048576 : Int) < (len1 : Int))), .tuple #[.agg #[.string S, .slice pa ps.length pc], .int .i64 n], .slice a0 len0 cap0, .tuple #[.agg #[.string S, .slice pa ps.length pc], .int .i64 n], .agg #[.string S, .slice pa ps.length pc], .int .i64 (n), .agg #[.string S, .slice pa ps.length pc], .int .i64 (n), .int .i64 (N), .int .i64 (N), .agg #[.string S, .slice pa ps.length pc], .int .i64 (n), .int .i64 (N), .bool false, .bool false, .agg #[.string S, .slice pa ps.length pc], .bool true, .bool false, .bool false, .bool false, .int .i64 (n), .bool (decide (n < 0)), .bool (decide (n < 0)), .bool (decide (n < 0)), .int .i64 (n), .agg #[.string S, .slice pa ps.length pc], .string O, .int .i64 ((OS : Nat)), .bool (decide ((OS : Int) < n)), .bool (decide (n < 0) || decide ((OS : Int) < n)), undef, undef, undef, undef, undef, .slice a1 len1 cap1, .int .i64 ((len1 : Nat)), .int .i64 (n), .int .i64 (n + 1), .int .i64 (M), .agg #[.string S, .slice pa ps.length pc], .string O, .int .i64 ((OS : Nat)), t 0, t 1, t 2, t 3, t 4, t 5, t 6, t 7, t 8, t 9, t 10, t 11, t 12, t 13, t 14, t 15, t 16, t 17, t 18, t 19, t 20, t 21, t 22, t 23, t 24, t 25, t 26, t 27, t 28, t 29], defers := [] } ∧ Rg.Vals l VV t ∧ Hid (Below w6.heap.size w6 w')) ?sz ?low ?step ?fin _ _ _ _ ?start (Ri.closed_none _ _ _) (Rg.left_all _)
        case sz => exact fun l a' w' h => h.1
        case start => exact ⟨by simp, fun j => ([undef, undef, undef, undef, undef, undef, undef, undef, undef, undef, undef, undef, undef, undef, undef, undef, undef, undef, undef, undef, undef, undef, undef, undef, undef, undef, undef, undef, undef, undef, .bool false] : List Value).getD j undef, rfl, Rg.vals_none _ _ _, (Below.refl _ _).drew⟩
        case low => exact Ri.low_of (by kernel_rfl)
        case step =>
          rintro l a' w' i ⟨hsz, t, rfl, hv, HW⟩ hcl hi
          obtain ⟨h0, op, ho, hd⟩ := mem_ready.1 hi
          have hin : i < 31 := (Array.getElem?_eq_some_iff.1 ho).1
          clear h0 hi hcl
          have hc : i = 0 ∨ i = 1 ∨ i = 2 ∨ i = 3 ∨ i = 4 ∨ i = 5 ∨ i = 6 ∨ i = 7 ∨ i = 8 ∨ i = 9 ∨ i = 10 ∨ i = 11 ∨ i = 12 ∨ i = 13 ∨ i = 14 ∨ i = 15 ∨ i = 16 ∨ i = 17 ∨ i = 18 ∨ i = 19 ∨ i = 20 ∨ i = 21 ∨ i = 22 ∨ i = 23 ∨ i = 24 ∨ i = 25 ∨ i = 26 ∨ i = 27 ∨ i = 28 ∨ i = 29 ∨ i = 30 := by omega
          rcases hc with rfl | rfl | rfl | rfl | rfl | rfl | rfl | rfl | rfl | rfl | rfl | rfl | rfl | rfl | rfl | rfl | rfl | rfl | rfl | rfl | rfl | rfl | rfl | rfl | rfl | rfl | rfl | rfl | rfl | rfl | rfl
          · obtain rfl : _ = op := Option.some.inj (show some _ = some op from ho)
            have yq0 : w'.cell? ⟨X, 0, none⟩ = some (.string S) := (HW.out.cell (p := ⟨X, 0, none⟩) hl6).trans q0
            have yq1 : w'.cell? ⟨X, 1, none⟩ = some (.slice pa ps.length pc) := (HW.out.cell (p := ⟨X, 1, none⟩) hl6).trans q1
            have HV := (show Hid (Rg.Vals l VV t) from hv)
            clear hv hd ho
            refine wpOp_step rfl fun K9 hK9 => ?_
            have HKK := (show Hid _ from hK9)
            clear hK9
            go_simp
            exact HKK.out _ _ ⟨by simp [hsz], fun j => if j = 0 then .agg #[.string S, .slice pa ps.length pc] else t j, by simp, HV.out.put 0 _ V0.symm, HW⟩
          · obtain rfl : _ = op := Option.some.inj (show some _ = some op from ho)
            have HV := (show Hid (Rg.Vals l VV t) from hv)
            clear hv hd ho
            refine wpOp_step rfl fun K9 hK9 => ?_
            have HKK := (show Hid _ from hK9)
            clear hK9
            go_simp
            exact HKK.out _ _ ⟨by simp [hsz], fun j => if j = 1 then .int .i64 (N) else t j, by simp, HV.out.put 1 _ V1.symm, HW⟩
          · obtain rfl : _ = op := Option.some.inj (show some _ = some op from ho)
            have e0 : t 0 = .agg #[.string S, .slice pa ps.length pc] := (hv 0 (hd { on := 0, ground := .data } (by simp) rfl)).trans V0
            have e1 : t 1 = .int .i64 (N) := (hv 1 (hd { on := 1, ground := .data } (by simp) rfl)).trans V1
            have HV := (show Hid (Rg.Vals l VV t) from hv)
            clear hv hd ho
            refine wpOp_step rfl fun K9 hK9 => ?_
            have HKK := (show Hid _ from hK9)
            clear hK9
            go_simp
            refine (for_stream S _ ps (N) _ (HT6.out.below HW.out) (HE6.out.below HW.out)).mono ?_
            rintro e w9 ⟨rfl, k9⟩
            refine HKK.out _ _ ⟨by simp [hsz], fun j => if j = 2 then .int .i64 (FN) else t j, by simp [e0, e1, hFN], HV.out.put 2 _ V2.symm, HW.out.trans (k9.mono HW.out.size)⟩
          · obtain rfl : _ = op := Option.some.inj (show some _ = some op from ho)
            have HV := (show Hid (Rg.Vals l VV t) from hv)
            clear hv hd ho
            refine wpOp_step rfl fun K9 hK9 => ?_
            have HKK := (show Hid _ from hK9)
            clear hK9
            go_simp
            exact HKK.out _ _ ⟨by simp [hsz], fun j => if j = 3 then .int .i64 (n) else t j, by simp, HV.out.put 3 _ V3.symm, HW⟩
          · obtain rfl : _ = op := Option.some.inj (show some _ = some op from ho)
            have e2 : t 2 = .int .i64 (FN) := (hv 2 (hd { on := 2, ground := .data } (by simp) rfl)).trans V2
            have e3 : t 3 = .int .i64 (n) := (hv 3 (hd { on := 3, ground := .data } (by simp) rfl)).trans V3
            have HV := (show Hid (Rg.Vals l VV t) from hv)
            clear hv hd ho
            refine wpOp_step rfl fun K9 hK9 => ?_
            have HKK := (show Hid _ from hK9)
            clear hK9
            go_simp
            exact HKK.out _ _ ⟨by simp [hsz], fun j => if j = 4 then .bool true else t j, by simp [e2, e3, hle1], HV.out.put 4 _ V4.symm, HW⟩
          · obtain rfl : _ = op := Option.some.inj (show some _ = some op from ho)
            have e4 : t 4 = .bool true := (hv 4 (hd { on := 4, ground := .data } (by simp) rfl)).trans V4
            have HV := (show Hid (Rg.Vals l VV t) from hv)
            clear hv hd ho
            refine wpOp_step rfl fun K9 hK9 => ?_
            have HKK := (show Hid _ from hK9)
            clear hK9
            go_simp
            exact HKK.out _ _ ⟨by simp [hsz], fun j => if j = 5 then .bool true else t j, by simp [e4], HV.out.put 5 _ V5.symm, HW⟩
          · obtain rfl : _ = op := Option.some.inj (show some _ = some op from ho)
            have e5 : t 5 = .bool true := (hv 5 (hd { on := 5, ground := .guard } (by simp) rfl)).trans V5
            have yq0 : w'.cell? ⟨X, 0, none⟩ = some (.string S) := (HW.out.cell (p := ⟨X, 0, none⟩) hl6).trans q0
            have yq1 : w'.cell? ⟨X, 1, none⟩ = some (.slice pa ps.length pc) := (HW.out.cell (p := ⟨X, 1, none⟩) hl6).trans q1
            have HV := (show Hid (Rg.Vals l VV t) from hv)
            clear hv hd ho
            refine wpOp_step rfl fun K9 hK9 => ?_
            have HKK := (show Hid _ from hK9)
            clear hK9
            go_simp
            exact HKK.out _ _ ⟨by simp [hsz], fun j => if j = 6 then .agg #[.string S, .slice pa ps.length pc] else t j, by simp [e5], HV.out.put 6 _ V6.symm, HW⟩
          · obtain rfl : _ = op := Option.some.inj (show some _ = some op from ho)
            have e5 : t 5 = .bool true := (hv 5 (hd { on := 5, ground := .guard } (by simp) rfl)).trans V5
            have HV := (show Hid (Rg.Vals l VV t) from hv)
            clear hv hd ho
            refine wpOp_step rfl fun K9 hK9 => ?_
            have HKK := (show Hid _ from hK9)
            clear hK9
            go_simp
            exact HKK.out _ _ ⟨by simp [hsz], fun j => if j = 7 then .int .i64 (M) else t j, by simp [e5], HV.out.put 7 _ V7.symm, HW⟩
          · obtain rfl : _ = op := Option.some.inj (show some _ = some op from ho)
            have e6 : t 6 = .agg #[.string S, .slice pa ps.length pc] := (hv 6 (hd { on := 6, ground := .data } (by simp) rfl)).trans V6
            have e7 : t 7 = .int .i64 (M) := (hv 7 (hd { on := 7, ground := .data } (by simp) rfl)).trans V7
            have e5 : t 5 = .bool true := (hv 5 (hd { on := 5, ground := .guard } (by simp) rfl)).trans V5
            have HV := (show Hid (Rg.Vals l VV t) from hv)
            clear hv hd ho
            refine wpOp_step rfl fun K9 hK9 => ?_
            have HKK := (show Hid _ from hK9)
            clear hK9
            go_simp
            refine (back_stream S _ ps (M) _ (HT6.out.below HW.out) (HE6.out.below HW.out)).mono ?_
            rintro e w9 ⟨rfl, k9⟩
            refine HKK.out _ _ ⟨by simp [hsz], fun j => if j = 8 then .int .i64 (BM) else t j, by simp [e6, e7, e5, hBM], HV.out.put 8 _ V8.symm, HW.out.trans (k9.mono HW.out.size)⟩
          · obtain rfl : _ = op := Option.some.inj (show some _ = some op from ho)
            have e5 : t 5 = .bool true := (hv 5 (hd { on := 5, ground := .guard } (by simp) rfl)).trans V5
            have HV := (show Hid (Rg.Vals l VV t) from hv)
            clear hv hd ho
            refine wpOp_step rfl fun K9 hK9 => ?_
            have HKK := (show Hid _ from hK9)
            clear hK9
            go_simp
            exact HKK.out _ _ ⟨by simp [hsz], fun j => if j = 9 then .int .i64 (N) else t j, by simp [e5], HV.out.put 9 _ V9.symm, HW⟩
          · obtain rfl : _ = op := Option.some.inj (show some _ = some op from ho)
            have e8 : t 8 = .int .i64 (BM) := (hv 8 (hd { on := 8, ground := .data } (by simp) rfl)).trans V8
            have e9 : t 9 = .int .i64 (N) := (hv 9 (hd { on := 9, ground := .data } (by simp) rfl)).trans V9
            have e5 : t 5 = .bool true := (hv 5 (hd { on := 5, ground := .guard } (by simp) rfl)).trans V5
            have HV := (show Hid (Rg.Vals l VV t) from hv)
            clear hv hd ho
            refine wpOp_step rfl fun K9 hK9 => ?_
            have HKK := (show Hid _ from hK9)
            clear hK9
            go_simp
            exact HKK.out _ _ ⟨by simp [hsz], fun j => if j = 10 then .bool true else t j, by simp [e8, e9, e5, hle2], HV.out.put 10 _ V10.symm, HW⟩
          · obtain rfl : _ = op := Option.some.inj (show some _ = some op from ho)
            have e5 : t 5 = .bool true := (hv 5 (hd { on := 5, ground := .data } (by simp) rfl)).trans V5
            have e10 : t 10 = .bool true := (hv 10 (hd { on := 10, ground := .data } (by simp) rfl)).trans V10
            have HV := (show Hid (Rg.Vals l VV t) from hv)
            clear hv hd ho
            refine wpOp_step rfl fun K9 hK9 => ?_
            have HKK := (show Hid _ from hK9)
            clear hK9
            go_simp
            exact HKK.out _ _ ⟨by simp [hsz], fun j => if j = 11 then .bool true else t j, by simp [e5, e10], HV.out.put 11 _ V11.symm, HW⟩
          · obtain rfl : _ = op := Option.some.inj (show some _ = some op from ho)
            have e11 : t 11 = .bool true := (hv 11 (hd { on := 11, ground := .data } (by simp) rfl)).trans V11
            have HV := (show Hid (Rg.Vals l VV t) from hv)
            clear hv hd ho
            refine wpOp_step rfl fun K9 hK9 => ?_
            have HKK := (show Hid _ from hK9)
            clear hK9
            go_simp
            exact HKK.out _ _ ⟨by simp [hsz], fun j => if j = 12 then .bool true else t j, by simp [e11], HV.out.put 12 _ V12.symm, HW⟩
          · obtain rfl : _ = op := Option.some.inj (show some _ = some op from ho)
            have e12 : t 12 = .bool true := (hv 12 (hd { on := 12, ground := .guard } (by simp) rfl)).trans V12
            have yq0 : w'.cell? ⟨X, 0, none⟩ = some (.string S) := (HW.out.cell (p := ⟨X, 0, none⟩) hl6).trans q0
            have yq1 : w'.cell? ⟨X, 1, none⟩ = some (.slice pa ps.length pc) := (HW.out.cell (p := ⟨X, 1, none⟩) hl6).trans q1
            have HV := (show Hid (Rg.Vals l VV t) from hv)
            clear hv hd ho
            refine wpOp_step rfl fun K9 hK9 => ?_
            have HKK := (show Hid _ from hK9)
            clear hK9
            go_simp
            exact HKK.out _ _ ⟨by simp [hsz], fun j => if j = 13 then .agg #[.string S, .slice pa ps.length pc] else t j, by simp [e12], HV.out.put 13 _ V13.symm, HW⟩
          · obtain rfl : _ = op := Option.some.inj (show some _ = some op from ho)
            have e12 : t 12 = .bool true := (hv 12 (hd { on := 12, ground := .guard } (by simp) rfl)).trans V12
            have HV := (show Hid (Rg.Vals l VV t) from hv)
            clear hv hd ho
            refine wpOp_step rfl fun K9 hK9 => ?_
            have HKK := (show Hid _ from hK9)
            clear hK9
            go_simp
            exact HKK.out _ _ ⟨by simp [hsz], fun j => if j = 14 then .int .i64 ((OS : Nat)) else t j, by simp [e12], HV.out.put 14 _ V14.symm, HW⟩
          · obtain rfl : _ = op := Option.some.inj (show some _ = some op from ho)
            have e13 : t 13 = .agg #[.string S, .slice pa ps.length pc] := (hv 13 (hd { on := 13, ground := .data } (by simp) rfl)).trans V13
            have e14 : t 14 = .int .i64 ((OS : Nat)) := (hv 14 (hd { on := 14, ground := .data } (by simp) rfl)).trans V14
            have e12 : t 12 = .bool true := (hv 12 (hd { on := 12, ground := .guard } (by simp) rfl)).trans V12
            have HV := (show Hid (Rg.Vals l VV t) from hv)
            clear hv hd ho
            refine wpOp_step rfl fun K9 hK9 => ?_
            have HKK := (show Hid _ from hK9)
            clear hK9
            go_simp
            refine (back_stream S _ ps ((OS : Nat)) _ (HT6.out.below HW.out) (HE6.out.below HW.out)).mono ?_
            rintro e w9 ⟨rfl, k9⟩
            refine HKK.out _ _ ⟨by simp [hsz], fun j => if j = 15 then .int .i64 ((D : Nat)) else t j, by simp [e13, e14, e12, hbO], HV.out.put 15 _ V15.symm, HW.out.trans (k9.mono HW.out.size)⟩
          · obtain rfl : _ = op := Option.some.inj (show some _ = some op from ho)
            have e12 : t 12 = .bool true := (hv 12 (hd { on := 12, ground := .guard } (by simp) rfl)).trans V12
            have HV := (show Hid (Rg.Vals l VV t) from hv)
            clear hv hd ho
            refine wpOp_step rfl fun K9 hK9 => ?_
            have HKK := (show Hid _ from hK9)
            clear hK9
            go_simp
            exact HKK.out _ _ ⟨by simp [hsz], fun j => if j = 16 then .pointer (some ⟨X, 0, none⟩) else t j, by simp [e12], HV.out.put 16 _ V16.symm, HW⟩
          · obtain rfl : _ = op := Option.some.inj (show some _ = some op from ho)
            have e16 : t 16 = .pointer (some ⟨X, 0, none⟩) := (hv 16 (hd { on := 16, ground := .data } (by simp) rfl)).trans V16
            have e12 : t 12 = .bool true := (hv 12 (hd { on := 12, ground := .guard } (by simp) rfl)).trans V12
            have yq0 : w'.cell? ⟨X, 0, none⟩ = some (.string S) := (HW.out.cell (p := ⟨X, 0, none⟩) hl6).trans q0
            have yq1 : w'.cell? ⟨X, 1, none⟩ = some (.slice pa ps.length pc) := (HW.out.cell (p := ⟨X, 1, none⟩) hl6).trans q1
            have HV := (show Hid (Rg.Vals l VV t) from hv)
            clear hv hd ho
            refine wpOp_step rfl fun K9 hK9 => ?_
            have HKK := (show Hid _ from hK9)
            clear hK9
            go_simp
            exact HKK.out _ _ ⟨by simp [hsz], fun j => if j = 17 then .string S else t j, by simp [e16, e12], HV.out.put 17 _ V17.symm, HW⟩
          · obtain rfl : _ = op := Option.some.inj (show some _ = some op from ho)
            have e17 : t 17 = .string S := (hv 17 (hd { on := 17, ground := .data } (by simp) rfl)).trans V17
            have e12 : t 12 = .bool true := (hv 12 (hd { on := 12, ground := .guard } (by simp) rfl)).trans V12
            have HV := (show Hid (Rg.Vals l VV t) from hv)
            clear hv hd ho
            refine wpOp_step rfl fun K9 hK9 => ?_
            have HKK := (show Hid _ from hK9)
            clear hK9
            go_simp
            exact HKK.out _ _ ⟨by simp [hsz], fun j => if j = 18 then .int .i64 ((S.size : Nat)) else t j, by simp [e17, e12], HV.out.put 18 _ V18.symm, HW⟩
          · obtain rfl : _ = op := Option.some.inj (show some _ = some op from ho)
            have e12 : t 12 = .bool true := (hv 12 (hd { on := 12, ground := .guard } (by simp) rfl)).trans V12
            have HV := (show Hid (Rg.Vals l VV t) from hv)
            clear hv hd ho
            refine wpOp_step rfl fun K9 hK9 => ?_
            have HKK := (show Hid _ from hK9)
            clear hK9
            go_simp
            exact HKK.out _ _ ⟨by simp [hsz], fun j => if j = 19 then .pointer (some ⟨X, 0, none⟩) else t j, by simp [e12], HV.out.put 19 _ V19.symm, HW⟩
          · obtain rfl : _ = op := Option.some.inj (show some _ = some op from ho)
            have e19 : t 19 = .pointer (some ⟨X, 0, none⟩) := (hv 19 (hd { on := 19, ground := .data } (by simp) rfl)).trans V19
            have e12 : t 12 = .bool true := (hv 12 (hd { on := 12, ground := .guard } (by simp) rfl)).trans V12
            have yq0 : w'.cell? ⟨X, 0, none⟩ = some (.string S) := (HW.out.cell (p := ⟨X, 0, none⟩) hl6).trans q0
            have yq1 : w'.cell? ⟨X, 1, none⟩ = some (.slice pa ps.length pc) := (HW.out.cell (p := ⟨X, 1, none⟩) hl6).trans q1
            have HV := (show Hid (Rg.Vals l VV t) from hv)
            clear hv hd ho
            refine wpOp_step rfl fun K9 hK9 => ?_
            have HKK := (show Hid _ from hK9)
            clear hK9
            go_simp
            exact HKK.out _ _ ⟨by simp [hsz], fun j => if j = 20 then .string S else t j, by simp [e19, e12], HV.out.put 20 _ V20.symm, HW⟩
          · obtain rfl : _ = op := Option.some.inj (show some _ = some op from ho)
            have e20 : t 20 = .string S := (hv 20 (hd { on := 20, ground := .data } (by simp) rfl)).trans V20
            have e12 : t 12 = .bool true := (hv 12 (hd { on := 12, ground := .guard } (by simp) rfl)).trans V12
            have HV := (show Hid (Rg.Vals l VV t) from hv)
            clear hv hd ho
            refine wpOp_step rfl fun K9 hK9 => ?_
            have HKK := (show Hid _ from hK9)
            clear hK9
            go_simp
            refine (LzP.held_is S H hH.out _).mono ?_
            rintro e w9 ⟨rfl, k9⟩
            refine HKK.out _ _ ⟨by simp [hsz], fun j => if j = 21 then .int .i64 ((H : Nat)) else t j, by simp [e20, e12], HV.out.put 21 _ V21.symm, HW.out.trans (k9.mono HW.out.size)⟩
          · obtain rfl : _ = op := Option.some.inj (show some _ = some op from ho)
            have e18 : t 18 = .int .i64 ((S.size : Nat)) := (hv 18 (hd { on := 18, ground := .data } (by simp) rfl)).trans V18
            have e21 : t 21 = .int .i64 ((H : Nat)) := (hv 21 (hd { on := 21, ground := .data } (by simp) rfl)).trans V21
            have e12 : t 12 = .bool true := (hv 12 (hd { on := 12, ground := .guard } (by simp) rfl)).trans V12
            have HV := (show Hid (Rg.Vals l VV t) from hv)
            clear hv hd ho
            refine wpOp_step rfl fun K9 hK9 => ?_
            have HKK := (show Hid _ from hK9)
            clear hK9
            go_simp
            exact HKK.out _ _ ⟨by simp [hsz], fun j => if j = 22 then .int .i64 ((D : Nat)) else t j, by simp [e18, e21, e12, hwD], HV.out.put 22 _ V22.symm, HW⟩
          · obtain rfl : _ = op := Option.some.inj (show some _ = some op from ho)
            have e15 : t 15 = .int .i64 ((D : Nat)) := (hv 15 (hd { on := 15, ground := .data } (by simp) rfl)).trans V15
            have e22 : t 22 = .int .i64 ((D : Nat)) := (hv 22 (hd { on := 22, ground := .data } (by simp) rfl)).trans V22
            have e12 : t 12 = .bool true := (hv 12 (hd { on := 12, ground := .guard } (by simp) rfl)).trans V12
            have HV := (show Hid (Rg.Vals l VV t) from hv)
            clear hv hd ho
            refine wpOp_step rfl fun K9 hK9 => ?_
            have HKK := (show Hid _ from hK9)
            clear hK9
            go_simp
            exact HKK.out _ _ ⟨by simp [hsz], fun j => if j = 23 then .bool true else t j, by simp [e15, e22, e12], HV.out.put 23 _ V23.symm, HW⟩
          · obtain rfl : _ = op := Option.some.inj (show some _ = some op from ho)
            have e12 : t 12 = .bool true := (hv 12 (hd { on := 12, ground := .data } (by simp) rfl)).trans V12
            have e23 : t 23 = .bool true := (hv 23 (hd { on := 23, ground := .data } (by simp) rfl)).trans V23
            have HV := (show Hid (Rg.Vals l VV t) from hv)
            clear hv hd ho
            refine wpOp_step rfl fun K9 hK9 => ?_
            have HKK := (show Hid _ from hK9)
            clear hK9
            go_simp
            exact HKK.out _ _ ⟨by simp [hsz], fun j => if j = 24 then .bool true else t j, by simp [e12, e23], HV.out.put 24 _ V24.symm, HW⟩
          · obtain rfl : _ = op := Option.some.inj (show some _ = some op from ho)
            have e24 : t 24 = .bool true := (hv 24 (hd { on := 24, ground := .data } (by simp) rfl)).trans V24
            have HV := (show Hid (Rg.Vals l VV t) from hv)
            clear hv hd ho
            refine wpOp_step rfl fun K9 hK9 => ?_
            have HKK := (show Hid _ from hK9)
            clear hK9
            go_simp
            exact HKK.out _ _ ⟨by simp [hsz], fun j => if j = 25 then .bool true else t j, by simp [e24], HV.out.put 25 _ V25.symm, HW⟩
          · obtain rfl : _ = op := Option.some.inj (show some _ = some op from ho)
            have e25 : t 25 = .bool true := (hv 25 (hd { on := 25, ground := .guard } (by simp) rfl)).trans V25
            have yq0 : w'.cell? ⟨X, 0, none⟩ = some (.string S) := (HW.out.cell (p := ⟨X, 0, none⟩) hl6).trans q0
            have yq1 : w'.cell? ⟨X, 1, none⟩ = some (.slice pa ps.length pc) := (HW.out.cell (p := ⟨X, 1, none⟩) hl6).trans q1
            have HV := (show Hid (Rg.Vals l VV t) from hv)
            clear hv hd ho
            refine wpOp_step rfl fun K9 hK9 => ?_
            have HKK := (show Hid _ from hK9)
            clear hK9
            go_simp
            exact HKK.out _ _ ⟨by simp [hsz], fun j => if j = 26 then .agg #[.string S, .slice pa ps.length pc] else t j, by simp [e25], HV.out.put 26 _ V26.symm, HW⟩
          · obtain rfl : _ = op := Option.some.inj (show some _ = some op from ho)
            have e26 : t 26 = .agg #[.string S, .slice pa ps.length pc] := (hv 26 (hd { on := 26, ground := .data } (by simp) rfl)).trans V26
            have e25 : t 25 = .bool true := (hv 25 (hd { on := 25, ground := .guard } (by simp) rfl)).trans V25
            have HV := (show Hid (Rg.Vals l VV t) from hv)
            clear hv hd ho
            refine wpOp_step rfl fun K9 hK9 => ?_
            have HKK := (show Hid _ from hK9)
            clear hK9
            go_simp
            refine (back_stream S _ ps (0) _ (HT6.out.below HW.out) (HE6.out.below HW.out)).mono ?_
            rintro e w9 ⟨rfl, k9⟩
            refine HKK.out _ _ ⟨by simp [hsz], fun j => if j = 27 then .int .i64 (0) else t j, by simp [e26, e25, hb0], HV.out.put 27 _ V27.symm, HW.out.trans (k9.mono HW.out.size)⟩
          · obtain rfl : _ = op := Option.some.inj (show some _ = some op from ho)
            have e27 : t 27 = .int .i64 (0) := (hv 27 (hd { on := 27, ground := .data } (by simp) rfl)).trans V27
            have e25 : t 25 = .bool true := (hv 25 (hd { on := 25, ground := .guard } (by simp) rfl)).trans V25
            have HV := (show Hid (Rg.Vals l VV t) from hv)
            clear hv hd ho
            refine wpOp_step rfl fun K9 hK9 => ?_
            have HKK := (show Hid _ from hK9)
            clear hK9
            go_simp
            exact HKK.out _ _ ⟨by simp [hsz], fun j => if j = 28 then .bool true else t j, by simp [e27, e25], HV.out.put 28 _ V28.symm, HW⟩
          · obtain rfl : _ = op := Option.some.inj (show some _ = some op from ho)
            have e25 : t 25 = .bool true := (hv 25 (hd { on := 25, ground := .data } (by simp) rfl)).trans V25
            have e28 : t 28 = .bool true := (hv 28 (hd { on := 28, ground := .data } (by simp) rfl)).trans V28
            have HV := (show Hid (Rg.Vals l VV t) from hv)
            clear hv hd ho
            refine wpOp_step rfl fun K9 hK9 => ?_
            have HKK := (show Hid _ from hK9)
            clear hK9
            go_simp
            exact HKK.out _ _ ⟨by simp [hsz], fun j => if j = 29 then .bool true else t j, by simp [e25, e28], HV.out.put 29 _ V29.symm, HW⟩
          · obtain rfl : _ = op := Option.some.inj (show some _ = some op from ho)
            have e29 : t 29 = .bool true := (hv 29 (hd { on := 29, ground := .data } (by simp) rfl)).trans V29
            have HV := (show Hid (Rg.Vals l VV t) from hv)
            clear hv hd ho
            refine wpOp_step rfl fun K9 hK9 => ?_
            have HKK := (show Hid _ from hK9)
            clear hK9
            go_simp
            exact HKK.out _ _ ⟨by simp [hsz], fun j => if j = 30 then .bool true else t j, by simp [e29], HV.out.put 30 _ V30.symm, HW⟩
        case fin =>
          rintro l a' w' ⟨hsz, t, rfl, hv, HW⟩ hall
          have e30 : t 30 = .bool true := (hv 30 (hall 30 (by simp))).trans V30
          rw [e30]
          clear hv hall e30
          go_wp2
          go_ret
          exact ⟨rfl, HB6.out.trans (HW.out.mono HB6.out.size)⟩
end Go.Proofs.YtcpdkicmmhnpcabGreatDoor.LStreamBack

/- The walk of the law on what went on of what came: it answers true. -/
import Derived.Test.YtcpdkicmmhnpcaaGreatDoorDrawQ
import Derived.Test.YtcpdkicmmhnpcaaGreatDoorAc
import Derived.Test.YtcpdkicmmhnpcaaGreatDoorSsC
import Derived.Test.YtcpdkicmmhnpcaaGreatDoorLaid
import Derived.Test.YtcpdkicmmhnpcaaGreatDoorRi
import Derived.Deep.Cut
namespace Go.Proofs.YtcpdkicmmhnpcaaGreatDoor.LStreamFor
open Go.RowKit Go.Shelf Go.Proofs.YtcpdkicmmhnpcaaGreatDoor.Kit Go.Proofs.YtcpdkicmmhnpcaaGreatDoor.Tx Go.Proofs.YtcpdkicmmhnpcaaGreatDoor.Nm Go.Proofs.YtcpdkicmmhnpcaaGreatDoor.App Go.Proofs.YtcpdkicmmhnpcaaGreatDoor.St Go.Proofs.YtcpdkicmmhnpcaaGreatDoor.StP
open Go.Proofs.YtcpdkicmmhnpcaaGreatDoor.Read (Errs)
set_option linter.unusedSimpArgs false
set_option linter.unusedVariables false

set_option maxHeartbeats 400000 in
theorem long (a0 a1 : Option Addr) (len0 cap0 len1 cap1 : Nat) (w : World) (h : (1048576 : Int) < (len0 : Int)) :
    Calls Tryz.prog 7 #[.slice a0 len0 cap0, .slice a1 len1 cap1] w fun e w' => e = .returned (.bool true) ∧ Below w.heap.size w w' := by
  go_enter Tryz.func7, Tryz.ntmps7
  go_wp2
  go_ret
  exact ⟨rfl, Below.refl _ _⟩
set_option maxHeartbeats 400000 in
theorem long2 (a0 a1 : Option Addr) (len0 cap0 len1 cap1 : Nat) (w : World) (h : (len0 : Int) ≤ 1048576) (h2 : (1048576 : Int) < (len1 : Int)) :
    Calls Tryz.prog 7 #[.slice a0 len0 cap0, .slice a1 len1 cap1] w fun e w' => e = .returned (.bool true) ∧ Below w.heap.size w w' := by
  go_enter Tryz.func7, Tryz.ntmps7
  go_wp2
  go_ret
  exact ⟨rfl, Below.refl _ _⟩

set_option maxRecDepth 8000 in
set_option maxHeartbeats 16000000 in
theorem short (a0 a1 : Option Addr) (len0 cap0 len1 cap1 : Nat) (z : Nat → Int) (w : World) (hc : CodeIn w a0 len0 cap0 z) (h : (len0 : Int) ≤ 1048576) (h2 : (len1 : Int) ≤ 1048576) (herr : Errs w) :
    Calls Tryz.prog 7 #[.slice a0 len0 cap0, .slice a1 len1 cap1] w fun e w' => e = .returned (.bool true) ∧ Below w.heap.size w w' := by
  go_enter Tryz.func7, Tryz.ntmps7
  go_wp2_with fail
  refine (drawStreamFor a0 len0 cap0 z _ hc).mono ?_
  rintro e w1 ⟨S, pv, ps, n, rfl, hT, ⟨hS, hpl, hpb⟩, k1⟩
  obtain ⟨pa, pc, rfl, hT'⟩ := id hT
  clear hT'
  have he1 := herr.below k1
  have bA : Below w1.heap.size w1 (w1.alloc (.cells #[.string S, .slice pa ps.length pc] 26)) := (Below.refl _ _).alloc (Nat.le_refl _) _
  have hps : ∀ p ∈ ps, p.2.size ≤ 1073741824 := fun p hp => by have := (hpb p hp).2; omega
  have HPS := (show Hid (∀ p ∈ ps, p.2.size ≤ 1073741824) from hps)
  have HE := (show Hid (Errs (w1.alloc (.cells #[.string S, .slice pa ps.length pc] 26))) from he1.below bA)
  have HT := (show Hid (IsT (w1.alloc (.cells #[.string S, .slice pa ps.length pc] 26)) (.slice pa ps.length pc) ps) from hT.below bA)
  have HB := (show Hid (Below w.heap.size w (w1.alloc (.cells #[.string S, .slice pa ps.length pc] 26))) from k1.trans (bA.mono k1.size))
  clear hps hpb he1 hT k1 bA herr
  go_wp2_with fail
  refine (for_stream S _ ps n _ HT.out HE.out).mono ?_
  rintro e w2 ⟨rfl, k2⟩
  have c2 := keepc k2 w1.heap.size (by simp)
  have e0 : w2.cell? ⟨w1.heap.size, 0, none⟩ = some (.string S) := by rw [c2 0]; simp [go_sem]
  have e1 : w2.cell? ⟨w1.heap.size, 1, none⟩ = some (.slice pa ps.length pc) := by rw [c2 1]; simp [go_sem]
  have hl2 : w1.heap.size < w2.heap.size := by have := k2.size; simp at this; omega
  have HT2 := (show Hid (IsT w2 (.slice pa ps.length pc) ps) from HT.out.below k2)
  have HE2 := (show Hid (Errs w2) from HE.out.below k2)
  have HB2 := (show Hid (Below w.heap.size w w2) from HB.out.trans (k2.mono HB.out.size))
  clear k2 c2 HT HE HB
  obtain ⟨X, hX⟩ : ∃ X, w1.heap.size = X := ⟨_, rfl⟩
  obtain ⟨N, hN⟩ : ∃ N, forZ S ps n = N := ⟨_, rfl⟩
  rw [hX] at e0 e1 hl2 ⊢
  rw [hN]
  have HN := (show Hid (forZ S ps n = N) from hN)
  clear hX hN
  go_wp2_with fail
  refine (StS.sfor_any S _ ps n _ HT2.out (by omega) HPS.out).mono ?_
  rintro e w3 ⟨rfl, k3⟩
  rw [HN.out]
  have f0 := (k3.cell (p := ⟨X, 0, none⟩) hl2).trans e0
  have f1 := (k3.cell (p := ⟨X, 1, none⟩) hl2).trans e1
  have hl3 : X < w3.heap.size := by have := k3.size; omega
  have HT3 := (show Hid (IsT w3 (.slice pa ps.length pc) ps) from HT2.out.below k3)
  have HE3 := (show Hid (Errs w3) from HE2.out.below k3)
  have HB3 := (show Hid (Below w.heap.size w w3) from HB2.out.trans (k3.mono HB2.out.size))
  clear k3 e0 e1 HT2 HE2 HB2
  go_wp2_with fail
  refine (StS.sstream_any S _ ps _ HT3.out (by omega) HPS.out).mono ?_
  rintro e w4 ⟨rfl, k4⟩
  have g0 := (k4.cell (p := ⟨X, 0, none⟩) hl3).trans f0
  have g1 := (k4.cell (p := ⟨X, 1, none⟩) hl3).trans f1
  have hl4 : X < w4.heap.size := by have := k4.size; omega
  have HT4 := (show Hid (IsT w4 (.slice pa ps.length pc) ps) from HT3.out.below k4)
  have HE4 := (show Hid (Errs w4) from HE3.out.below k4)
  have HB4 := (show Hid (Below w.heap.size w w4) from HB3.out.trans (k4.mono HB3.out.size))
  clear k4 f0 f1 HT3 HE3 HB3
  cases hst : stB S ps
  · go_wp2_with fail
    refine (StS.sfor_any S _ ps n _ HT4.out (by omega) HPS.out).mono ?_
    rintro e w5 ⟨rfl, k5⟩
    rw [HN.out]
    go_wp2
    go_ret
    exact ⟨by first | rfl | simp, HB4.out.trans (k5.mono HB4.out.size)⟩
  · have HST := (show Hid (stB S ps = true) from hst)
    have hsm := stB_small hst
    have HSM := (show Hid (Small ps) from hsm)
    clear hst hsm
    by_cases hn0 : n < 0
    · go_wp2_with fail
      refine (StS.sfor_any S _ ps n _ HT4.out (by omega) HPS.out).mono ?_
      rintro e w5 ⟨rfl, k5⟩
      rw [HN.out]
      go_wp2
      go_ret
      exact ⟨by first | rfl | simp, HB4.out.trans (k5.mono HB4.out.size)⟩
    · have hn0' : ¬ n < 0 := hn0
      by_cases hn1 : (S.size : Int) < n
      · go_wp2_with fail
        refine (StS.sfor_any S _ ps n _ HT4.out (by omega) HPS.out).mono ?_
        rintro e w5 ⟨rfl, k5⟩
        rw [HN.out]
        go_wp2
        go_ret
        exact ⟨by first | rfl | simp, HB4.out.trans (k5.mono HB4.out.size)⟩
      · have hn1' : ¬ (S.size : Int) < n := hn1
        have hmod0 := Int.emod_nonneg (len1 : Int) (show (n + 1) ≠ 0 by omega)
        have hmod1 := Int.emod_lt_of_pos (len1 : Int) (show (0 : Int) < n + 1 by omega)
        go_wp2_with fail
        obtain ⟨M, hM⟩ : ∃ M, (len1 : Int) % (n + 1) = M := ⟨_, rfl⟩
        rw [hM] at hmod0 hmod1
        rw [hM]
        clear hM
        obtain ⟨O, hO0⟩ : ∃ O, outB S ps = O := ⟨_, rfl⟩
        obtain ⟨OS, hO1⟩ : ∃ OS, O.size = OS := ⟨_, rfl⟩
        have hO := (show Hid (O.size = OS) from hO1)
        have hOt : sm (sideH false) ps = (OS : Int) := by rw [sm_out, ← outB_ok HST.out, hO0, hO1]
        have hHo : hdN S.data.toList = heldN S.data.toList := hd_ok _ (stB_parts.1 HST.out).1
        obtain ⟨H, hH1⟩ : ∃ H, hdN S.data.toList = H := ⟨_, rfl⟩
        have hH := (show Hid (hdN S.data.toList = H) from hH1)
        have hHl : H ≤ S.size := by rw [← hH1, hHo, ← lenL]; exact heldN_len _
        have hIn : sm (sideH true) ps = (S.size : Int) - (H : Int) := by rw [sm_in HST.out, ← hHo, hH1]
        obtain ⟨D, hD⟩ : ∃ D, S.size - H = D := ⟨_, rfl⟩
        have hDi : (S.size : Int) - (H : Int) = (D : Int) := by omega
        have hwD : IntKind.i64.wrap ((S.size : Int) - (H : Int)) = (D : Int) := by simp [IntKind.wrap, IntKind.bits, IntKind.signed]; omega
        have ip := in_pos HSM.out
        have op' := out_pos HSM.out
        have fz : ∀ m : Int, 0 ≤ m → m ≤ (S.size : Int) → forZ S ps m = acr (sideH true) (sideH false) ps m := fun m h0 h1 => if_pos ⟨HST.out, h0, h1⟩
        have hNe : N = acr (sideH true) (sideH false) ps n := by rw [← HN.out]; exact fz n (by omega) (by omega)
        have hf0 : forZ S ps 0 = 0 := by rw [fz 0 (by omega) (by omega)]; exact acr_zero ps ip
        have hfS : forZ S ps (S.size : Nat) = (OS : Int) := by rw [fz _ (by omega) (by omega), acr_full ps ip _ (by omega)]; exact hOt
        have hfD : forZ S ps (D : Nat) = (OS : Int) := by rw [fz _ (by omega) (by omega), acr_full ps ip _ (by omega)]; exact hOt
        have hAN : forZ S ps M ≤ N := by rw [fz M hmod0 (by omega), hNe]; exact acr_mono ps ip op' M n hmod0 (by omega)
        have hNO : N ≤ (OS : Int) := by rw [hNe, ← hOt]; exact (acr_le ps ip op' n (by omega)).2
        have arm2 : ∀ w', Below w4.heap.size w4 w' → Calls Tryz.prog 18 #[.agg #[.string S, .slice pa ps.length pc]] w' fun e w9 => e = .returned (.string O) ∧ Below w'.heap.size w' w9 := by
          intro w' hb
          rw [← hO0]
          exact out_stream S _ ps w' (HT4.out.below hb) (HE4.out.below hb)
        clear hO0 hO1 hOt hHo hH1 hIn hD ip op' fz hNe hDi
        have hmix : Tryz.prog.follows .mixedOrders = true := by kernel_rfl
        obtain ⟨VV, hVV⟩ : ∃ VV : Nat → Value, VV = fun j => [(.agg #[.string S, .slice pa ps.length pc] : Value), .int .i64 (0), .bool true, .bool true, .agg #[.string S, .slice pa ps.length pc], .int .i64 (M), .int .i64 (forZ S ps M), .int .i64 (N), .bool true, .bool true, .bool true, .agg #[.string S, .slice pa ps.length pc], .pointer (some ⟨X, 0, none⟩), .string S, .int .i64 ((S.size : Nat)), .int .i64 ((OS : Nat)), .agg #[.string S, .slice pa ps.length pc], .string O, .int .i64 ((OS : Nat)), .bool true, .bool true, .bool true, .int .i64 (N), .agg #[.string S, .slice pa ps.length pc], .string O, .int .i64 ((OS : Nat)), .bool true, .bool true, .bool true, .agg #[.string S, .slice pa ps.length pc], .pointer (some ⟨X, 0, none⟩), .string S, .int .i64 ((S.size : Nat)), .pointer (some ⟨X, 0, none⟩), .string S, .int .i64 ((H : Nat)), .int .i64 ((D : Nat)), .int .i64 ((OS : Nat)), .agg #[.string S, .slice pa ps.length pc], .string O, .int .i64 ((OS : Nat)), .bool true, .bool true, .bool true].getD j undef := ⟨_, rfl⟩
        have V0 : VV 0 = .agg #[.string S, .slice pa ps.length pc] := by rw [hVV]; rfl
        have V1 : VV 1 = .int .i64 (0) := by rw [hVV]; rfl
        have V2 : VV 2 = .bool true := by rw [hVV]; rfl
        have V3 : VV 3 = .bool true := by rw [hVV]; rfl
        have V4 : VV 4 = .agg #[.string S, .slice pa ps.length pc] := by rw [hVV]; rfl
        have V5 : VV 5 = .int .i64 (M) := by rw [hVV]; rfl
        have V6 : VV 6 = .int .i64 (forZ S ps M) := by rw [hVV]; rfl
        have V7 : VV 7 = .int .i64 (N) := by rw [hVV]; rfl
        have V8 : VV 8 = .bool true := by rw [hVV]; rfl
        have V9 : VV 9 = .bool true := by rw [hVV]; rfl
        have V10 : VV 10 = .bool true := by rw [hVV]; rfl
        have V11 : VV 11 = .agg #[.string S, .slice pa ps.length pc] := by rw [hVV]; rfl
        have V12 : VV 12 = .pointer (some ⟨X, 0, none⟩) := by rw [hVV]; rfl
        have V13 : VV 13 = .string S := by rw [hVV]; rfl
        have V14 : VV 14 = .int .i64 ((S.size : Nat)) := by rw [hVV]; rfl
        have V15 : VV 15 = .int .i64 ((OS : Nat)) := by rw [hVV]; rfl
        have V16 : VV 16 = .agg #[.string S, .slice pa ps.length pc] := by rw [hVV]; rfl
        have V17 : VV 17 = .string O := by rw [hVV]; rfl
        have V18 : VV 18 = .int .i64 ((OS : Nat)) := by rw [hVV]; rfl
        have V19 : VV 19 = .bool true := by rw [hVV]; rfl
        have V20 : VV 20 = .bool true := by rw [hVV]; rfl
        have V21 : VV 21 = .bool true := by rw [hVV]; rfl
        have V22 : VV 22 = .int .i64 (N) := by rw [hVV]; rfl
        have V23 : VV 23 = .agg #[.string S, .slice pa ps.length pc] := by rw [hVV]; rfl
        have V24 : VV 24 = .string O := by rw [hVV]; rfl
        have V25 : VV 25 = .int .i64 ((OS : Nat)) := by rw [hVV]; rfl
        have V26 : VV 26 = .bool true := by rw [hVV]; rfl
        have V27 : VV 27 = .bool true := by rw [hVV]; rfl
        have V28 : VV 28 = .bool true := by rw [hVV]; rfl
        have V29 : VV 29 = .agg #[.string S, .slice pa ps.length pc] := by rw [hVV]; rfl
        have V30 : VV 30 = .pointer (some ⟨X, 0, none⟩) := by rw [hVV]; rfl
        have V31 : VV 31 = .string S := by rw [hVV]; rfl
        have V32 : VV 32 = .int .i64 ((S.size : Nat)) := by rw [hVV]; rfl
        have V33 : VV 33 = .pointer (some ⟨X, 0, none⟩) := by rw [hVV]; rfl
        have V34 : VV 34 = .string S := by rw [hVV]; rfl
        have V35 : VV 35 = .int .i64 ((H : Nat)) := by rw [hVV]; rfl
        have V36 : VV 36 = .int .i64 ((D : Nat)) := by rw [hVV]; rfl
        have V37 : VV 37 = .int .i64 ((OS : Nat)) := by rw [hVV]; rfl
        have V38 : VV 38 = .agg #[.string S, .slice pa ps.length pc] := by rw [hVV]; rfl
        have V39 : VV 39 = .string O := by rw [hVV]; rfl
        have V40 : VV 40 = .int .i64 ((OS : Nat)) := by rw [hVV]; rfl
        have V41 : VV 41 = .bool true := by rw [hVV]; rfl
        have V42 : VV 42 = .bool true := by rw [hVV]; rfl
        have V43 : VV 43 = .bool true := by rw [hVV]; rfl
        clear hVV
        refine wp_region_any hmix ?_
        refine Ri.any_inv (I := fun l a' w' => l.size = 44 ∧ ∃ t : Nat → Value, a' = { tmps := #[.slice a0 len0 cap0, .slice a1 len1 cap1, undef, undef, t 43, .pointer (some ⟨X, 0, none⟩), .int .i64 (n), .int .i64 (N), .int .i64 (M), .slice a0 len0 cap0, .int .i64 ((len0 : Nat)), .bool (decide ((1048576 : Int) < (len0 : Int))), .bool (decide ((1048576 : Int) < (len0 : Int))), .slice a1 len1 cap1, .int .i64 ((len1 : Nat)), .bool (decide ((1048576 : Int) < (len1 : Int))), .bool (decide ((1048576 : Int) < (len0 : Int)) || decide ((1048576 : Int) < (len1 : Int))), .tuple #[.agg #[.string S, .slice pa ps.length pc], .int .i64 n], .slice a0 len0 cap0, .tuple #[.agg #[.string S, .slice pa ps.length pc], .int .i64 n], .agg #[.string S, .slice pa ps.length pc], .int .i64 (n), .agg #[.string S, .slice pa ps.length pc], .int .i64 (n), .int .i64 (N), .int .i64 (N), .agg #[.string S, .slice pa ps.length pc], .int .i64 (n), .int .i64 (N), .bool false, .bool false, .agg #[.string S, .slice pa ps.length pc], .bool true, .bool false, .bool false, .bool false, .int .i64 (n), .bool (decide (n < 0)), .bool (decide (n < 0)), .bool (decide (n < 0)), .int .i64 (n), .pointer (some ⟨X, 0, none⟩), .string S, .int .i64 ((S.size : Nat)), .bool (decide ((S.size : Int) < n)), .bool (decide (n < 0) || decide ((S.size : Int) < n)), undef, undef, undef, undef, undef, .slice a1 len1 cap1, .int .i64 ((len1 : Nat)), .int .i64 (n), .int .i64 (n + 1), .int .i64 (M), t 0, t 1, t 2, t 3, t 4, t 5, t 6, t 7, t 8, t 9, t 10, t 11, t 12, t 13, t 14, t 15, t 16, t 17, t 18, t 19, t 20, t 21, t 22, t 23, t 24, t 25, t 26, t 27, t 28, t 29, t 30, t 31, t 32, t 33, t 34, t 35, t 36, t 37, t 38, t 39, t 40, t 41, t 42], defers := [] } ∧ Rg.Vals l VV t ∧ Hid (Below w4.heap.size w4 w')) ?sz ?low ?step ?fin _ _ _ _ ?start (Ri.closed_none _ _ _) (Rg.left_all _)
        case sz => exact fun l a' w' h => h.1
        case start => exact ⟨by simp, fun j => ([undef, undef, undef, undef, undef, undef, undef, undef, undef, undef, undef, undef, undef, undef, undef, undef, undef, undef, undef, undef, undef, undef, undef, undef, undef, undef, undef, undef, undef, undef, undef, undef, undef, undef, undef, undef, undef, undef, undef, undef, undef, undef, undef, .bool false] : List Value).getD j undef, rfl, Rg.vals_none _ _ _, (Below.refl _ _).drew⟩
        case low => exact Ri.low_of (by kernel_rfl)
        case step =>
          rintro l a' w' i ⟨hsz, t, rfl, hv, HW⟩ hcl hi
          obtain ⟨h0, op, ho, hd⟩ := mem_ready.1 hi
          have hin : i < 44 := (Array.getElem?_eq_some_iff.1 ho).1
          clear h0 hi hcl
          have hc : i = 0 ∨ i = 1 ∨ i = 2 ∨ i = 3 ∨ i = 4 ∨ i = 5 ∨ i = 6 ∨ i = 7 ∨ i = 8 ∨ i = 9 ∨ i = 10 ∨ i = 11 ∨ i = 12 ∨ i = 13 ∨ i = 14 ∨ i = 15 ∨ i = 16 ∨ i = 17 ∨ i = 18 ∨ i = 19 ∨ i = 20 ∨ i = 21 ∨ i = 22 ∨ i = 23 ∨ i = 24 ∨ i = 25 ∨ i = 26 ∨ i = 27 ∨ i = 28 ∨ i = 29 ∨ i = 30 ∨ i = 31 ∨ i = 32 ∨ i = 33 ∨ i = 34 ∨ i = 35 ∨ i = 36 ∨ i = 37 ∨ i = 38 ∨ i = 39 ∨ i = 40 ∨ i = 41 ∨ i = 42 ∨ i = 43 := by omega
          rcases hc with rfl | rfl | rfl | rfl | rfl | rfl | rfl | rfl | rfl | rfl | rfl | rfl | rfl | rfl | rfl | rfl | rfl | rfl | rfl | rfl | rfl | rfl | rfl | rfl | rfl | rfl | rfl | rfl | rfl | rfl | rfl | rfl | rfl | rfl | rfl | rfl | rfl | rfl | rfl | rfl | rfl | rfl | rfl | rfl
          · obtain rfl : _ = op := Option.some.inj (show some _ = some op from ho)
            have yg0 : w'.cell? ⟨X, 0, none⟩ = some (.string S) := (HW.out.cell (p := ⟨X, 0, none⟩) hl4).trans g0
            have yg1 : w'.cell? ⟨X, 1, none⟩ = some (.slice pa ps.length pc) := (HW.out.cell (p := ⟨X, 1, none⟩) hl4).trans g1
            have HV := (show Hid (Rg.Vals l VV t) from hv)
            clear hv hd ho
            refine wpOp_step rfl fun K9 hK9 => ?_
            have HKK := (show Hid _ from hK9)
            clear hK9
            go_simp
            exact HKK.out _ _ ⟨by simp [hsz], fun j => if j = 0 then .agg #[.string S, .slice pa ps.length pc] else t j, by simp, HV.out.put 0 _ V0.symm, HW⟩
          · obtain rfl : _ = op := Option.some.inj (show some _ = some op from ho)
            have e0 : t 0 = .agg #[.string S, .slice pa ps.length pc] := (hv 0 (hd { on := 0, ground := .data } (by simp) rfl)).trans V0
            have HV := (show Hid (Rg.Vals l VV t) from hv)
            clear hv hd ho
            refine wpOp_step rfl fun K9 hK9 => ?_
            have HKK := (show Hid _ from hK9)
            clear hK9
            go_simp
            refine (for_stream S _ ps (0) _ (HT4.out.below HW.out) (HE4.out.below HW.out)).mono ?_
            rintro e w9 ⟨rfl, k9⟩
            refine HKK.out _ _ ⟨by simp [hsz], fun j => if j = 1 then .int .i64 (0) else t j, by simp [e0, hf0], HV.out.put 1 _ V1.symm, HW.out.trans (k9.mono HW.out.size)⟩
          · obtain rfl : _ = op := Option.some.inj (show some _ = some op from ho)
            have e1 : t 1 = .int .i64 (0) := (hv 1 (hd { on := 1, ground := .data } (by simp) rfl)).trans V1
            have HV := (show Hid (Rg.Vals l VV t) from hv)
            clear hv hd ho
            refine wpOp_step rfl fun K9 hK9 => ?_
            have HKK := (show Hid _ from hK9)
            clear hK9
            go_simp
            exact HKK.out _ _ ⟨by simp [hsz], fun j => if j = 2 then .bool true else t j, by simp [e1], HV.out.put 2 _ V2.symm, HW⟩
          · obtain rfl : _ = op := Option.some.inj (show some _ = some op from ho)
            have e2 : t 2 = .bool true := (hv 2 (hd { on := 2, ground := .data } (by simp) rfl)).trans V2
            have HV := (show Hid (Rg.Vals l VV t) from hv)
            clear hv hd ho
            refine wpOp_step rfl fun K9 hK9 => ?_
            have HKK := (show Hid _ from hK9)
            clear hK9
            go_simp
            exact HKK.out _ _ ⟨by simp [hsz], fun j => if j = 3 then .bool true else t j, by simp [e2], HV.out.put 3 _ V3.symm, HW⟩
          · obtain rfl : _ = op := Option.some.inj (show some _ = some op from ho)
            have e3 : t 3 = .bool true := (hv 3 (hd { on := 3, ground := .guard } (by simp) rfl)).trans V3
            have yg0 : w'.cell? ⟨X, 0, none⟩ = some (.string S) := (HW.out.cell (p := ⟨X, 0, none⟩) hl4).trans g0
            have yg1 : w'.cell? ⟨X, 1, none⟩ = some (.slice pa ps.length pc) := (HW.out.cell (p := ⟨X, 1, none⟩) hl4).trans g1
            have HV := (show Hid (Rg.Vals l VV t) from hv)
            clear hv hd ho
            refine wpOp_step rfl fun K9 hK9 => ?_
            have HKK := (show Hid _ from hK9)
            clear hK9
            go_simp
            exact HKK.out _ _ ⟨by simp [hsz], fun j => if j = 4 then .agg #[.string S, .slice pa ps.length pc] else t j, by simp [e3], HV.out.put 4 _ V4.symm, HW⟩
          · obtain rfl : _ = op := Option.some.inj (show some _ = some op from ho)
            have e3 : t 3 = .bool true := (hv 3 (hd { on := 3, ground := .guard } (by simp) rfl)).trans V3
            have HV := (show Hid (Rg.Vals l VV t) from hv)
            clear hv hd ho
            refine wpOp_step rfl fun K9 hK9 => ?_
            have HKK := (show Hid _ from hK9)
            clear hK9
            go_simp
            exact HKK.out _ _ ⟨by simp [hsz], fun j => if j = 5 then .int .i64 (M) else t j, by simp [e3], HV.out.put 5 _ V5.symm, HW⟩
          · obtain rfl : _ = op := Option.some.inj (show some _ = some op from ho)
            have e4 : t 4 = .agg #[.string S, .slice pa ps.length pc] := (hv 4 (hd { on := 4, ground := .data } (by simp) rfl)).trans V4
            have e5 : t 5 = .int .i64 (M) := (hv 5 (hd { on := 5, ground := .data } (by simp) rfl)).trans V5
            have e3 : t 3 = .bool true := (hv 3 (hd { on := 3, ground := .guard } (by simp) rfl)).trans V3
            have HV := (show Hid (Rg.Vals l VV t) from hv)
            clear hv hd ho
            refine wpOp_step rfl fun K9 hK9 => ?_
            have HKK := (show Hid _ from hK9)
            clear hK9
            go_simp
            refine (for_stream S _ ps (M) _ (HT4.out.below HW.out) (HE4.out.below HW.out)).mono ?_
            rintro e w9 ⟨rfl, k9⟩
            refine HKK.out _ _ ⟨by simp [hsz], fun j => if j = 6 then .int .i64 (forZ S ps M) else t j, by simp [e4, e5, e3], HV.out.put 6 _ V6.symm, HW.out.trans (k9.mono HW.out.size)⟩
          · obtain rfl : _ = op := Option.some.inj (show some _ = some op from ho)
            have e3 : t 3 = .bool true := (hv 3 (hd { on := 3, ground := .guard } (by simp) rfl)).trans V3
            have HV := (show Hid (Rg.Vals l VV t) from hv)
            clear hv hd ho
            refine wpOp_step rfl fun K9 hK9 => ?_
            have HKK := (show Hid _ from hK9)
            clear hK9
            go_simp
            exact HKK.out _ _ ⟨by simp [hsz], fun j => if j = 7 then .int .i64 (N) else t j, by simp [e3], HV.out.put 7 _ V7.symm, HW⟩
          · obtain rfl : _ = op := Option.some.inj (show some _ = some op from ho)
            have e6 : t 6 = .int .i64 (forZ S ps M) := (hv 6 (hd { on := 6, ground := .data } (by simp) rfl)).trans V6
            have e7 : t 7 = .int .i64 (N) := (hv 7 (hd { on := 7, ground := .data } (by simp) rfl)).trans V7
            have e3 : t 3 = .bool true := (hv 3 (hd { on := 3, ground := .guard } (by simp) rfl)).trans V3
            have HV := (show Hid (Rg.Vals l VV t) from hv)
            clear hv hd ho
            refine wpOp_step rfl fun K9 hK9 => ?_
            have HKK := (show Hid _ from hK9)
            clear hK9
            go_simp
            exact HKK.out _ _ ⟨by simp [hsz], fun j => if j = 8 then .bool true else t j, by simp [e6, e7, e3, hAN], HV.out.put 8 _ V8.symm, HW⟩
          · obtain rfl : _ = op := Option.some.inj (show some _ = some op from ho)
            have e3 : t 3 = .bool true := (hv 3 (hd { on := 3, ground := .data } (by simp) rfl)).trans V3
            have e8 : t 8 = .bool true := (hv 8 (hd { on := 8, ground := .data } (by simp) rfl)).trans V8
            have HV := (show Hid (Rg.Vals l VV t) from hv)
            clear hv hd ho
            refine wpOp_step rfl fun K9 hK9 => ?_
            have HKK := (show Hid _ from hK9)
            clear hK9
            go_simp
            exact HKK.out _ _ ⟨by simp [hsz], fun j => if j = 9 then .bool true else t j, by simp [e3, e8], HV.out.put 9 _ V9.symm, HW⟩
          · obtain rfl : _ = op := Option.some.inj (show some _ = some op from ho)
            have e9 : t 9 = .bool true := (hv 9 (hd { on := 9, ground := .data } (by simp) rfl)).trans V9
            have HV := (show Hid (Rg.Vals l VV t) from hv)
            clear hv hd ho
            refine wpOp_step rfl fun K9 hK9 => ?_
            have HKK := (show Hid _ from hK9)
            clear hK9
            go_simp
            exact HKK.out _ _ ⟨by simp [hsz], fun j => if j = 10 then .bool true else t j, by simp [e9], HV.out.put 10 _ V10.symm, HW⟩
          · obtain rfl : _ = op := Option.some.inj (show some _ = some op from ho)
            have e10 : t 10 = .bool true := (hv 10 (hd { on := 10, ground := .guard } (by simp) rfl)).trans V10
            have yg0 : w'.cell? ⟨X, 0, none⟩ = some (.string S) := (HW.out.cell (p := ⟨X, 0, none⟩) hl4).trans g0
            have yg1 : w'.cell? ⟨X, 1, none⟩ = some (.slice pa ps.length pc) := (HW.out.cell (p := ⟨X, 1, none⟩) hl4).trans g1
            have HV := (show Hid (Rg.Vals l VV t) from hv)
            clear hv hd ho
            refine wpOp_step rfl fun K9 hK9 => ?_
            have HKK := (show Hid _ from hK9)
            clear hK9
            go_simp
            exact HKK.out _ _ ⟨by simp [hsz], fun j => if j = 11 then .agg #[.string S, .slice pa ps.length pc] else t j, by simp [e10], HV.out.put 11 _ V11.symm, HW⟩
          · obtain rfl : _ = op := Option.some.inj (show some _ = some op from ho)
            have e10 : t 10 = .bool true := (hv 10 (hd { on := 10, ground := .guard } (by simp) rfl)).trans V10
            have HV := (show Hid (Rg.Vals l VV t) from hv)
            clear hv hd ho
            refine wpOp_step rfl fun K9 hK9 => ?_
            have HKK := (show Hid _ from hK9)
            clear hK9
            go_simp
            exact HKK.out _ _ ⟨by simp [hsz], fun j => if j = 12 then .pointer (some ⟨X, 0, none⟩) else t j, by simp [e10], HV.out.put 12 _ V12.symm, HW⟩
          · obtain rfl : _ = op := Option.some.inj (show some _ = some op from ho)
            have e12 : t 12 = .pointer (some ⟨X, 0, none⟩) := (hv 12 (hd { on := 12, ground := .data } (by simp) rfl)).trans V12
            have e10 : t 10 = .bool true := (hv 10 (hd { on := 10, ground := .guard } (by simp) rfl)).trans V10
            have yg0 : w'.cell? ⟨X, 0, none⟩ = some (.string S) := (HW.out.cell (p := ⟨X, 0, none⟩) hl4).trans g0
            have yg1 : w'.cell? ⟨X, 1, none⟩ = some (.slice pa ps.length pc) := (HW.out.cell (p := ⟨X, 1, none⟩) hl4).trans g1
            have HV := (show Hid (Rg.Vals l VV t) from hv)
            clear hv hd ho
            refine wpOp_step rfl fun K9 hK9 => ?_
            have HKK := (show Hid _ from hK9)
            clear hK9
            go_simp
            exact HKK.out _ _ ⟨by simp [hsz], fun j => if j = 13 then .string S else t j, by simp [e12, e10], HV.out.put 13 _ V13.symm, HW⟩
          · obtain rfl : _ = op := Option.some.inj (show some _ = some op from ho)
            have e13 : t 13 = .string S := (hv 13 (hd { on := 13, ground := .data } (by simp) rfl)).trans V13
            have e10 : t 10 = .bool true := (hv 10 (hd { on := 10, ground := .guard } (by simp) rfl)).trans V10
            have HV := (show Hid (Rg.Vals l VV t) from hv)
            clear hv hd ho
            refine wpOp_step rfl fun K9 hK9 => ?_
            have HKK := (show Hid _ from hK9)
            clear hK9
            go_simp
            exact HKK.out _ _ ⟨by simp [hsz], fun j => if j = 14 then .int .i64 ((S.size : Nat)) else t j, by simp [e13, e10], HV.out.put 14 _ V14.symm, HW⟩
          · obtain rfl : _ = op := Option.some.inj (show some _ = some op from ho)
            have e11 : t 11 = .agg #[.string S, .slice pa ps.length pc] := (hv 11 (hd { on := 11, ground := .data } (by simp) rfl)).trans V11
            have e14 : t 14 = .int .i64 ((S.size : Nat)) := (hv 14 (hd { on := 14, ground := .data } (by simp) rfl)).trans V14
            have e10 : t 10 = .bool true := (hv 10 (hd { on := 10, ground := .guard } (by simp) rfl)).trans V10
            have HV := (show Hid (Rg.Vals l VV t) from hv)
            clear hv hd ho
            refine wpOp_step rfl fun K9 hK9 => ?_
            have HKK := (show Hid _ from hK9)
            clear hK9
            go_simp
            refine (for_stream S _ ps ((S.size : Nat)) _ (HT4.out.below HW.out) (HE4.out.below HW.out)).mono ?_
            rintro e w9 ⟨rfl, k9⟩
            refine HKK.out _ _ ⟨by simp [hsz], fun j => if j = 15 then .int .i64 ((OS : Nat)) else t j, by simp [e11, e14, e10, hfS], HV.out.put 15 _ V15.symm, HW.out.trans (k9.mono HW.out.size)⟩
          · obtain rfl : _ = op := Option.some.inj (show some _ = some op from ho)
            have e10 : t 10 = .bool true := (hv 10 (hd { on := 10, ground := .guard } (by simp) rfl)).trans V10
            have yg0 : w'.cell? ⟨X, 0, none⟩ = some (.string S) := (HW.out.cell (p := ⟨X, 0, none⟩) hl4).trans g0
            have yg1 : w'.cell? ⟨X, 1, none⟩ = some (.slice pa ps.length pc) := (HW.out.cell (p := ⟨X, 1, none⟩) hl4).trans g1
            have HV := (show Hid (Rg.Vals l VV t) from hv)
            clear hv hd ho
            refine wpOp_step rfl fun K9 hK9 => ?_
            have HKK := (show Hid _ from hK9)
            clear hK9
            go_simp
            exact HKK.out _ _ ⟨by simp [hsz], fun j => if j = 16 then .agg #[.string S, .slice pa ps.length pc] else t j, by simp [e10], HV.out.put 16 _ V16.symm, HW⟩
          · obtain rfl : _ = op := Option.some.inj (show some _ = some op from ho)
            have e16 : t 16 = .agg #[.string S, .slice pa ps.length pc] := (hv 16 (hd { on := 16, ground := .data } (by simp) rfl)).trans V16
            have e10 : t 10 = .bool true := (hv 10 (hd { on := 10, ground := .guard } (by simp) rfl)).trans V10
            have HV := (show Hid (Rg.Vals l VV t) from hv)
            clear hv hd ho
            refine wpOp_step rfl fun K9 hK9 => ?_
            have HKK := (show Hid _ from hK9)
            clear hK9
            go_simp
            refine (arm2 _ HW.out).mono ?_
            rintro e w9 ⟨rfl, k9⟩
            refine HKK.out _ _ ⟨by simp [hsz], fun j => if j = 17 then .string O else t j, by simp [e16, e10], HV.out.put 17 _ V17.symm, HW.out.trans (k9.mono HW.out.size)⟩
          · obtain rfl : _ = op := Option.some.inj (show some _ = some op from ho)
            have e17 : t 17 = .string O := (hv 17 (hd { on := 17, ground := .data } (by simp) rfl)).trans V17
            have e10 : t 10 = .bool true := (hv 10 (hd { on := 10, ground := .guard } (by simp) rfl)).trans V10
            have HV := (show Hid (Rg.Vals l VV t) from hv)
            clear hv hd ho
            refine wpOp_step rfl fun K9 hK9 => ?_
            have HKK := (show Hid _ from hK9)
            clear hK9
            go_simp
            exact HKK.out _ _ ⟨by simp [hsz], fun j => if j = 18 then .int .i64 ((OS : Nat)) else t j, by simp [e17, e10, hO.out], HV.out.put 18 _ V18.symm, HW⟩
          · obtain rfl : _ = op := Option.some.inj (show some _ = some op from ho)
            have e15 : t 15 = .int .i64 ((OS : Nat)) := (hv 15 (hd { on := 15, ground := .data } (by simp) rfl)).trans V15
            have e18 : t 18 = .int .i64 ((OS : Nat)) := (hv 18 (hd { on := 18, ground := .data } (by simp) rfl)).trans V18
            have e10 : t 10 = .bool true := (hv 10 (hd { on := 10, ground := .guard } (by simp) rfl)).trans V10
            have HV := (show Hid (Rg.Vals l VV t) from hv)
            clear hv hd ho
            refine wpOp_step rfl fun K9 hK9 => ?_
            have HKK := (show Hid _ from hK9)
            clear hK9
            go_simp
            exact HKK.out _ _ ⟨by simp [hsz], fun j => if j = 19 then .bool true else t j, by simp [e15, e18, e10], HV.out.put 19 _ V19.symm, HW⟩
          · obtain rfl : _ = op := Option.some.inj (show some _ = some op from ho)
            have e10 : t 10 = .bool true := (hv 10 (hd { on := 10, ground := .data } (by simp) rfl)).trans V10
            have e19 : t 19 = .bool true := (hv 19 (hd { on := 19, ground := .data } (by simp) rfl)).trans V19
            have HV := (show Hid (Rg.Vals l VV t) from hv)
            clear hv hd ho
            refine wpOp_step rfl fun K9 hK9 => ?_
            have HKK := (show Hid _ from hK9)
            clear hK9
            go_simp
            exact HKK.out _ _ ⟨by simp [hsz], fun j => if j = 20 then .bool true else t j, by simp [e10, e19], HV.out.put 20 _ V20.symm, HW⟩
          · obtain rfl : _ = op := Option.some.inj (show some _ = some op from ho)
            have e20 : t 20 = .bool true := (hv 20 (hd { on := 20, ground := .data } (by simp) rfl)).trans V20
            have HV := (show Hid (Rg.Vals l VV t) from hv)
            clear hv hd ho
            refine wpOp_step rfl fun K9 hK9 => ?_
            have HKK := (show Hid _ from hK9)
            clear hK9
            go_simp
            exact HKK.out _ _ ⟨by simp [hsz], fun j => if j = 21 then .bool true else t j, by simp [e20], HV.out.put 21 _ V21.symm, HW⟩
          · obtain rfl : _ = op := Option.some.inj (show some _ = some op from ho)
            have e21 : t 21 = .bool true := (hv 21 (hd { on := 21, ground := .guard } (by simp) rfl)).trans V21
            have HV := (show Hid (Rg.Vals l VV t) from hv)
            clear hv hd ho
            refine wpOp_step rfl fun K9 hK9 => ?_
            have HKK := (show Hid _ from hK9)
            clear hK9
            go_simp
            exact HKK.out _ _ ⟨by simp [hsz], fun j => if j = 22 then .int .i64 (N) else t j, by simp [e21], HV.out.put 22 _ V22.symm, HW⟩
          · obtain rfl : _ = op := Option.some.inj (show some _ = some op from ho)
            have e21 : t 21 = .bool true := (hv 21 (hd { on := 21, ground := .guard } (by simp) rfl)).trans V21
            have yg0 : w'.cell? ⟨X, 0, none⟩ = some (.string S) := (HW.out.cell (p := ⟨X, 0, none⟩) hl4).trans g0
            have yg1 : w'.cell? ⟨X, 1, none⟩ = some (.slice pa ps.length pc) := (HW.out.cell (p := ⟨X, 1, none⟩) hl4).trans g1
            have HV := (show Hid (Rg.Vals l VV t) from hv)
            clear hv hd ho
            refine wpOp_step rfl fun K9 hK9 => ?_
            have HKK := (show Hid _ from hK9)
            clear hK9
            go_simp
            exact HKK.out _ _ ⟨by simp [hsz], fun j => if j = 23 then .agg #[.string S, .slice pa ps.length pc] else t j, by simp [e21], HV.out.put 23 _ V23.symm, HW⟩
          · obtain rfl : _ = op := Option.some.inj (show some _ = some op from ho)
            have e23 : t 23 = .agg #[.string S, .slice pa ps.length pc] := (hv 23 (hd { on := 23, ground := .data } (by simp) rfl)).trans V23
            have e21 : t 21 = .bool true := (hv 21 (hd { on := 21, ground := .guard } (by simp) rfl)).trans V21
            have HV := (show Hid (Rg.Vals l VV t) from hv)
            clear hv hd ho
            refine wpOp_step rfl fun K9 hK9 => ?_
            have HKK := (show Hid _ from hK9)
            clear hK9
            go_simp
            refine (arm2 _ HW.out).mono ?_
            rintro e w9 ⟨rfl, k9⟩
            refine HKK.out _ _ ⟨by simp [hsz], fun j => if j = 24 then .string O else t j, by simp [e23, e21], HV.out.put 24 _ V24.symm, HW.out.trans (k9.mono HW.out.size)⟩
          · obtain rfl : _ = op := Option.some.inj (show some _ = some op from ho)
            have e24 : t 24 = .string O := (hv 24 (hd { on := 24, ground := .data } (by simp) rfl)).trans V24
            have e21 : t 21 = .bool true := (hv 21 (hd { on := 21, ground := .guard } (by simp) rfl)).trans V21
            have HV := (show Hid (Rg.Vals l VV t) from hv)
            clear hv hd ho
            refine wpOp_step rfl fun K9 hK9 => ?_
            have HKK := (show Hid _ from hK9)
            clear hK9
            go_simp
            exact HKK.out _ _ ⟨by simp [hsz], fun j => if j = 25 then .int .i64 ((OS : Nat)) else t j, by simp [e24, e21, hO.out], HV.out.put 25 _ V25.symm, HW⟩
          · obtain rfl : _ = op := Option.some.inj (show some _ = some op from ho)
            have e22 : t 22 = .int .i64 (N) := (hv 22 (hd { on := 22, ground := .data } (by simp) rfl)).trans V22
            have e25 : t 25 = .int .i64 ((OS : Nat)) := (hv 25 (hd { on := 25, ground := .data } (by simp) rfl)).trans V25
            have e21 : t 21 = .bool true := (hv 21 (hd { on := 21, ground := .guard } (by simp) rfl)).trans V21
            have HV := (show Hid (Rg.Vals l VV t) from hv)
            clear hv hd ho
            refine wpOp_step rfl fun K9 hK9 => ?_
            have HKK := (show Hid _ from hK9)
            clear hK9
            go_simp
            exact HKK.out _ _ ⟨by simp [hsz], fun j => if j = 26 then .bool true else t j, by simp [e22, e25, e21, hNO], HV.out.put 26 _ V26.symm, HW⟩
          · obtain rfl : _ = op := Option.some.inj (show some _ = some op from ho)
            have e21 : t 21 = .bool true := (hv 21 (hd { on := 21, ground := .data } (by simp) rfl)).trans V21
            have e26 : t 26 = .bool true := (hv 26 (hd { on := 26, ground := .data } (by simp) rfl)).trans V26
            have HV := (show Hid (Rg.Vals l VV t) from hv)
            clear hv hd ho
            refine wpOp_step rfl fun K9 hK9 => ?_
            have HKK := (show Hid _ from hK9)
            clear hK9
            go_simp
            exact HKK.out _ _ ⟨by simp [hsz], fun j => if j = 27 then .bool true else t j, by simp [e21, e26], HV.out.put 27 _ V27.symm, HW⟩
          · obtain rfl : _ = op := Option.some.inj (show some _ = some op from ho)
            have e27 : t 27 = .bool true := (hv 27 (hd { on := 27, ground := .data } (by simp) rfl)).trans V27
            have HV := (show Hid (Rg.Vals l VV t) from hv)
            clear hv hd ho
            refine wpOp_step rfl fun K9 hK9 => ?_
            have HKK := (show Hid _ from hK9)
            clear hK9
            go_simp
            exact HKK.out _ _ ⟨by simp [hsz], fun j => if j = 28 then .bool true else t j, by simp [e27], HV.out.put 28 _ V28.symm, HW⟩
          · obtain rfl : _ = op := Option.some.inj (show some _ = some op from ho)
            have e28 : t 28 = .bool true := (hv 28 (hd { on := 28, ground := .guard } (by simp) rfl)).trans V28
            have yg0 : w'.cell? ⟨X, 0, none⟩ = some (.string S) := (HW.out.cell (p := ⟨X, 0, none⟩) hl4).trans g0
            have yg1 : w'.cell? ⟨X, 1, none⟩ = some (.slice pa ps.length pc) := (HW.out.cell (p := ⟨X, 1, none⟩) hl4).trans g1
            have HV := (show Hid (Rg.Vals l VV t) from hv)
            clear hv hd ho
            refine wpOp_step rfl fun K9 hK9 => ?_
            have HKK := (show Hid _ from hK9)
            clear hK9
            go_simp
            exact HKK.out _ _ ⟨by simp [hsz], fun j => if j = 29 then .agg #[.string S, .slice pa ps.length pc] else t j, by simp [e28], HV.out.put 29 _ V29.symm, HW⟩
          · obtain rfl : _ = op := Option.some.inj (show some _ = some op from ho)
            have e28 : t 28 = .bool true := (hv 28 (hd { on := 28, ground := .guard } (by simp) rfl)).trans V28
            have HV := (show Hid (Rg.Vals l VV t) from hv)
            clear hv hd ho
            refine wpOp_step rfl fun K9 hK9 => ?_
            have HKK := (show Hid _ from hK9)
            clear hK9
            go_simp
            exact HKK.out _ _ ⟨by simp [hsz], fun j => if j = 30 then .pointer (some ⟨X, 0, none⟩) else t j, by simp [e28], HV.out.put 30 _ V30.symm, HW⟩
          · obtain rfl : _ = op := Option.some.inj (show some _ = some op from ho)
            have e30 : t 30 = .pointer (some ⟨X, 0, none⟩) := (hv 30 (hd { on := 30, ground := .data } (by simp) rfl)).trans V30
            have e28 : t 28 = .bool true := (hv 28 (hd { on := 28, ground := .guard } (by simp) rfl)).trans V28
            have yg0 : w'.cell? ⟨X, 0, none⟩ = some (.string S) := (HW.out.cell (p := ⟨X, 0, none⟩) hl4).trans g0
            have yg1 : w'.cell? ⟨X, 1, none⟩ = some (.slice pa ps.length pc) := (HW.out.cell (p := ⟨X, 1, none⟩) hl4).trans g1
            have HV := (show Hid (Rg.Vals l VV t) from hv)
            clear hv hd ho
            refine wpOp_step rfl fun K9 hK9 => ?_
            have HKK := (show Hid _ from hK9)
            clear hK9
            go_simp
            exact HKK.out _ _ ⟨by simp [hsz], fun j => if j = 31 then .string S else t j, by simp [e30, e28], HV.out.put 31 _ V31.symm, HW⟩
          · obtain rfl : _ = op := Option.some.inj (show some _ = some op from ho)
            have e31 : t 31 = .string S := (hv 31 (hd { on := 31, ground := .data } (by simp) rfl)).trans V31
            have e28 : t 28 = .bool true := (hv 28 (hd { on := 28, ground := .guard } (by simp) rfl)).trans V28
            have HV := (show Hid (Rg.Vals l VV t) from hv)
            clear hv hd ho
            refine wpOp_step rfl fun K9 hK9 => ?_
            have HKK := (show Hid _ from hK9)
            clear hK9
            go_simp
            exact HKK.out _ _ ⟨by simp [hsz], fun j => if j = 32 then .int .i64 ((S.size : Nat)) else t j, by simp [e31, e28], HV.out.put 32 _ V32.symm, HW⟩
          · obtain rfl : _ = op := Option.some.inj (show some _ = some op from ho)
            have e28 : t 28 = .bool true := (hv 28 (hd { on := 28, ground := .guard } (by simp) rfl)).trans V28
            have HV := (show Hid (Rg.Vals l VV t) from hv)
            clear hv hd ho
            refine wpOp_step rfl fun K9 hK9 => ?_
            have HKK := (show Hid _ from hK9)
            clear hK9
            go_simp
            exact HKK.out _ _ ⟨by simp [hsz], fun j => if j = 33 then .pointer (some ⟨X, 0, none⟩) else t j, by simp [e28], HV.out.put 33 _ V33.symm, HW⟩
          · obtain rfl : _ = op := Option.some.inj (show some _ = some op from ho)
            have e33 : t 33 = .pointer (some ⟨X, 0, none⟩) := (hv 33 (hd { on := 33, ground := .data } (by simp) rfl)).trans V33
            have e28 : t 28 = .bool true := (hv 28 (hd { on := 28, ground := .guard } (by simp) rfl)).trans V28
            have yg0 : w'.cell? ⟨X, 0, none⟩ = some (.string S) := (HW.out.cell (p := ⟨X, 0, none⟩) hl4).trans g0
            have yg1 : w'.cell? ⟨X, 1, none⟩ = some (.slice pa ps.length pc) := (HW.out.cell (p := ⟨X, 1, none⟩) hl4).trans g1
            have HV := (show Hid (Rg.Vals l VV t) from hv)
            clear hv hd ho
            refine wpOp_step rfl fun K9 hK9 => ?_
            have HKK := (show Hid _ from hK9)
            clear hK9
            go_simp
            exact HKK.out _ _ ⟨by simp [hsz], fun j => if j = 34 then .string S else t j, by simp [e33, e28], HV.out.put 34 _ V34.symm, HW⟩
          · obtain rfl : _ = op := Option.some.inj (show some _ = some op from ho)
            have e34 : t 34 = .string S := (hv 34 (hd { on := 34, ground := .data } (by simp) rfl)).trans V34
            have e28 : t 28 = .bool true := (hv 28 (hd { on := 28, ground := .guard } (by simp) rfl)).trans V28
            have HV := (show Hid (Rg.Vals l VV t) from hv)
            clear hv hd ho
            refine wpOp_step rfl fun K9 hK9 => ?_
            have HKK := (show Hid _ from hK9)
            clear hK9
            go_simp
            refine (LzP.held_is S H hH.out _).mono ?_
            rintro e w9 ⟨rfl, k9⟩
            refine HKK.out _ _ ⟨by simp [hsz], fun j => if j = 35 then .int .i64 ((H : Nat)) else t j, by simp [e34, e28], HV.out.put 35 _ V35.symm, HW.out.trans (k9.mono HW.out.size)⟩
          · obtain rfl : _ = op := Option.some.inj (show some _ = some op from ho)
            have e32 : t 32 = .int .i64 ((S.size : Nat)) := (hv 32 (hd { on := 32, ground := .data } (by simp) rfl)).trans V32
            have e35 : t 35 = .int .i64 ((H : Nat)) := (hv 35 (hd { on := 35, ground := .data } (by simp) rfl)).trans V35
            have e28 : t 28 = .bool true := (hv 28 (hd { on := 28, ground := .guard } (by simp) rfl)).trans V28
            have HV := (show Hid (Rg.Vals l VV t) from hv)
            clear hv hd ho
            refine wpOp_step rfl fun K9 hK9 => ?_
            have HKK := (show Hid _ from hK9)
            clear hK9
            go_simp
            exact HKK.out _ _ ⟨by simp [hsz], fun j => if j = 36 then .int .i64 ((D : Nat)) else t j, by simp [e32, e35, e28, hwD], HV.out.put 36 _ V36.symm, HW⟩
          · obtain rfl : _ = op := Option.some.inj (show some _ = some op from ho)
            have e29 : t 29 = .agg #[.string S, .slice pa ps.length pc] := (hv 29 (hd { on := 29, ground := .data } (by simp) rfl)).trans V29
            have e36 : t 36 = .int .i64 ((D : Nat)) := (hv 36 (hd { on := 36, ground := .data } (by simp) rfl)).trans V36
            have e28 : t 28 = .bool true := (hv 28 (hd { on := 28, ground := .guard } (by simp) rfl)).trans V28
            have HV := (show Hid (Rg.Vals l VV t) from hv)
            clear hv hd ho
            refine wpOp_step rfl fun K9 hK9 => ?_
            have HKK := (show Hid _ from hK9)
            clear hK9
            go_simp
            refine (for_stream S _ ps ((D : Nat)) _ (HT4.out.below HW.out) (HE4.out.below HW.out)).mono ?_
            rintro e w9 ⟨rfl, k9⟩
            refine HKK.out _ _ ⟨by simp [hsz], fun j => if j = 37 then .int .i64 ((OS : Nat)) else t j, by simp [e29, e36, e28, hfD], HV.out.put 37 _ V37.symm, HW.out.trans (k9.mono HW.out.size)⟩
          · obtain rfl : _ = op := Option.some.inj (show some _ = some op from ho)
            have e28 : t 28 = .bool true := (hv 28 (hd { on := 28, ground := .guard } (by simp) rfl)).trans V28
            have yg0 : w'.cell? ⟨X, 0, none⟩ = some (.string S) := (HW.out.cell (p := ⟨X, 0, none⟩) hl4).trans g0
            have yg1 : w'.cell? ⟨X, 1, none⟩ = some (.slice pa ps.length pc) := (HW.out.cell (p := ⟨X, 1, none⟩) hl4).trans g1
            have HV := (show Hid (Rg.Vals l VV t) from hv)
            clear hv hd ho
            refine wpOp_step rfl fun K9 hK9 => ?_
            have HKK := (show Hid _ from hK9)
            clear hK9
            go_simp
            exact HKK.out _ _ ⟨by simp [hsz], fun j => if j = 38 then .agg #[.string S, .slice pa ps.length pc] else t j, by simp [e28], HV.out.put 38 _ V38.symm, HW⟩
          · obtain rfl : _ = op := Option.some.inj (show some _ = some op from ho)
            have e38 : t 38 = .agg #[.string S, .slice pa ps.length pc] := (hv 38 (hd { on := 38, ground := .data } (by simp) rfl)).trans V38
            have e28 : t 28 = .bool true := (hv 28 (hd { on := 28, ground := .guard } (by simp) rfl)).trans V28
            have HV := (show Hid (Rg.Vals l VV t) from hv)
            clear hv hd ho
            refine wpOp_step rfl fun K9 hK9 => ?_
            have HKK := (show Hid _ from hK9)
            clear hK9
            go_simp
            refine (arm2 _ HW.out).mono ?_
            rintro e w9 ⟨rfl, k9⟩
            refine HKK.out _ _ ⟨by simp [hsz], fun j => if j = 39 then .string O else t j, by simp [e38, e28], HV.out.put 39 _ V39.symm, HW.out.trans (k9.mono HW.out.size)⟩
          · obtain rfl : _ = op := Option.some.inj (show some _ = some op from ho)
            have e39 : t 39 = .string O := (hv 39 (hd { on := 39, ground := .data } (by simp) rfl)).trans V39
            have e28 : t 28 = .bool true := (hv 28 (hd { on := 28, ground := .guard } (by simp) rfl)).trans V28
            have HV := (show Hid (Rg.Vals l VV t) from hv)
            clear hv hd ho
            refine wpOp_step rfl fun K9 hK9 => ?_
            have HKK := (show Hid _ from hK9)
            clear hK9
            go_simp
            exact HKK.out _ _ ⟨by simp [hsz], fun j => if j = 40 then .int .i64 ((OS : Nat)) else t j, by simp [e39, e28, hO.out], HV.out.put 40 _ V40.symm, HW⟩
          · obtain rfl : _ = op := Option.some.inj (show some _ = some op from ho)
            have e37 : t 37 = .int .i64 ((OS : Nat)) := (hv 37 (hd { on := 37, ground := .data } (by simp) rfl)).trans V37
            have e40 : t 40 = .int .i64 ((OS : Nat)) := (hv 40 (hd { on := 40, ground := .data } (by simp) rfl)).trans V40
            have e28 : t 28 = .bool true := (hv 28 (hd { on := 28, ground := .guard } (by simp) rfl)).trans V28
            have HV := (show Hid (Rg.Vals l VV t) from hv)
            clear hv hd ho
            refine wpOp_step rfl fun K9 hK9 => ?_
            have HKK := (show Hid _ from hK9)
            clear hK9
            go_simp
            exact HKK.out _ _ ⟨by simp [hsz], fun j => if j = 41 then .bool true else t j, by simp [e37, e40, e28], HV.out.put 41 _ V41.symm, HW⟩
          · obtain rfl : _ = op := Option.some.inj (show some _ = some op from ho)
            have e28 : t 28 = .bool true := (hv 28 (hd { on := 28, ground := .data } (by simp) rfl)).trans V28
            have e41 : t 41 = .bool true := (hv 41 (hd { on := 41, ground := .data } (by simp) rfl)).trans V41
            have HV := (show Hid (Rg.Vals l VV t) from hv)
            clear hv hd ho
            refine wpOp_step rfl fun K9 hK9 => ?_
            have HKK := (show Hid _ from hK9)
            clear hK9
            go_simp
            exact HKK.out _ _ ⟨by simp [hsz], fun j => if j = 42 then .bool true else t j, by simp [e28, e41], HV.out.put 42 _ V42.symm, HW⟩
          · obtain rfl : _ = op := Option.some.inj (show some _ = some op from ho)
            have e42 : t 42 = .bool true := (hv 42 (hd { on := 42, ground := .data } (by simp) rfl)).trans V42
            have HV := (show Hid (Rg.Vals l VV t) from hv)
            clear hv hd ho
            refine wpOp_step rfl fun K9 hK9 => ?_
            have HKK := (show Hid _ from hK9)
            clear hK9
            go_simp
            exact HKK.out _ _ ⟨by simp [hsz], fun j => if j = 43 then .bool true else t j, by simp [e42], HV.out.put 43 _ V43.symm, HW⟩
        case fin =>
          rintro l a' w' ⟨hsz, t, rfl, hv, HW⟩ hall
          have e43 : t 43 = .bool true := (hv 43 (hall 43 (by simp))).trans V43
          rw [e43]
          clear hv hall e43
          go_wp2
          go_ret
          exact ⟨rfl, HB4.out.trans (HW.out.mono HB4.out.size)⟩
end Go.Proofs.YtcpdkicmmhnpcaaGreatDoor.LStreamFor

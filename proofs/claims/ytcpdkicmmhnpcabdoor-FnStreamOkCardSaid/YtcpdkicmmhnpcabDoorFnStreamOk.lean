/- The walk of the law on what stream is ok: it answers true. -/
import Derived.Test.YtcpdkicmmhnpcabDoorDrawQ
import Derived.Test.YtcpdkicmmhnpcabDoorStE
import Derived.Test.YtcpdkicmmhnpcabDoorSsA
import Derived.Test.YtcpdkicmmhnpcabDoorLzP
import Derived.Test.YtcpdkicmmhnpcabDoorLaid
import Derived.Deep.Cut
import Derived.Test.YtcpdkicmmhnpcabDoorRi
namespace Go.Proofs.YtcpdkicmmhnpcabDoor.LStreamOk
open Go.RowKit Go.Shelf Go.Proofs.YtcpdkicmmhnpcabDoor.Kit Go.Proofs.YtcpdkicmmhnpcabDoor.Tx Go.Proofs.YtcpdkicmmhnpcabDoor.Nm Go.Proofs.YtcpdkicmmhnpcabDoor.App Go.Proofs.YtcpdkicmmhnpcabDoor.St Go.Proofs.YtcpdkicmmhnpcabDoor.StP Go.Proofs.YtcpdkicmmhnpcabDoor.Lz Go.Proofs.YtcpdkicmmhnpcabDoor.LzP
open Go.Proofs.YtcpdkicmmhnpcabDoor.Read (Errs)
set_option linter.unusedSimpArgs false
set_option linter.unusedVariables false

set_option maxHeartbeats 400000 in
theorem long (a0 : Option Addr) (len0 cap0 : Nat) (w : World) (h : (1048576 : Int) < (len0 : Int)) :
    Calls Tryd.prog 3 #[.slice a0 len0 cap0] w fun e w' => e = .returned (.bool true) ∧ Below w.heap.size w w' := by
  go_enter Tryd.func3, Tryd.ntmps3
  go_wp2
  go_ret
  exact ⟨rfl, Below.refl _ _⟩

theorem stB_less {S : ByteArray} {ps : List (Int × ByteArray)} (h : stB S ps = true) (k : Nat) (hk : k < ps.length) : stB S (ps.take k) = false := by
  refine stB_len ?_
  rw [(stB_parts.1 h).2.1, List.length_take]; omega
theorem isT_take {W : World} {a : Option Addr} {n c : Nat} {ps : List (Int × ByteArray)} (h : IsT W (.slice a n c) ps) (k : Nat) (hk : k ≤ ps.length) : IsT W (.slice a k c) (ps.take k) := by
  obtain ⟨a', c', e, h1, h2, h3⟩ := h
  simp only [Value.slice.injEq] at e
  obtain ⟨rfl, -, rfl⟩ := e
  have hl : (ps.take k).length = k := by rw [List.length_take]; omega
  refine ⟨a, c, by rw [hl], by omega, h2, ?_⟩
  rcases h3 with rfl | ⟨g, o, rfl, hat⟩
  · exact .inl (by simp)
  · refine .inr ⟨g, o, rfl, fun i p hp => hat i p ?_⟩
    rw [List.getElem?_take] at hp
    split at hp
    · exact hp
    · cases hp

set_option maxRecDepth 8000 in
set_option maxHeartbeats 16000000 in
theorem short (a0 : Option Addr) (len0 cap0 : Nat) (z : Nat → Int) (w : World) (hc : CodeIn w a0 len0 cap0 z) (h : (len0 : Int) ≤ 1048576) (herr : Errs w) :
    Calls Tryd.prog 3 #[.slice a0 len0 cap0] w fun e w' => e = .returned (.bool true) ∧ Below w.heap.size w w' := by
  go_enter Tryd.func3, Tryd.ntmps3
  go_wp2_with fail
  refine (drawStreamOk a0 len0 cap0 z _ hc).mono ?_
  rintro e w1 ⟨S, pv, ps, rfl, hT, ⟨hS, hpl, hpb⟩, k1⟩
  obtain ⟨pa, pc, rfl, hT'⟩ := id hT
  clear hT'
  have he1 := herr.below k1
  have bA : Below w1.heap.size w1 (w1.alloc (.cells #[.string S, .slice pa ps.length pc] 25)) := (Below.refl _ _).alloc (Nat.le_refl _) _
  have hps : ∀ p ∈ ps, p.2.size ≤ 1073741824 := fun p hp => by have := (hpb p hp).2; omega
  have HPS := (show Hid (∀ p ∈ ps, p.2.size ≤ 1073741824) from hps)
  have HE := (show Hid (Errs (w1.alloc (.cells #[.string S, .slice pa ps.length pc] 25))) from he1.below bA)
  have HT := (show Hid (IsT (w1.alloc (.cells #[.string S, .slice pa ps.length pc] 25)) (.slice pa ps.length pc) ps) from hT.below bA)
  have HB := (show Hid (Below w.heap.size w (w1.alloc (.cells #[.string S, .slice pa ps.length pc] 25))) from k1.trans (bA.mono k1.size))
  clear hps hpb he1 hT k1 bA herr
  go_wp2_with fail
  refine (ok_stream S _ ps _ HT.out HE.out).mono ?_
  rintro e w2 ⟨rfl, k2⟩
  have c2 := keepc k2 w1.heap.size (by simp)
  have e0 : w2.cell? ⟨w1.heap.size, 0, none⟩ = some (.string S) := by rw [c2 0]; simp [go_sem]
  have e1 : w2.cell? ⟨w1.heap.size, 1, none⟩ = some (.slice pa ps.length pc) := by rw [c2 1]; simp [go_sem]
  have hl2 : w1.heap.size < w2.heap.size := by have := k2.size; simp at this; omega
  have HT2 := (show Hid (IsT w2 (.slice pa ps.length pc) ps) from HT.out.below k2)
  have HE2 := (show Hid (Errs w2) from HE.out.below k2)
  have HB2 := (show Hid (Below w.heap.size w w2) from HB.out.trans (k2.mono HB.out.size))
  clear k2 c2 HT HE HB
  obtain ⟨X, hX⟩ : ∃ X, w1.heap.size = X := ⟨_, rfl⟩
  rw [hX] at e0 e1 hl2 ⊢
  clear hX
  cases hst : stB S ps
  · go_wp2_with fail
    refine (StS.sstream_any S _ ps _ HT2.out (by omega) HPS.out).mono ?_
    rintro e w3 ⟨rfl, k3⟩
    rw [hst]
    have f0 := (k3.cell (p := ⟨X, 0, none⟩) hl2).trans e0
    have f1 := (k3.cell (p := ⟨X, 1, none⟩) hl2).trans e1
    have HT3 := (show Hid (IsT w3 (.slice pa ps.length pc) ps) from HT2.out.below k3)
    have HB3 := (show Hid (Below w.heap.size w w3) from HB2.out.trans (k3.mono HB2.out.size))
    clear k3 e0 e1 HT2 HB2
    go_wp2_with fail
    refine (StS.sstream_any S _ ps _ HT3.out (by omega) HPS.out).mono ?_
    rintro e w4 ⟨rfl, k4⟩
    rw [hst]
    go_wp2
    go_ret
    exact ⟨rfl, HB3.out.trans (k4.mono HB3.out.size)⟩
  · have hlen := (stB_parts.1 hst).2.1
    have hall := (stB_parts.1 hst).2.2
    have HST := (show Hid (stB S ps = true) from hst)
    go_wp2_with fail
    refine (StS.sstream_any S _ ps _ HT2.out (by omega) HPS.out).mono ?_
    rintro e w3 ⟨rfl, k3⟩
    rw [hst]
    have f0 := (k3.cell (p := ⟨X, 0, none⟩) hl2).trans e0
    have f1 := (k3.cell (p := ⟨X, 1, none⟩) hl2).trans e1
    have hl3 : X < w3.heap.size := by have := k3.size; omega
    have HT3 := (show Hid (IsT w3 (.slice pa ps.length pc) ps) from HT2.out.below k3)
    have HE3 := (show Hid (Errs w3) from HE2.out.below k3)
    have HB3 := (show Hid (Below w.heap.size w w3) from HB2.out.trans (k3.mono HB2.out.size))
    clear k3 e0 e1 HT2 HE2 HB2 hst
    go_wp2_with fail
    refine (pieces_is S _ rfl _ HE3.out).mono ?_
    rintro e w4 ⟨v4, rfl, hP, k4⟩
    generalize pieL S.data.toList = xs at hP hlen hall
    obtain ⟨va, vc, rfl⟩ := isP_slice hP
    have g0 := (k4.cell (p := ⟨X, 0, none⟩) hl3).trans f0
    have g1 := (k4.cell (p := ⟨X, 1, none⟩) hl3).trans f1
    have hl4 : X < w4.heap.size := by have := k4.size; omega
    have HT4 := (show Hid (IsT w4 (.slice pa ps.length pc) ps) from HT3.out.below k4)
    have HE4 := (show Hid (Errs w4) from HE3.out.below k4)
    have HB4 := (show Hid (Below w.heap.size w w4) from HB3.out.trans (k4.mono HB3.out.size))
    have HP := (show Hid (IsP w4 (.slice va xs.length vc) xs) from hP)
    have HALL := (show Hid (∀ (i : Nat) (x : Pc) (p : Int × ByteArray), xs[i]? = some x → ps[i]? = some p → partB x p = true) from hall)
    clear k4 f0 f1 HT3 HE3 HB3 hP hall
    go_wp2
    go_loopw [7] (fun i wr => ∃ k : Nat, k ≤ xs.length ∧ i = .int .i64 k ∧ Below w4.heap.size w4 wr) (fun i wr => xs.length - (intOf i).toNat)
    case atStart => exact ⟨0, Nat.zero_le _, rfl, Below.refl _ _⟩
    case round =>
      obtain ⟨k, hk, rfl, hb⟩ := hrel
      have m0 := (hb.cell (p := ⟨X, 0, none⟩) hl4).trans g0
      have m1 := (hb.cell (p := ⟨X, 1, none⟩) hl4).trans g1
      by_cases hkl : k < xs.length
      · have hkl' : (k : Int) < (xs.length : Int) := by omega
        have hkp' : (k : Int) < (ps.length : Int) := by omega
        have hx : xs[k]? = some xs[k] := List.getElem?_eq_getElem hkl
        have hp : ps[k]? = some (ps[k]'(by omega)) := List.getElem?_eq_getElem (by omega)
        obtain ⟨g, o, c, ev, x0, _⟩ := StS.isP_at (HP.out.below hb) k _ hx
        simp only [Value.slice.injEq] at ev
        obtain ⟨rfl, -, rfl⟩ := ev
        obtain ⟨a', c', ev', -, -, hr⟩ := HT4.out.below hb
        simp only [Value.slice.injEq] at ev'
        obtain ⟨rfl, -, rfl⟩ := ev'
        rcases hr with rfl | ⟨g', o', rfl, hat⟩
        · simp at hp
        obtain ⟨p0, p1⟩ := hat k _ hp
        have hpb := HALL.out k _ _ hx hp
        generalize xs[k] = x at hx x0 hpb
        generalize ps[k]'(by omega) = p at hp p0 p1 hpb
        have hp1 : p.1 = (x.sz : Int) := by
          simp only [partB, Bool.and_eq_true, decide_eq_true_eq] at hpb; exact hpb.1.1.1
        have hp2 : p.2.toList.isEmpty = false := by
          simp only [partB, Bool.and_eq_true, Bool.not_eq_true'] at hpb; exact hpb.1.1.2
        have hp3 : ¬ p.2.toList = [] := fun q => by rw [q] at hp2; cases hp2
        have HBW := (show Hid (Below w4.heap.size w4 wr) from hb)
        clear hat hpb hb HP HALL
        go_wp2_with fail
        go_quiet (fail)
        go_wp2
        go_roundw
        case rel => exact ⟨k + 1, by omega, by go_num, HBW.out.trans (Ms.below_drewN _ _ _)⟩
        case measure => simp [intOf]; omega
      · have hge : (xs.length : Int) ≤ (k : Int) := by omega
        have hge' : ¬ (k : Int) < (xs.length : Int) := by omega
        have hgp : ¬ (k : Int) < (ps.length : Int) := by omega
        have hgn : ¬ k < ps.length := by omega
        have hHB : Hid (Below w.heap.size w wr) := HB4.out.trans (hb.mono HB4.out.size)
        by_cases h0 : xs.length = 0
        · have h0' : ((ps.length : Int) == 0) = true := by rw [beq_iff_eq]; omega
          clear HALL HP h0
          have hmix : Tryd.prog.follows .mixedOrders = true := by kernel_rfl
          obtain ⟨VV, hVV⟩ : ∃ VV : Nat → Value, VV = fun j => [(.pointer (some ⟨X, 1, none⟩) : Value), .slice pa ps.length pc, .int .i64 (ps.length : Nat), .int .i64 (ps.length : Nat), .bool true, .bool true, .int .i64 (ps.length : Nat), .bool true, .bool true, undef, undef, undef, undef, undef, undef, undef, undef, undef, undef, .bool true, .bool true, .bool true].getD j undef := ⟨_, rfl⟩
          have V0 : VV 0 = .pointer (some ⟨X, 1, none⟩) := by rw [hVV]; rfl
          have V1 : VV 1 = .slice pa ps.length pc := by rw [hVV]; rfl
          have V2 : VV 2 = .int .i64 (ps.length : Nat) := by rw [hVV]; rfl
          have V3 : VV 3 = .int .i64 (ps.length : Nat) := by rw [hVV]; rfl
          have V4 : VV 4 = .bool true := by rw [hVV]; rfl
          have V5 : VV 5 = .bool true := by rw [hVV]; rfl
          have V6 : VV 6 = .int .i64 (ps.length : Nat) := by rw [hVV]; rfl
          have V7 : VV 7 = .bool true := by rw [hVV]; rfl
          have V8 : VV 8 = .bool true := by rw [hVV]; rfl
          have V9 : VV 9 = undef := by rw [hVV]; rfl
          have V10 : VV 10 = undef := by rw [hVV]; rfl
          have V11 : VV 11 = undef := by rw [hVV]; rfl
          have V12 : VV 12 = undef := by rw [hVV]; rfl
          have V13 : VV 13 = undef := by rw [hVV]; rfl
          have V14 : VV 14 = undef := by rw [hVV]; rfl
          have V15 : VV 15 = undef := by rw [hVV]; rfl
          have V16 : VV 16 = undef := by rw [hVV]; rfl
          have V17 : VV 17 = undef := by rw [hVV]; rfl
          have V18 : VV 18 = undef := by rw [hVV]; rfl
          have V19 : VV 19 = .bool true := by rw [hVV]; rfl
          have V20 : VV 20 = .bool true := by rw [hVV]; rfl
          have V21 : VV 21 = .bool true := by rw [hVV]; rfl
          clear hVV
          go_upto_region 14 with fail
          refine wp_region_any hmix ?_
          refine Ri.any_inv (I := fun l a' w' => l.size = 22 ∧ ∃ t : Nat → Value, a' = { tmps := #[.slice a0 len0 cap0, undef, t 21, .pointer (some ⟨X, 0, none⟩), .bool true, .slice va ps.length vc, .int .i64 (ps.length : Nat), .int .i64 (k : Nat), .slice a0 len0 cap0, .int .i64 (len0 : Nat), .bool (decide ((1048576 : Int) < (len0 : Int))), .slice a0 len0 cap0, .agg #[.string S, .slice pa ps.length pc], .agg #[.string S, .slice pa ps.length pc], .bool true, .bool true, .agg #[.string S, .slice pa ps.length pc], .bool true, .bool false, .bool false, .bool true, .bool false, .bool false, undef, undef, undef, undef, .pointer (some ⟨X, 0, none⟩), .string S, .slice va ps.length vc, .slice va ps.length vc, .int .i64 (ps.length : Nat), .int .i64 (k : Nat), .int .i64 (ps.length : Nat), .bool false, u35, u36, u37, u38, u39, u40, u41, u42, u43, u44, u45, u46, u47, u48, u49, u50, u51, u52, u53, u54, u55, u56, u57, t 0, t 1, t 2, t 3, t 4, t 5, t 6, t 7, t 8, t 9, t 10, t 11, t 12, t 13, t 14, t 15, t 16, t 17, t 18, t 19, t 20], defers := [] } ∧ Rg.Vals l VV t ∧ Ri.Ph1 (fun w9 => w9 = wr.drew) wr.drew (l.getD 17 false) w') ?sz ?low ?step ?fin _ _ _ _ ?start (Ri.closed_none _ _ _) (Rg.left_all _)
          case sz => exact fun l a' w' h => h.1
          case start => exact ⟨by simp, fun j => ([undef, undef, undef, undef, undef, undef, undef, undef, undef, undef, undef, undef, undef, undef, undef, undef, undef, undef, undef, undef, undef, u2] : List Value).getD j undef, rfl, Rg.vals_none _ _ _, by rw [Rg.rep_none]; rfl⟩
          case low => exact Ri.low_of (by kernel_rfl)
          case step =>
            rintro l a' w' i ⟨hsz, t, rfl, hv, hw⟩ hcl hi
            obtain ⟨h0, op, ho, hd⟩ := mem_ready.1 hi
            have hin : i < 22 := (Array.getElem?_eq_some_iff.1 ho).1
            have hnl := Rg.not_listed h0
            have hL1 : l.getD 17 false = true → ∀ j, j < 17 → l.getD j false = true := Ri.up_of (by kernel_rfl) hcl
            clear h0 hi hcl
            have hc : i = 0 ∨ i = 1 ∨ i = 2 ∨ i = 3 ∨ i = 4 ∨ i = 5 ∨ i = 6 ∨ i = 7 ∨ i = 8 ∨ i = 9 ∨ i = 10 ∨ i = 11 ∨ i = 12 ∨ i = 13 ∨ i = 14 ∨ i = 15 ∨ i = 16 ∨ i = 17 ∨ i = 18 ∨ i = 19 ∨ i = 20 ∨ i = 21 := by omega
            rcases hc with rfl | rfl | rfl | rfl | rfl | rfl | rfl | rfl | rfl | rfl | rfl | rfl | rfl | rfl | rfl | rfl | rfl | rfl | rfl | rfl | rfl | rfl
            · obtain rfl : _ = op := Option.some.inj (show some _ = some op from ho)
              have HW := (show Hid _ from hw)
              clear hw
              have HV := (show Hid (Rg.Vals l VV t) from hv)
              clear hv hd ho
              refine wpOp_step rfl fun K9 hK9 => ?_
              have HKK := (show Hid _ from hK9)
              clear hK9
              go_simp
              refine HKK.out _ _ ⟨by simp [hsz], fun j => if j = 0 then .pointer (some ⟨X, 1, none⟩) else t j, by simp, HV.out.put 0 _ V0.symm, ?_⟩
              rw [getD_set_ne false (by omega)]; exact HW.out
            · obtain rfl : _ = op := Option.some.inj (show some _ = some op from ho)
              have e0 : t 0 = .pointer (some ⟨X, 1, none⟩) := (hv 0 (hd { on := 0, ground := .data } (by simp) rfl)).trans V0
              have qc : l.getD 17 false = false := by
                cases q : l.getD 17 false
                · rfl
                · rw [hL1 q 1 (by omega)] at hnl; cases hnl
              rw [qc] at hw
              obtain rfl : w' = wr.drew := hw
              have HV := (show Hid (Rg.Vals l VV t) from hv)
              clear hv hd ho
              refine wpOp_step rfl fun K9 hK9 => ?_
              have HKK := (show Hid _ from hK9)
              clear hK9
              go_simp
              refine HKK.out _ _ ⟨by simp [hsz], fun j => if j = 1 then .slice pa ps.length pc else t j, by simp [e0], HV.out.put 1 _ V1.symm, ?_⟩
              rw [getD_set_ne false (by omega), qc]; rfl
            · obtain rfl : _ = op := Option.some.inj (show some _ = some op from ho)
              have e1 : t 1 = .slice pa ps.length pc := (hv 1 (hd { on := 1, ground := .data } (by simp) rfl)).trans V1
              have HW := (show Hid _ from hw)
              clear hw
              have HV := (show Hid (Rg.Vals l VV t) from hv)
              clear hv hd ho
              refine wpOp_step rfl fun K9 hK9 => ?_
              have HKK := (show Hid _ from hK9)
              clear hK9
              go_simp
              refine HKK.out _ _ ⟨by simp [hsz], fun j => if j = 2 then .int .i64 (ps.length : Nat) else t j, by simp [e1], HV.out.put 2 _ V2.symm, ?_⟩
              rw [getD_set_ne false (by omega)]; exact HW.out
            · obtain rfl : _ = op := Option.some.inj (show some _ = some op from ho)
              have HW := (show Hid _ from hw)
              clear hw
              have HV := (show Hid (Rg.Vals l VV t) from hv)
              clear hv hd ho
              refine wpOp_step rfl fun K9 hK9 => ?_
              have HKK := (show Hid _ from hK9)
              clear hK9
              go_simp
              refine HKK.out _ _ ⟨by simp [hsz], fun j => if j = 3 then .int .i64 (ps.length : Nat) else t j, by simp, HV.out.put 3 _ V3.symm, ?_⟩
              rw [getD_set_ne false (by omega)]; exact HW.out
            · obtain rfl : _ = op := Option.some.inj (show some _ = some op from ho)
              have e2 : t 2 = .int .i64 (ps.length : Nat) := (hv 2 (hd { on := 2, ground := .data } (by simp) rfl)).trans V2
              have e3 : t 3 = .int .i64 (ps.length : Nat) := (hv 3 (hd { on := 3, ground := .data } (by simp) rfl)).trans V3
              have HW := (show Hid _ from hw)
              clear hw
              have HV := (show Hid (Rg.Vals l VV t) from hv)
              clear hv hd ho
              refine wpOp_step rfl fun K9 hK9 => ?_
              have HKK := (show Hid _ from hK9)
              clear hK9
              go_simp
              refine HKK.out _ _ ⟨by simp [hsz], fun j => if j = 4 then .bool true else t j, by simp [e2, e3], HV.out.put 4 _ V4.symm, ?_⟩
              rw [getD_set_ne false (by omega)]; exact HW.out
            · obtain rfl : _ = op := Option.some.inj (show some _ = some op from ho)
              have e4 : t 4 = .bool true := (hv 4 (hd { on := 4, ground := .data } (by simp) rfl)).trans V4
              have HW := (show Hid _ from hw)
              clear hw
              have HV := (show Hid (Rg.Vals l VV t) from hv)
              clear hv hd ho
              refine wpOp_step rfl fun K9 hK9 => ?_
              have HKK := (show Hid _ from hK9)
              clear hK9
              go_simp
              refine HKK.out _ _ ⟨by simp [hsz], fun j => if j = 5 then .bool true else t j, by simp [e4], HV.out.put 5 _ V5.symm, ?_⟩
              rw [getD_set_ne false (by omega)]; exact HW.out
            · obtain rfl : _ = op := Option.some.inj (show some _ = some op from ho)
              have e5 : t 5 = .bool true := (hv 5 (hd { on := 5, ground := .guard } (by simp) rfl)).trans V5
              have HW := (show Hid _ from hw)
              clear hw
              have HV := (show Hid (Rg.Vals l VV t) from hv)
              clear hv hd ho
              refine wpOp_step rfl fun K9 hK9 => ?_
              have HKK := (show Hid _ from hK9)
              clear hK9
              go_simp
              refine HKK.out _ _ ⟨by simp [hsz], fun j => if j = 6 then .int .i64 (ps.length : Nat) else t j, by simp [e5], HV.out.put 6 _ V6.symm, ?_⟩
              rw [getD_set_ne false (by omega)]; exact HW.out
            · obtain rfl : _ = op := Option.some.inj (show some _ = some op from ho)
              have e6 : t 6 = .int .i64 (ps.length : Nat) := (hv 6 (hd { on := 6, ground := .data } (by simp) rfl)).trans V6
              have e5 : t 5 = .bool true := (hv 5 (hd { on := 5, ground := .guard } (by simp) rfl)).trans V5
              have HW := (show Hid _ from hw)
              clear hw
              have HV := (show Hid (Rg.Vals l VV t) from hv)
              clear hv hd ho
              refine wpOp_step rfl fun K9 hK9 => ?_
              have HKK := (show Hid _ from hK9)
              clear hK9
              go_simp
              refine HKK.out _ _ ⟨by simp [hsz], fun j => if j = 7 then .bool true else t j, by simp [e6, e5], HV.out.put 7 _ V7.symm, ?_⟩
              rw [getD_set_ne false (by omega)]; exact HW.out
            · obtain rfl : _ = op := Option.some.inj (show some _ = some op from ho)
              have e7 : t 7 = .bool true := (hv 7 (hd { on := 7, ground := .data } (by simp) rfl)).trans V7
              have e5 : t 5 = .bool true := (hv 5 (hd { on := 5, ground := .guard } (by simp) rfl)).trans V5
              have HW := (show Hid _ from hw)
              clear hw
              have HV := (show Hid (Rg.Vals l VV t) from hv)
              clear hv hd ho
              refine wpOp_step rfl fun K9 hK9 => ?_
              have HKK := (show Hid _ from hK9)
              clear hK9
              go_simp
              refine HKK.out _ _ ⟨by simp [hsz], fun j => if j = 8 then .bool true else t j, by simp [e7, e5], HV.out.put 8 _ V8.symm, ?_⟩
              rw [getD_set_ne false (by omega)]; exact HW.out
            · obtain rfl : _ = op := Option.some.inj (show some _ = some op from ho)
              have e8 : t 8 = .bool true := (hv 8 (hd { on := 8, ground := .guard } (by simp) rfl)).trans V8
              have HW := (show Hid _ from hw)
              clear hw
              have HV := (show Hid (Rg.Vals l VV t) from hv)
              clear hv hd ho
              refine wpOp_step rfl fun K9 hK9 => ?_
              have HKK := (show Hid _ from hK9)
              clear hK9
              go_simp
              refine HKK.out _ _ ⟨by simp [hsz], fun j => if j = 9 then undef else t j, by simp [e8], HV.out.put 9 _ V9.symm, ?_⟩
              rw [getD_set_ne false (by omega)]; exact HW.out
            · obtain rfl : _ = op := Option.some.inj (show some _ = some op from ho)
              have e9 : t 9 = undef := (hv 9 (hd { on := 9, ground := .data } (by simp) rfl)).trans V9
              have e8 : t 8 = .bool true := (hv 8 (hd { on := 8, ground := .guard } (by simp) rfl)).trans V8
              have HW := (show Hid _ from hw)
              clear hw
              have HV := (show Hid (Rg.Vals l VV t) from hv)
              clear hv hd ho
              refine wpOp_step rfl fun K9 hK9 => ?_
              have HKK := (show Hid _ from hK9)
              clear hK9
              go_simp
              refine HKK.out _ _ ⟨by simp [hsz], fun j => if j = 10 then undef else t j, by simp [e9, e8], HV.out.put 10 _ V10.symm, ?_⟩
              rw [getD_set_ne false (by omega)]; exact HW.out
            · obtain rfl : _ = op := Option.some.inj (show some _ = some op from ho)
              have e8 : t 8 = .bool true := (hv 8 (hd { on := 8, ground := .guard } (by simp) rfl)).trans V8
              have HW := (show Hid _ from hw)
              clear hw
              have HV := (show Hid (Rg.Vals l VV t) from hv)
              clear hv hd ho
              refine wpOp_step rfl fun K9 hK9 => ?_
              have HKK := (show Hid _ from hK9)
              clear hK9
              go_simp
              refine HKK.out _ _ ⟨by simp [hsz], fun j => if j = 11 then undef else t j, by simp [e8], HV.out.put 11 _ V11.symm, ?_⟩
              rw [getD_set_ne false (by omega)]; exact HW.out
            · obtain rfl : _ = op := Option.some.inj (show some _ = some op from ho)
              have e11 : t 11 = undef := (hv 11 (hd { on := 11, ground := .data } (by simp) rfl)).trans V11
              have e8 : t 8 = .bool true := (hv 8 (hd { on := 8, ground := .guard } (by simp) rfl)).trans V8
              have HW := (show Hid _ from hw)
              clear hw
              have HV := (show Hid (Rg.Vals l VV t) from hv)
              clear hv hd ho
              refine wpOp_step rfl fun K9 hK9 => ?_
              have HKK := (show Hid _ from hK9)
              clear hK9
              go_simp
              refine HKK.out _ _ ⟨by simp [hsz], fun j => if j = 12 then undef else t j, by simp [e11, e8], HV.out.put 12 _ V12.symm, ?_⟩
              rw [getD_set_ne false (by omega)]; exact HW.out
            · obtain rfl : _ = op := Option.some.inj (show some _ = some op from ho)
              have e8 : t 8 = .bool true := (hv 8 (hd { on := 8, ground := .guard } (by simp) rfl)).trans V8
              have HW := (show Hid _ from hw)
              clear hw
              have HV := (show Hid (Rg.Vals l VV t) from hv)
              clear hv hd ho
              refine wpOp_step rfl fun K9 hK9 => ?_
              have HKK := (show Hid _ from hK9)
              clear hK9
              go_simp
              refine HKK.out _ _ ⟨by simp [hsz], fun j => if j = 13 then undef else t j, by simp [e8], HV.out.put 13 _ V13.symm, ?_⟩
              rw [getD_set_ne false (by omega)]; exact HW.out
            · obtain rfl : _ = op := Option.some.inj (show some _ = some op from ho)
              have e13 : t 13 = undef := (hv 13 (hd { on := 13, ground := .data } (by simp) rfl)).trans V13
              have e8 : t 8 = .bool true := (hv 8 (hd { on := 8, ground := .guard } (by simp) rfl)).trans V8
              have HW := (show Hid _ from hw)
              clear hw
              have HV := (show Hid (Rg.Vals l VV t) from hv)
              clear hv hd ho
              refine wpOp_step rfl fun K9 hK9 => ?_
              have HKK := (show Hid _ from hK9)
              clear hK9
              go_simp
              refine HKK.out _ _ ⟨by simp [hsz], fun j => if j = 14 then undef else t j, by simp [e13, e8], HV.out.put 14 _ V14.symm, ?_⟩
              rw [getD_set_ne false (by omega)]; exact HW.out
            · obtain rfl : _ = op := Option.some.inj (show some _ = some op from ho)
              have e12 : t 12 = undef := (hv 12 (hd { on := 12, ground := .data } (by simp) rfl)).trans V12
              have e14 : t 14 = undef := (hv 14 (hd { on := 14, ground := .data } (by simp) rfl)).trans V14
              have e8 : t 8 = .bool true := (hv 8 (hd { on := 8, ground := .guard } (by simp) rfl)).trans V8
              have HW := (show Hid _ from hw)
              clear hw
              have HV := (show Hid (Rg.Vals l VV t) from hv)
              clear hv hd ho
              refine wpOp_step rfl fun K9 hK9 => ?_
              have HKK := (show Hid _ from hK9)
              clear hK9
              go_simp
              refine HKK.out _ _ ⟨by simp [hsz], fun j => if j = 15 then undef else t j, by simp [e12, e14, e8], HV.out.put 15 _ V15.symm, ?_⟩
              rw [getD_set_ne false (by omega)]; exact HW.out
            · obtain rfl : _ = op := Option.some.inj (show some _ = some op from ho)
              have e10 : t 10 = undef := (hv 10 (hd { on := 10, ground := .data } (by simp) rfl)).trans V10
              have e15 : t 15 = undef := (hv 15 (hd { on := 15, ground := .data } (by simp) rfl)).trans V15
              have e8 : t 8 = .bool true := (hv 8 (hd { on := 8, ground := .guard } (by simp) rfl)).trans V8
              have HW := (show Hid _ from hw)
              clear hw
              have HV := (show Hid (Rg.Vals l VV t) from hv)
              clear hv hd ho
              refine wpOp_step rfl fun K9 hK9 => ?_
              have HKK := (show Hid _ from hK9)
              clear hK9
              go_simp
              refine HKK.out _ _ ⟨by simp [hsz], fun j => if j = 16 then undef else t j, by simp [e10, e15, e8], HV.out.put 16 _ V16.symm, ?_⟩
              rw [getD_set_ne false (by omega)]; exact HW.out
            · obtain rfl : _ = op := Option.some.inj (show some _ = some op from ho)
              have e16 : t 16 = undef := (hv 16 (hd { on := 16, ground := .data } (by simp) rfl)).trans V16
              have e8 : t 8 = .bool true := (hv 8 (hd { on := 8, ground := .guard } (by simp) rfl)).trans V8
              have HW := (show Hid _ from hw)
              clear hw
              have HV := (show Hid (Rg.Vals l VV t) from hv)
              clear hv hd ho
              refine wpOp_step rfl fun K9 hK9 => ?_
              have HKK := (show Hid _ from hK9)
              clear hK9
              go_simp
              refine HKK.out _ _ ⟨by simp [hsz], fun j => if j = 17 then undef else t j, by simp [e16, e8], HV.out.put 17 _ V17.symm, ?_⟩
              rw [Rg.set_same (by omega)]; have hww := HW.out; rw [hnl] at hww; exact hww
            · obtain rfl : _ = op := Option.some.inj (show some _ = some op from ho)
              have e17 : t 17 = undef := (hv 17 (hd { on := 17, ground := .data } (by simp) rfl)).trans V17
              have e8 : t 8 = .bool true := (hv 8 (hd { on := 8, ground := .guard } (by simp) rfl)).trans V8
              have HW := (show Hid _ from hw)
              clear hw
              have HV := (show Hid (Rg.Vals l VV t) from hv)
              clear hv hd ho
              refine wpOp_step rfl fun K9 hK9 => ?_
              have HKK := (show Hid _ from hK9)
              clear hK9
              go_simp
              refine HKK.out _ _ ⟨by simp [hsz], fun j => if j = 18 then undef else t j, by simp [e17, e8], HV.out.put 18 _ V18.symm, ?_⟩
              rw [getD_set_ne false (by omega)]; exact HW.out
            · obtain rfl : _ = op := Option.some.inj (show some _ = some op from ho)
              have e8 : t 8 = .bool true := (hv 8 (hd { on := 8, ground := .data } (by simp) rfl)).trans V8
              have e18 : t 18 = undef := (hv 18 (hd { on := 18, ground := .data } (by simp) rfl)).trans V18
              have e5 : t 5 = .bool true := (hv 5 (hd { on := 5, ground := .guard } (by simp) rfl)).trans V5
              have HW := (show Hid _ from hw)
              clear hw
              have HV := (show Hid (Rg.Vals l VV t) from hv)
              clear hv hd ho
              refine wpOp_step rfl fun K9 hK9 => ?_
              have HKK := (show Hid _ from hK9)
              clear hK9
              go_simp
              refine HKK.out _ _ ⟨by simp [hsz], fun j => if j = 19 then .bool true else t j, by simp [e8, e18, e5], HV.out.put 19 _ V19.symm, ?_⟩
              rw [getD_set_ne false (by omega)]; exact HW.out
            · obtain rfl : _ = op := Option.some.inj (show some _ = some op from ho)
              have e5 : t 5 = .bool true := (hv 5 (hd { on := 5, ground := .data } (by simp) rfl)).trans V5
              have e19 : t 19 = .bool true := (hv 19 (hd { on := 19, ground := .data } (by simp) rfl)).trans V19
              have HW := (show Hid _ from hw)
              clear hw
              have HV := (show Hid (Rg.Vals l VV t) from hv)
              clear hv hd ho
              refine wpOp_step rfl fun K9 hK9 => ?_
              have HKK := (show Hid _ from hK9)
              clear hK9
              go_simp
              refine HKK.out _ _ ⟨by simp [hsz], fun j => if j = 20 then .bool true else t j, by simp [e5, e19], HV.out.put 20 _ V20.symm, ?_⟩
              rw [getD_set_ne false (by omega)]; exact HW.out
            · obtain rfl : _ = op := Option.some.inj (show some _ = some op from ho)
              have e20 : t 20 = .bool true := (hv 20 (hd { on := 20, ground := .data } (by simp) rfl)).trans V20
              have HW := (show Hid _ from hw)
              clear hw
              have HV := (show Hid (Rg.Vals l VV t) from hv)
              clear hv hd ho
              refine wpOp_step rfl fun K9 hK9 => ?_
              have HKK := (show Hid _ from hK9)
              clear hK9
              go_simp
              refine HKK.out _ _ ⟨by simp [hsz], fun j => if j = 21 then .bool true else t j, by simp [e20], HV.out.put 21 _ V21.symm, ?_⟩
              rw [getD_set_ne false (by omega)]; exact HW.out
          case fin =>
            rintro l a' w' ⟨hsz, t, rfl, hv, hw⟩ hall
            rw [hall 17 (by simp)] at hw
            obtain rfl := hw
            have e21 : t 21 = .bool true := (hv 21 (hall 21 (by simp))).trans V21
            rw [e21]
            clear hv hall e21
            go_wp2
            go_ret
            exact ⟨rfl, hHB.out.trans (Below.refl _ _).drew⟩
        · have h0' : ((ps.length : Int) == 0) = false := by rw [beq_eq_false_iff_ne]; omega
          obtain ⟨m, hm⟩ : ∃ m, ps.length = m + 1 := ⟨ps.length - 1, by omega⟩
          have hw : IntKind.i64.wrap ((ps.length : Int) - 1) = (m : Int) := by simp [IntKind.wrap, IntKind.bits, IntKind.signed]; omega
          have hw' : (ps.length : Int) - 1 = (m : Int) := by omega
          have hwm : IntKind.i64.wrap (m : Int) = (m : Int) := by simp [IntKind.wrap, IntKind.bits, IntKind.signed]; omega
          have hpc : (m : Int) ≤ (pc : Int) := by
            obtain ⟨_, _, e, q, _⟩ := HT4.out
            simp only [Value.slice.injEq] at e
            omega
          have arm : Calls Tryd.prog 5 #[.agg #[.string S, .slice pa m pc]] wr.drew fun e w' => e = .returned (.bool false) ∧ Below wr.heap.size wr w' := by
            have hT5 : IsT wr.drew (.slice pa m pc) (ps.take m) := isT_take ((HT4.out.below hb).below (Below.refl _ _).drew) m (by omega)
            refine (ok_stream S _ (ps.take m) _ hT5 ((HE4.out.below hb).below (Below.refl _ _).drew)).mono ?_
            rintro e w' ⟨rfl, k⟩
            rw [stB_less HST.out m (by omega)]
            exact ⟨rfl, (Below.refl _ _).drew.trans k⟩
          have hmN : m ≤ 40 := by omega
          have HM := (show Hid (ps.length = m + 1) from hm)
          clear HALL HP hm hb h0
          have hmix : Tryd.prog.follows .mixedOrders = true := by kernel_rfl
          obtain ⟨VV, hVV⟩ : ∃ VV : Nat → Value, VV = fun j => [(.pointer (some ⟨X, 1, none⟩) : Value), .slice pa ps.length pc, .int .i64 (ps.length : Nat), .int .i64 (ps.length : Nat), .bool true, .bool true, .int .i64 (ps.length : Nat), .bool false, .bool false, .pointer (some ⟨X, 0, none⟩), .string S, .pointer (some ⟨X, 1, none⟩), .slice pa ps.length pc, .int .i64 (ps.length : Nat), .int .i64 (m : Nat), .slice pa m pc, .agg #[.string S, .slice pa m pc], .bool false, .bool true, .bool true, .bool true, .bool true].getD j undef := ⟨_, rfl⟩
          have V0 : VV 0 = .pointer (some ⟨X, 1, none⟩) := by rw [hVV]; rfl
          have V1 : VV 1 = .slice pa ps.length pc := by rw [hVV]; rfl
          have V2 : VV 2 = .int .i64 (ps.length : Nat) := by rw [hVV]; rfl
          have V3 : VV 3 = .int .i64 (ps.length : Nat) := by rw [hVV]; rfl
          have V4 : VV 4 = .bool true := by rw [hVV]; rfl
          have V5 : VV 5 = .bool true := by rw [hVV]; rfl
          have V6 : VV 6 = .int .i64 (ps.length : Nat) := by rw [hVV]; rfl
          have V7 : VV 7 = .bool false := by rw [hVV]; rfl
          have V8 : VV 8 = .bool false := by rw [hVV]; rfl
          have V9 : VV 9 = .pointer (some ⟨X, 0, none⟩) := by rw [hVV]; rfl
          have V10 : VV 10 = .string S := by rw [hVV]; rfl
          have V11 : VV 11 = .pointer (some ⟨X, 1, none⟩) := by rw [hVV]; rfl
          have V12 : VV 12 = .slice pa ps.length pc := by rw [hVV]; rfl
          have V13 : VV 13 = .int .i64 (ps.length : Nat) := by rw [hVV]; rfl
          have V14 : VV 14 = .int .i64 (m : Nat) := by rw [hVV]; rfl
          have V15 : VV 15 = .slice pa m pc := by rw [hVV]; rfl
          have V16 : VV 16 = .agg #[.string S, .slice pa m pc] := by rw [hVV]; rfl
          have V17 : VV 17 = .bool false := by rw [hVV]; rfl
          have V18 : VV 18 = .bool true := by rw [hVV]; rfl
          have V19 : VV 19 = .bool true := by rw [hVV]; rfl
          have V20 : VV 20 = .bool true := by rw [hVV]; rfl
          have V21 : VV 21 = .bool true := by rw [hVV]; rfl
          clear hVV
          go_upto_region 14 with fail
          refine wp_region_any hmix ?_
          refine Ri.any_inv (I := fun l a' w' => l.size = 22 ∧ ∃ t : Nat → Value, a' = { tmps := #[.slice a0 len0 cap0, undef, t 21, .pointer (some ⟨X, 0, none⟩), .bool true, .slice va ps.length vc, .int .i64 (ps.length : Nat), .int .i64 (k : Nat), .slice a0 len0 cap0, .int .i64 (len0 : Nat), .bool (decide ((1048576 : Int) < (len0 : Int))), .slice a0 len0 cap0, .agg #[.string S, .slice pa ps.length pc], .agg #[.string S, .slice pa ps.length pc], .bool true, .bool true, .agg #[.string S, .slice pa ps.length pc], .bool true, .bool false, .bool false, .bool true, .bool false, .bool false, undef, undef, undef, undef, .pointer (some ⟨X, 0, none⟩), .string S, .slice va ps.length vc, .slice va ps.length vc, .int .i64 (ps.length : Nat), .int .i64 (k : Nat), .int .i64 (ps.length : Nat), .bool false, u35, u36, u37, u38, u39, u40, u41, u42, u43, u44, u45, u46, u47, u48, u49, u50, u51, u52, u53, u54, u55, u56, u57, t 0, t 1, t 2, t 3, t 4, t 5, t 6, t 7, t 8, t 9, t 10, t 11, t 12, t 13, t 14, t 15, t 16, t 17, t 18, t 19, t 20], defers := [] } ∧ Rg.Vals l VV t ∧ Ri.Ph1 (fun w9 => Below wr.heap.size wr w9) wr.drew (l.getD 17 false) w') ?sz ?low ?step ?fin _ _ _ _ ?start (Ri.closed_none _ _ _) (Rg.left_all _)
          case sz => exact fun l a' w' h => h.1
          case start => exact ⟨by simp, fun j => ([undef, undef, undef, undef, undef, undef, undef, undef, undef, undef, undef, undef, undef, undef, undef, undef, undef, undef, undef, undef, undef, u2] : List Value).getD j undef, rfl, Rg.vals_none _ _ _, by rw [Rg.rep_none]; rfl⟩
          case low => exact Ri.low_of (by kernel_rfl)
          case step =>
            rintro l a' w' i ⟨hsz, t, rfl, hv, hw⟩ hcl hi
            obtain ⟨h0, op, ho, hd⟩ := mem_ready.1 hi
            have hin : i < 22 := (Array.getElem?_eq_some_iff.1 ho).1
            have hnl := Rg.not_listed h0
            have hL1 : l.getD 17 false = true → ∀ j, j < 17 → l.getD j false = true := Ri.up_of (by kernel_rfl) hcl
            clear h0 hi hcl
            have hc : i = 0 ∨ i = 1 ∨ i = 2 ∨ i = 3 ∨ i = 4 ∨ i = 5 ∨ i = 6 ∨ i = 7 ∨ i = 8 ∨ i = 9 ∨ i = 10 ∨ i = 11 ∨ i = 12 ∨ i = 13 ∨ i = 14 ∨ i = 15 ∨ i = 16 ∨ i = 17 ∨ i = 18 ∨ i = 19 ∨ i = 20 ∨ i = 21 := by omega
            rcases hc with rfl | rfl | rfl | rfl | rfl | rfl | rfl | rfl | rfl | rfl | rfl | rfl | rfl | rfl | rfl | rfl | rfl | rfl | rfl | rfl | rfl | rfl
            · obtain rfl : _ = op := Option.some.inj (show some _ = some op from ho)
              have HW := (show Hid _ from hw)
              clear hw
              have HV := (show Hid (Rg.Vals l VV t) from hv)
              clear hv hd ho
              refine wpOp_step rfl fun K9 hK9 => ?_
              have HKK := (show Hid _ from hK9)
              clear hK9
              go_simp
              refine HKK.out _ _ ⟨by simp [hsz], fun j => if j = 0 then .pointer (some ⟨X, 1, none⟩) else t j, by simp, HV.out.put 0 _ V0.symm, ?_⟩
              rw [getD_set_ne false (by omega)]; exact HW.out
            · obtain rfl : _ = op := Option.some.inj (show some _ = some op from ho)
              have e0 : t 0 = .pointer (some ⟨X, 1, none⟩) := (hv 0 (hd { on := 0, ground := .data } (by simp) rfl)).trans V0
              have qc : l.getD 17 false = false := by
                cases q : l.getD 17 false
                · rfl
                · rw [hL1 q 1 (by omega)] at hnl; cases hnl
              rw [qc] at hw
              obtain rfl : w' = wr.drew := hw
              have HV := (show Hid (Rg.Vals l VV t) from hv)
              clear hv hd ho
              refine wpOp_step rfl fun K9 hK9 => ?_
              have HKK := (show Hid _ from hK9)
              clear hK9
              go_simp
              refine HKK.out _ _ ⟨by simp [hsz], fun j => if j = 1 then .slice pa ps.length pc else t j, by simp [e0], HV.out.put 1 _ V1.symm, ?_⟩
              rw [getD_set_ne false (by omega), qc]; rfl
            · obtain rfl : _ = op := Option.some.inj (show some _ = some op from ho)
              have e1 : t 1 = .slice pa ps.length pc := (hv 1 (hd { on := 1, ground := .data } (by simp) rfl)).trans V1
              have HW := (show Hid _ from hw)
              clear hw
              have HV := (show Hid (Rg.Vals l VV t) from hv)
              clear hv hd ho
              refine wpOp_step rfl fun K9 hK9 => ?_
              have HKK := (show Hid _ from hK9)
              clear hK9
              go_simp
              refine HKK.out _ _ ⟨by simp [hsz], fun j => if j = 2 then .int .i64 (ps.length : Nat) else t j, by simp [e1], HV.out.put 2 _ V2.symm, ?_⟩
              rw [getD_set_ne false (by omega)]; exact HW.out
            · obtain rfl : _ = op := Option.some.inj (show some _ = some op from ho)
              have HW := (show Hid _ from hw)
              clear hw
              have HV := (show Hid (Rg.Vals l VV t) from hv)
              clear hv hd ho
              refine wpOp_step rfl fun K9 hK9 => ?_
              have HKK := (show Hid _ from hK9)
              clear hK9
              go_simp
              refine HKK.out _ _ ⟨by simp [hsz], fun j => if j = 3 then .int .i64 (ps.length : Nat) else t j, by simp, HV.out.put 3 _ V3.symm, ?_⟩
              rw [getD_set_ne false (by omega)]; exact HW.out
            · obtain rfl : _ = op := Option.some.inj (show some _ = some op from ho)
              have e2 : t 2 = .int .i64 (ps.length : Nat) := (hv 2 (hd { on := 2, ground := .data } (by simp) rfl)).trans V2
              have e3 : t 3 = .int .i64 (ps.length : Nat) := (hv 3 (hd { on := 3, ground := .data } (by simp) rfl)).trans V3
              have HW := (show Hid _ from hw)
              clear hw
              have HV := (show Hid (Rg.Vals l VV t) from hv)
              clear hv hd ho
              refine wpOp_step rfl fun K9 hK9 => ?_
              have HKK := (show Hid _ from hK9)
              clear hK9
              go_simp
              refine HKK.out _ _ ⟨by simp [hsz], fun j => if j = 4 then .bool true else t j, by simp [e2, e3], HV.out.put 4 _ V4.symm, ?_⟩
              rw [getD_set_ne false (by omega)]; exact HW.out
            · obtain rfl : _ = op := Option.some.inj (show some _ = some op from ho)
              have e4 : t 4 = .bool true := (hv 4 (hd { on := 4, ground := .data } (by simp) rfl)).trans V4
              have HW := (show Hid _ from hw)
              clear hw
              have HV := (show Hid (Rg.Vals l VV t) from hv)
              clear hv hd ho
              refine wpOp_step rfl fun K9 hK9 => ?_
              have HKK := (show Hid _ from hK9)
              clear hK9
              go_simp
              refine HKK.out _ _ ⟨by simp [hsz], fun j => if j = 5 then .bool true else t j, by simp [e4], HV.out.put 5 _ V5.symm, ?_⟩
              rw [getD_set_ne false (by omega)]; exact HW.out
            · obtain rfl : _ = op := Option.some.inj (show some _ = some op from ho)
              have e5 : t 5 = .bool true := (hv 5 (hd { on := 5, ground := .guard } (by simp) rfl)).trans V5
              have HW := (show Hid _ from hw)
              clear hw
              have HV := (show Hid (Rg.Vals l VV t) from hv)
              clear hv hd ho
              refine wpOp_step rfl fun K9 hK9 => ?_
              have HKK := (show Hid _ from hK9)
              clear hK9
              go_simp
              refine HKK.out _ _ ⟨by simp [hsz], fun j => if j = 6 then .int .i64 (ps.length : Nat) else t j, by simp [e5], HV.out.put 6 _ V6.symm, ?_⟩
              rw [getD_set_ne false (by omega)]; exact HW.out
            · obtain rfl : _ = op := Option.some.inj (show some _ = some op from ho)
              have e6 : t 6 = .int .i64 (ps.length : Nat) := (hv 6 (hd { on := 6, ground := .data } (by simp) rfl)).trans V6
              have e5 : t 5 = .bool true := (hv 5 (hd { on := 5, ground := .guard } (by simp) rfl)).trans V5
              have HW := (show Hid _ from hw)
              clear hw
              have HV := (show Hid (Rg.Vals l VV t) from hv)
              clear hv hd ho
              refine wpOp_step rfl fun K9 hK9 => ?_
              have HKK := (show Hid _ from hK9)
              clear hK9
              go_simp
              refine HKK.out _ _ ⟨by simp [hsz], fun j => if j = 7 then .bool false else t j, by simp [e6, e5], HV.out.put 7 _ V7.symm, ?_⟩
              rw [getD_set_ne false (by omega)]; exact HW.out
            · obtain rfl : _ = op := Option.some.inj (show some _ = some op from ho)
              have e7 : t 7 = .bool false := (hv 7 (hd { on := 7, ground := .data } (by simp) rfl)).trans V7
              have e5 : t 5 = .bool true := (hv 5 (hd { on := 5, ground := .guard } (by simp) rfl)).trans V5
              have HW := (show Hid _ from hw)
              clear hw
              have HV := (show Hid (Rg.Vals l VV t) from hv)
              clear hv hd ho
              refine wpOp_step rfl fun K9 hK9 => ?_
              have HKK := (show Hid _ from hK9)
              clear hK9
              go_simp
              refine HKK.out _ _ ⟨by simp [hsz], fun j => if j = 8 then .bool false else t j, by simp [e7, e5], HV.out.put 8 _ V8.symm, ?_⟩
              rw [getD_set_ne false (by omega)]; exact HW.out
            · obtain rfl : _ = op := Option.some.inj (show some _ = some op from ho)
              have e8 : t 8 = .bool false := (hv 8 (hd { on := 8, ground := .guard } (by simp) rfl)).trans V8
              have HW := (show Hid _ from hw)
              clear hw
              have HV := (show Hid (Rg.Vals l VV t) from hv)
              clear hv hd ho
              refine wpOp_step rfl fun K9 hK9 => ?_
              have HKK := (show Hid _ from hK9)
              clear hK9
              go_simp
              refine HKK.out _ _ ⟨by simp [hsz], fun j => if j = 9 then .pointer (some ⟨X, 0, none⟩) else t j, by simp [e8], HV.out.put 9 _ V9.symm, ?_⟩
              rw [getD_set_ne false (by omega)]; exact HW.out
            · obtain rfl : _ = op := Option.some.inj (show some _ = some op from ho)
              have e9 : t 9 = .pointer (some ⟨X, 0, none⟩) := (hv 9 (hd { on := 9, ground := .data } (by simp) rfl)).trans V9
              have e8 : t 8 = .bool false := (hv 8 (hd { on := 8, ground := .guard } (by simp) rfl)).trans V8
              have qc : l.getD 17 false = false := by
                cases q : l.getD 17 false
                · rfl
                · rw [hL1 q 10 (by omega)] at hnl; cases hnl
              rw [qc] at hw
              obtain rfl : w' = wr.drew := hw
              have HV := (show Hid (Rg.Vals l VV t) from hv)
              clear hv hd ho
              refine wpOp_step rfl fun K9 hK9 => ?_
              have HKK := (show Hid _ from hK9)
              clear hK9
              go_simp
              refine HKK.out _ _ ⟨by simp [hsz], fun j => if j = 10 then .string S else t j, by simp [e9, e8], HV.out.put 10 _ V10.symm, ?_⟩
              rw [getD_set_ne false (by omega), qc]; rfl
            · obtain rfl : _ = op := Option.some.inj (show some _ = some op from ho)
              have e8 : t 8 = .bool false := (hv 8 (hd { on := 8, ground := .guard } (by simp) rfl)).trans V8
              have HW := (show Hid _ from hw)
              clear hw
              have HV := (show Hid (Rg.Vals l VV t) from hv)
              clear hv hd ho
              refine wpOp_step rfl fun K9 hK9 => ?_
              have HKK := (show Hid _ from hK9)
              clear hK9
              go_simp
              refine HKK.out _ _ ⟨by simp [hsz], fun j => if j = 11 then .pointer (some ⟨X, 1, none⟩) else t j, by simp [e8], HV.out.put 11 _ V11.symm, ?_⟩
              rw [getD_set_ne false (by omega)]; exact HW.out
            · obtain rfl : _ = op := Option.some.inj (show some _ = some op from ho)
              have e11 : t 11 = .pointer (some ⟨X, 1, none⟩) := (hv 11 (hd { on := 11, ground := .data } (by simp) rfl)).trans V11
              have e8 : t 8 = .bool false := (hv 8 (hd { on := 8, ground := .guard } (by simp) rfl)).trans V8
              have qc : l.getD 17 false = false := by
                cases q : l.getD 17 false
                · rfl
                · rw [hL1 q 12 (by omega)] at hnl; cases hnl
              rw [qc] at hw
              obtain rfl : w' = wr.drew := hw
              have HV := (show Hid (Rg.Vals l VV t) from hv)
              clear hv hd ho
              refine wpOp_step rfl fun K9 hK9 => ?_
              have HKK := (show Hid _ from hK9)
              clear hK9
              go_simp
              refine HKK.out _ _ ⟨by simp [hsz], fun j => if j = 12 then .slice pa ps.length pc else t j, by simp [e11, e8], HV.out.put 12 _ V12.symm, ?_⟩
              rw [getD_set_ne false (by omega), qc]; rfl
            · obtain rfl : _ = op := Option.some.inj (show some _ = some op from ho)
              have e8 : t 8 = .bool false := (hv 8 (hd { on := 8, ground := .guard } (by simp) rfl)).trans V8
              have HW := (show Hid _ from hw)
              clear hw
              have HV := (show Hid (Rg.Vals l VV t) from hv)
              clear hv hd ho
              refine wpOp_step rfl fun K9 hK9 => ?_
              have HKK := (show Hid _ from hK9)
              clear hK9
              go_simp
              refine HKK.out _ _ ⟨by simp [hsz], fun j => if j = 13 then .int .i64 (ps.length : Nat) else t j, by simp [e8], HV.out.put 13 _ V13.symm, ?_⟩
              rw [getD_set_ne false (by omega)]; exact HW.out
            · obtain rfl : _ = op := Option.some.inj (show some _ = some op from ho)
              have e13 : t 13 = .int .i64 (ps.length : Nat) := (hv 13 (hd { on := 13, ground := .data } (by simp) rfl)).trans V13
              have e8 : t 8 = .bool false := (hv 8 (hd { on := 8, ground := .guard } (by simp) rfl)).trans V8
              have HW := (show Hid _ from hw)
              clear hw
              have HV := (show Hid (Rg.Vals l VV t) from hv)
              clear hv hd ho
              refine wpOp_step rfl fun K9 hK9 => ?_
              have HKK := (show Hid _ from hK9)
              clear hK9
              go_simp
              refine HKK.out _ _ ⟨by simp [hsz], fun j => if j = 14 then .int .i64 (m : Nat) else t j, by simp [e13, e8, hw, hwm], HV.out.put 14 _ V14.symm, ?_⟩
              rw [getD_set_ne false (by omega)]; exact HW.out
            · obtain rfl : _ = op := Option.some.inj (show some _ = some op from ho)
              have e12 : t 12 = .slice pa ps.length pc := (hv 12 (hd { on := 12, ground := .data } (by simp) rfl)).trans V12
              have e14 : t 14 = .int .i64 (m : Nat) := (hv 14 (hd { on := 14, ground := .data } (by simp) rfl)).trans V14
              have e8 : t 8 = .bool false := (hv 8 (hd { on := 8, ground := .guard } (by simp) rfl)).trans V8
              have HW := (show Hid _ from hw)
              clear hw
              have HV := (show Hid (Rg.Vals l VV t) from hv)
              clear hv hd ho
              refine wpOp_step rfl fun K9 hK9 => ?_
              have HKK := (show Hid _ from hK9)
              clear hK9
              go_simp
              refine HKK.out _ _ ⟨by simp [hsz], fun j => if j = 15 then .slice pa m pc else t j, by simp [e12, e14, e8], HV.out.put 15 _ V15.symm, ?_⟩
              rw [getD_set_ne false (by omega)]; exact HW.out
            · obtain rfl : _ = op := Option.some.inj (show some _ = some op from ho)
              have e10 : t 10 = .string S := (hv 10 (hd { on := 10, ground := .data } (by simp) rfl)).trans V10
              have e15 : t 15 = .slice pa m pc := (hv 15 (hd { on := 15, ground := .data } (by simp) rfl)).trans V15
              have e8 : t 8 = .bool false := (hv 8 (hd { on := 8, ground := .guard } (by simp) rfl)).trans V8
              have HW := (show Hid _ from hw)
              clear hw
              have HV := (show Hid (Rg.Vals l VV t) from hv)
              clear hv hd ho
              refine wpOp_step rfl fun K9 hK9 => ?_
              have HKK := (show Hid _ from hK9)
              clear hK9
              go_simp
              refine HKK.out _ _ ⟨by simp [hsz], fun j => if j = 16 then .agg #[.string S, .slice pa m pc] else t j, by simp [e10, e15, e8], HV.out.put 16 _ V16.symm, ?_⟩
              rw [getD_set_ne false (by omega)]; exact HW.out
            · obtain rfl : _ = op := Option.some.inj (show some _ = some op from ho)
              have e16 : t 16 = .agg #[.string S, .slice pa m pc] := (hv 16 (hd { on := 16, ground := .data } (by simp) rfl)).trans V16
              have e8 : t 8 = .bool false := (hv 8 (hd { on := 8, ground := .guard } (by simp) rfl)).trans V8
              have qc : l.getD 17 false = false := by
                cases q : l.getD 17 false
                · rfl
                · rw [q] at hnl; cases hnl
              rw [qc] at hw
              obtain rfl : w' = wr.drew := hw
              have HV := (show Hid (Rg.Vals l VV t) from hv)
              clear hv hd ho
              refine wpOp_step rfl fun K9 hK9 => ?_
              have HKK := (show Hid _ from hK9)
              clear hK9
              go_simp
              refine arm.mono ?_
              rintro e w9 ⟨rfl, k9⟩
              refine HKK.out _ _ ⟨by simp [hsz], fun j => if j = 17 then .bool false else t j, by simp [e16, e8], HV.out.put 17 _ V17.symm, ?_⟩
              rw [Rg.set_same (by omega)]; exact k9
            · obtain rfl : _ = op := Option.some.inj (show some _ = some op from ho)
              have e17 : t 17 = .bool false := (hv 17 (hd { on := 17, ground := .data } (by simp) rfl)).trans V17
              have e8 : t 8 = .bool false := (hv 8 (hd { on := 8, ground := .guard } (by simp) rfl)).trans V8
              have HW := (show Hid _ from hw)
              clear hw
              have HV := (show Hid (Rg.Vals l VV t) from hv)
              clear hv hd ho
              refine wpOp_step rfl fun K9 hK9 => ?_
              have HKK := (show Hid _ from hK9)
              clear hK9
              go_simp
              refine HKK.out _ _ ⟨by simp [hsz], fun j => if j = 18 then .bool true else t j, by simp [e17, e8], HV.out.put 18 _ V18.symm, ?_⟩
              rw [getD_set_ne false (by omega)]; exact HW.out
            · obtain rfl : _ = op := Option.some.inj (show some _ = some op from ho)
              have e8 : t 8 = .bool false := (hv 8 (hd { on := 8, ground := .data } (by simp) rfl)).trans V8
              have e18 : t 18 = .bool true := (hv 18 (hd { on := 18, ground := .data } (by simp) rfl)).trans V18
              have e5 : t 5 = .bool true := (hv 5 (hd { on := 5, ground := .guard } (by simp) rfl)).trans V5
              have HW := (show Hid _ from hw)
              clear hw
              have HV := (show Hid (Rg.Vals l VV t) from hv)
              clear hv hd ho
              refine wpOp_step rfl fun K9 hK9 => ?_
              have HKK := (show Hid _ from hK9)
              clear hK9
              go_simp
              refine HKK.out _ _ ⟨by simp [hsz], fun j => if j = 19 then .bool true else t j, by simp [e8, e18, e5], HV.out.put 19 _ V19.symm, ?_⟩
              rw [getD_set_ne false (by omega)]; exact HW.out
            · obtain rfl : _ = op := Option.some.inj (show some _ = some op from ho)
              have e5 : t 5 = .bool true := (hv 5 (hd { on := 5, ground := .data } (by simp) rfl)).trans V5
              have e19 : t 19 = .bool true := (hv 19 (hd { on := 19, ground := .data } (by simp) rfl)).trans V19
              have HW := (show Hid _ from hw)
              clear hw
              have HV := (show Hid (Rg.Vals l VV t) from hv)
              clear hv hd ho
              refine wpOp_step rfl fun K9 hK9 => ?_
              have HKK := (show Hid _ from hK9)
              clear hK9
              go_simp
              refine HKK.out _ _ ⟨by simp [hsz], fun j => if j = 20 then .bool true else t j, by simp [e5, e19], HV.out.put 20 _ V20.symm, ?_⟩
              rw [getD_set_ne false (by omega)]; exact HW.out
            · obtain rfl : _ = op := Option.some.inj (show some _ = some op from ho)
              have e20 : t 20 = .bool true := (hv 20 (hd { on := 20, ground := .data } (by simp) rfl)).trans V20
              have HW := (show Hid _ from hw)
              clear hw
              have HV := (show Hid (Rg.Vals l VV t) from hv)
              clear hv hd ho
              refine wpOp_step rfl fun K9 hK9 => ?_
              have HKK := (show Hid _ from hK9)
              clear hK9
              go_simp
              refine HKK.out _ _ ⟨by simp [hsz], fun j => if j = 21 then .bool true else t j, by simp [e20], HV.out.put 21 _ V21.symm, ?_⟩
              rw [getD_set_ne false (by omega)]; exact HW.out
          case fin =>
            rintro l a' w' ⟨hsz, t, rfl, hv, hw⟩ hall
            rw [hall 17 (by simp)] at hw
            have k9 : Below wr.heap.size wr w' := hw
            have e21 : t 21 = .bool true := (hv 21 (hall 21 (by simp))).trans V21
            rw [e21]
            clear hv hall e21 hw
            go_wp2
            go_ret
            exact ⟨rfl, hHB.out.trans (k9.mono hHB.out.size)⟩
end Go.Proofs.YtcpdkicmmhnpcabDoor.LStreamOk

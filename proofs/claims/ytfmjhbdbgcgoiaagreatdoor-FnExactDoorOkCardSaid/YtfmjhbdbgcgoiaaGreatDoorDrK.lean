/- Walks: DoorOk of the program. -/
import Derived.Test.YtfmjhbdbgcgoiaaGreatDoorDrI
import Derived.Test.YtfmjhbdbgcgoiaaGreatDoorStCE
import Derived.Test.YtfmjhbdbgcgoiaaGreatDoorMlMi
import Derived.Test.YtfmjhbdbgcgoiaaGreatDoorRi
import Derived.Deep.Cut
import Derived.LaidEqlPtr
import Derived.Deep.RegionWith
namespace Go.Proofs.YtfmjhbdbgcgoiaaGreatDoor.DrI
open Go.RowKit Go.Proofs.YtfmjhbdbgcgoiaaGreatDoor.Kit Go.Proofs.YtfmjhbdbgcgoiaaGreatDoor.St Go.Proofs.YtfmjhbdbgcgoiaaGreatDoor.App Go.Proofs.YtfmjhbdbgcgoiaaGreatDoor.Mp Go.Proofs.YtfmjhbdbgcgoiaaGreatDoor.Mm Go.Proofs.YtfmjhbdbgcgoiaaGreatDoor.Ms Go.Proofs.YtfmjhbdbgcgoiaaGreatDoor.Dr Go.Proofs.YtfmjhbdbgcgoiaaGreatDoor.DrP Go.Proofs.YtfmjhbdbgcgoiaaGreatDoor.EndW
open Go.Proofs.YtfmjhbdbgcgoiaaGreatDoor.Read (Errs)
set_option linter.unusedSimpArgs false
set_option linter.unusedVariables false

set_option maxRecDepth 8000 in
set_option maxHeartbeats 16000000 in
theorem flowOk_any (m : List (Int × Int × Int)) (mv : Value) (g o fc : Nat) (rs : List RF) (D k : Nat) (r : RF) (W : World) (h : Dw W D mv (.slice (some ⟨g, o, none⟩) rs.length fc) m rs) (hml : m.length ≤ 1073741824) (hn : rs.length ≤ 1073741824) (hr : rs[k]? = some r)
    (hat : At8 W g (o + k * 8) r) (hgo : ∃ cur e, W.heap[g]? = some (.cells cur e (0, 0))) (herr : Errs W) :
    Calls Tryz.prog 63 #[.pointer (some ⟨D, 0, none⟩), .pointer (some ⟨g, o + k * 8, none⟩)] W fun e W' => e = .returned (.bool (flB m rs k r)) ∧ Below W.heap.size W W' := by
  have hkl : k < rs.length := (List.getElem?_eq_some_iff.1 hr).1
  obtain ⟨g1, g2⟩ := h.hf.good r (List.mem_of_getElem? hr)
  obtain ⟨a, b, c, d, us, uv, up, ds, dv, dn⟩ := r
  obtain ⟨q0, q1, q2, q3, q4, q5, q6, q7⟩ := hat
  simp only at q0 q1 q2 q3 q4 q5 q6 q7 g1 g2
  obtain ⟨ua, uc, rfl, -⟩ := id g1
  obtain ⟨da, dc, rfl, -⟩ := id g2
  have lg : g < W.heap.size := blk q0
  have lD : D < W.heap.size := lt_ob h.ob
  have HFL := (show Hid (flB m rs k ⟨a, b, c, d, us, .slice ua up.length uc, up, ds, .slice da dn.length dc, dn⟩ = (hasB m a b && isB 2 c d && decide (fI rs a b c d = k) && stB us up && stB ds dn)) from rfl)
  have c1 := h.c1
  have hinf : ∃ j, Tryz.prog.info? 101 = some j ∧ j.size ≠ 0 := by
    obtain ⟨i0, hi, -, hz1, -⟩ := info_parts infoG
    exact ⟨i0, hi, by rw [hz1]; decide⟩
  obtain ⟨j0, hj0, hj1⟩ := hinf
  have heq : ∀ w', (binOp .eql 104 (.pointer (some ⟨g, o + k * 8, none⟩)) (.pointer (some ⟨g, o + k * 8, none⟩))).run Tryz.prog w' = .ok (.bool true) w' := fun w' => run_eql_ptr_same w' _ Tryz.underlying104 hj0
  have HNE := (show Hid (∀ (J : Nat) (w' : World), ¬ J = k → Below W.heap.size W w' → (binOp .eql 104 (.pointer (some ⟨g, o + J * 8, none⟩)) (.pointer (some ⟨g, o + k * 8, none⟩))).run Tryz.prog w' = .ok (.bool false) w') from fun J w' hJ hb => by
    obtain ⟨cur, e, hcur⟩ := hgo
    have hcur2 := (hb.block g lg).trans hcur
    exact run_eql_ptr_other w' Tryz.underlying104 hj0 hj1 (by intro q; injection q; omega) hcur2 hcur2)
  clear hgo hj0 hj1
  go_enter Tryz.func63, Tryz.ntmps63
  go_upto_region 1 with fail
  cases hb : hasB m a b
  · have hmix : Tryz.prog.follows .mixedOrders = true := by kernel_rfl
    obtain ⟨VV, hVV⟩ : ∃ VV : Nat → Value, VV = fun j => [(.pointer (some ⟨D, 0, none⟩) : Value), .pointer (some ⟨g, o + k * 8, none⟩), .pointer (some ⟨g, o + k * 8, none⟩), .pointer (some ⟨g, o + k * 8, none⟩), .agg #[.int .i64 a, .int .i64 b], .bool false, .bool false, undef, undef, undef, undef, undef, .bool false, .bool false, undef, undef, undef, undef, undef, undef, undef, undef, undef, undef, undef, undef, .bool false, .bool false].getD j undef := ⟨_, rfl⟩
    have V0 : VV 0 = .pointer (some ⟨D, 0, none⟩) := by rw [hVV]; rfl
    have V1 : VV 1 = .pointer (some ⟨g, o + k * 8, none⟩) := by rw [hVV]; rfl
    have V2 : VV 2 = .pointer (some ⟨g, o + k * 8, none⟩) := by rw [hVV]; rfl
    have V3 : VV 3 = .pointer (some ⟨g, o + k * 8, none⟩) := by rw [hVV]; rfl
    have V4 : VV 4 = .agg #[.int .i64 a, .int .i64 b] := by rw [hVV]; rfl
    have V5 : VV 5 = .bool false := by rw [hVV]; rfl
    have V6 : VV 6 = .bool false := by rw [hVV]; rfl
    have V7 : VV 7 = undef := by rw [hVV]; rfl
    have V8 : VV 8 = undef := by rw [hVV]; rfl
    have V9 : VV 9 = undef := by rw [hVV]; rfl
    have V10 : VV 10 = undef := by rw [hVV]; rfl
    have V11 : VV 11 = undef := by rw [hVV]; rfl
    have V12 : VV 12 = .bool false := by rw [hVV]; rfl
    have V13 : VV 13 = .bool false := by rw [hVV]; rfl
    have V14 : VV 14 = undef := by rw [hVV]; rfl
    have V15 : VV 15 = undef := by rw [hVV]; rfl
    have V16 : VV 16 = undef := by rw [hVV]; rfl
    have V17 : VV 17 = undef := by rw [hVV]; rfl
    have V18 : VV 18 = undef := by rw [hVV]; rfl
    have V19 : VV 19 = undef := by rw [hVV]; rfl
    have V20 : VV 20 = undef := by rw [hVV]; rfl
    have V21 : VV 21 = undef := by rw [hVV]; rfl
    have V22 : VV 22 = undef := by rw [hVV]; rfl
    have V23 : VV 23 = undef := by rw [hVV]; rfl
    have V24 : VV 24 = undef := by rw [hVV]; rfl
    have V25 : VV 25 = undef := by rw [hVV]; rfl
    have V26 : VV 26 = .bool false := by rw [hVV]; rfl
    have V27 : VV 27 = .bool false := by rw [hVV]; rfl
    clear hVV
    refine wp_region_any hmix ?_
    refine Ri.any_inv (I := fun l a' w' => l.size = 28 ∧ ∃ t : Nat → Value, a' = { tmps := #[(Value.pointer (some { block := D, off := 0 }) : Value), Value.pointer (some { block := g, off := o + k * 8 }), undef, undef, Value.bool false, t 27, t 0, t 1, t 2, t 3, t 4, t 5, t 6, t 7, t 8, t 9, t 10, t 11, t 12, t 13, t 14, t 15, t 16, t 17, t 18, t 19, t 20, t 21, t 22, t 23, t 24, t 25, t 26, undef, undef, undef, undef, undef, undef, undef, undef, undef, undef, undef, undef, undef, undef, undef, undef, undef, undef, undef], defers := [] } ∧ Rg.Vals l VV t ∧ Hid (Below W.heap.size W w')) ?sz ?low ?step ?fin _ _ _ _ ?start (Ri.closed_none _ _ _) (Rg.left_all _)
    case sz => exact fun l a' w' h => h.1
    case start => exact ⟨by simp, fun j => ([undef, undef, undef, undef, undef, undef, undef, undef, undef, undef, undef, undef, undef, undef, undef, undef, undef, undef, undef, undef, undef, undef, undef, undef, undef, undef, undef, undef] : List Value).getD j undef, rfl, Rg.vals_none _ _ _, (Below.refl _ _).drew⟩
    case low => exact Ri.low_of (by kernel_rfl)
    case step =>
      rintro l a' w' i ⟨hsz, t, rfl, hv, HW⟩ hcl hi
      obtain ⟨h0, op, ho, hd⟩ := mem_ready.1 hi
      have hin : i < 28 := (Array.getElem?_eq_some_iff.1 ho).1
      clear h0 hi hcl
      have hc : i = 0 ∨ i = 1 ∨ i = 2 ∨ i = 3 ∨ i = 4 ∨ i = 5 ∨ i = 6 ∨ i = 7 ∨ i = 8 ∨ i = 9 ∨ i = 10 ∨ i = 11 ∨ i = 12 ∨ i = 13 ∨ i = 14 ∨ i = 15 ∨ i = 16 ∨ i = 17 ∨ i = 18 ∨ i = 19 ∨ i = 20 ∨ i = 21 ∨ i = 22 ∨ i = 23 ∨ i = 24 ∨ i = 25 ∨ i = 26 ∨ i = 27 := by omega
      rcases hc with rfl | rfl | rfl | rfl | rfl | rfl | rfl | rfl | rfl | rfl | rfl | rfl | rfl | rfl | rfl | rfl | rfl | rfl | rfl | rfl | rfl | rfl | rfl | rfl | rfl | rfl | rfl | rfl
      · obtain rfl : _ = op := Option.some.inj (show some _ = some op from ho)
        have HV := (show Hid (Rg.Vals l VV t) from hv)
        clear hv hd ho
        refine wpOp_step rfl fun K9 hK9 => ?_
        have HKK := (show Hid _ from hK9)
        clear hK9
        go_simp
        exact HKK.out _ _ ⟨by simp [hsz], fun j => if j = 0 then .pointer (some ⟨D, 0, none⟩) else t j, by simp, HV.out.put 0 _ V0.symm, HW⟩
      · obtain rfl : _ = op := Option.some.inj (show some _ = some op from ho)
        have HV := (show Hid (Rg.Vals l VV t) from hv)
        clear hv hd ho
        refine wpOp_step rfl fun K9 hK9 => ?_
        have HKK := (show Hid _ from hK9)
        clear hK9
        go_simp
        exact HKK.out _ _ ⟨by simp [hsz], fun j => if j = 1 then .pointer (some ⟨g, o + k * 8, none⟩) else t j, by simp, HV.out.put 1 _ V1.symm, HW⟩
      · obtain rfl : _ = op := Option.some.inj (show some _ = some op from ho)
        have e1 : t 1 = .pointer (some ⟨g, o + k * 8, none⟩) := (hv 1 (hd { on := 1, ground := .data } (by simp) rfl)).trans V1
        have HV := (show Hid (Rg.Vals l VV t) from hv)
        clear hv hd ho
        refine wpOp_step rfl fun K9 hK9 => ?_
        have HKK := (show Hid _ from hK9)
        clear hK9
        go_simp
        exact HKK.out _ _ ⟨by simp [hsz], fun j => if j = 2 then .pointer (some ⟨g, o + k * 8, none⟩) else t j, by simp [e1], HV.out.put 2 _ V2.symm, HW⟩
      · obtain rfl : _ = op := Option.some.inj (show some _ = some op from ho)
        have e2 : t 2 = .pointer (some ⟨g, o + k * 8, none⟩) := (hv 2 (hd { on := 2, ground := .data } (by simp) rfl)).trans V2
        have HV := (show Hid (Rg.Vals l VV t) from hv)
        clear hv hd ho
        refine wpOp_step rfl fun K9 hK9 => ?_
        have HKK := (show Hid _ from hK9)
        clear hK9
        go_simp
        exact HKK.out _ _ ⟨by simp [hsz], fun j => if j = 3 then .pointer (some ⟨g, o + k * 8, none⟩) else t j, by simp [e2], HV.out.put 3 _ V3.symm, HW⟩
      · obtain rfl : _ = op := Option.some.inj (show some _ = some op from ho)
        have e3 : t 3 = .pointer (some ⟨g, o + k * 8, none⟩) := (hv 3 (hd { on := 3, ground := .data } (by simp) rfl)).trans V3
        have yq0 : w'.cell? ⟨g, o + k * 8, none⟩ = some (.int .i64 a) := (HW.out.cell (p := ⟨g, o + k * 8, none⟩) lg).trans q0
        have yq1 : w'.cell? ⟨g, o + k * 8 + 1, none⟩ = some (.int .i64 b) := (HW.out.cell (p := ⟨g, o + k * 8 + 1, none⟩) lg).trans q1
        have yq2 : w'.cell? ⟨g, o + k * 8 + 2, none⟩ = some (.int .i64 c) := (HW.out.cell (p := ⟨g, o + k * 8 + 2, none⟩) lg).trans q2
        have yq3 : w'.cell? ⟨g, o + k * 8 + 3, none⟩ = some (.int .i64 d) := (HW.out.cell (p := ⟨g, o + k * 8 + 3, none⟩) lg).trans q3
        have yq4 : w'.cell? ⟨g, o + k * 8 + 4, none⟩ = some (.string us) := (HW.out.cell (p := ⟨g, o + k * 8 + 4, none⟩) lg).trans q4
        have yq5 : w'.cell? ⟨g, o + k * 8 + 5, none⟩ = some (.slice ua up.length uc) := (HW.out.cell (p := ⟨g, o + k * 8 + 5, none⟩) lg).trans q5
        have yq6 : w'.cell? ⟨g, o + k * 8 + 6, none⟩ = some (.string ds) := (HW.out.cell (p := ⟨g, o + k * 8 + 6, none⟩) lg).trans q6
        have yq7 : w'.cell? ⟨g, o + k * 8 + 7, none⟩ = some (.slice da dn.length dc) := (HW.out.cell (p := ⟨g, o + k * 8 + 7, none⟩) lg).trans q7
        have HV := (show Hid (Rg.Vals l VV t) from hv)
        clear hv hd ho
        refine wpOp_step rfl fun K9 hK9 => ?_
        have HKK := (show Hid _ from hK9)
        clear hK9
        go_simp
        exact HKK.out _ _ ⟨by simp [hsz], fun j => if j = 4 then .agg #[.int .i64 a, .int .i64 b] else t j, by simp [e3], HV.out.put 4 _ V4.symm, HW⟩
      · obtain rfl : _ = op := Option.some.inj (show some _ = some op from ho)
        have e0 : t 0 = .pointer (some ⟨D, 0, none⟩) := (hv 0 (hd { on := 0, ground := .data } (by simp) rfl)).trans V0
        have e4 : t 4 = .agg #[.int .i64 a, .int .i64 b] := (hv 4 (hd { on := 4, ground := .data } (by simp) rfl)).trans V4
        have HV := (show Hid (Rg.Vals l VV t) from hv)
        clear hv hd ho
        refine wpOp_step rfl fun K9 hK9 => ?_
        have HKK := (show Hid _ from hK9)
        clear hK9
        go_simp
        refine (hasPort_any m mv _ rs D a b _ (h.below HW.out) hml).mono ?_
        rintro e w9 ⟨rfl, k9⟩
        rw [hb]
        refine HKK.out _ _ ⟨by simp [hsz], fun j => if j = 5 then .bool false else t j, by simp [e0, e4], HV.out.put 5 _ V5.symm, HW.out.trans (k9.mono HW.out.size)⟩
      · obtain rfl : _ = op := Option.some.inj (show some _ = some op from ho)
        have e5 : t 5 = .bool false := (hv 5 (hd { on := 5, ground := .data } (by simp) rfl)).trans V5
        have HV := (show Hid (Rg.Vals l VV t) from hv)
        clear hv hd ho
        refine wpOp_step rfl fun K9 hK9 => ?_
        have HKK := (show Hid _ from hK9)
        clear hK9
        go_simp
        exact HKK.out _ _ ⟨by simp [hsz], fun j => if j = 6 then .bool false else t j, by simp [e5], HV.out.put 6 _ V6.symm, HW⟩
      · obtain rfl : _ = op := Option.some.inj (show some _ = some op from ho)
        have e6 : t 6 = .bool false := (hv 6 (hd { on := 6, ground := .guard } (by simp) rfl)).trans V6
        have HV := (show Hid (Rg.Vals l VV t) from hv)
        clear hv hd ho
        refine wpOp_step rfl fun K9 hK9 => ?_
        have HKK := (show Hid _ from hK9)
        clear hK9
        go_simp
        exact HKK.out _ _ ⟨by simp [hsz], fun j => if j = 7 then undef else t j, by simp [e6], HV.out.put 7 _ V7.symm, HW⟩
      · obtain rfl : _ = op := Option.some.inj (show some _ = some op from ho)
        have e7 : t 7 = undef := (hv 7 (hd { on := 7, ground := .data } (by simp) rfl)).trans V7
        have e6 : t 6 = .bool false := (hv 6 (hd { on := 6, ground := .guard } (by simp) rfl)).trans V6
        have HV := (show Hid (Rg.Vals l VV t) from hv)
        clear hv hd ho
        refine wpOp_step rfl fun K9 hK9 => ?_
        have HKK := (show Hid _ from hK9)
        clear hK9
        go_simp
        exact HKK.out _ _ ⟨by simp [hsz], fun j => if j = 8 then undef else t j, by simp [e7, e6], HV.out.put 8 _ V8.symm, HW⟩
      · obtain rfl : _ = op := Option.some.inj (show some _ = some op from ho)
        have e8 : t 8 = undef := (hv 8 (hd { on := 8, ground := .data } (by simp) rfl)).trans V8
        have e6 : t 6 = .bool false := (hv 6 (hd { on := 6, ground := .guard } (by simp) rfl)).trans V6
        have HV := (show Hid (Rg.Vals l VV t) from hv)
        clear hv hd ho
        refine wpOp_step rfl fun K9 hK9 => ?_
        have HKK := (show Hid _ from hK9)
        clear hK9
        go_simp
        exact HKK.out _ _ ⟨by simp [hsz], fun j => if j = 9 then undef else t j, by simp [e8, e6], HV.out.put 9 _ V9.symm, HW⟩
      · obtain rfl : _ = op := Option.some.inj (show some _ = some op from ho)
        have e9 : t 9 = undef := (hv 9 (hd { on := 9, ground := .data } (by simp) rfl)).trans V9
        have e6 : t 6 = .bool false := (hv 6 (hd { on := 6, ground := .guard } (by simp) rfl)).trans V6
        have yq0 : w'.cell? ⟨g, o + k * 8, none⟩ = some (.int .i64 a) := (HW.out.cell (p := ⟨g, o + k * 8, none⟩) lg).trans q0
        have yq1 : w'.cell? ⟨g, o + k * 8 + 1, none⟩ = some (.int .i64 b) := (HW.out.cell (p := ⟨g, o + k * 8 + 1, none⟩) lg).trans q1
        have yq2 : w'.cell? ⟨g, o + k * 8 + 2, none⟩ = some (.int .i64 c) := (HW.out.cell (p := ⟨g, o + k * 8 + 2, none⟩) lg).trans q2
        have yq3 : w'.cell? ⟨g, o + k * 8 + 3, none⟩ = some (.int .i64 d) := (HW.out.cell (p := ⟨g, o + k * 8 + 3, none⟩) lg).trans q3
        have yq4 : w'.cell? ⟨g, o + k * 8 + 4, none⟩ = some (.string us) := (HW.out.cell (p := ⟨g, o + k * 8 + 4, none⟩) lg).trans q4
        have yq5 : w'.cell? ⟨g, o + k * 8 + 5, none⟩ = some (.slice ua up.length uc) := (HW.out.cell (p := ⟨g, o + k * 8 + 5, none⟩) lg).trans q5
        have yq6 : w'.cell? ⟨g, o + k * 8 + 6, none⟩ = some (.string ds) := (HW.out.cell (p := ⟨g, o + k * 8 + 6, none⟩) lg).trans q6
        have yq7 : w'.cell? ⟨g, o + k * 8 + 7, none⟩ = some (.slice da dn.length dc) := (HW.out.cell (p := ⟨g, o + k * 8 + 7, none⟩) lg).trans q7
        have HV := (show Hid (Rg.Vals l VV t) from hv)
        clear hv hd ho
        refine wpOp_step rfl fun K9 hK9 => ?_
        have HKK := (show Hid _ from hK9)
        clear hK9
        go_simp
        exact HKK.out _ _ ⟨by simp [hsz], fun j => if j = 10 then undef else t j, by simp [e9, e6], HV.out.put 10 _ V10.symm, HW⟩
      · obtain rfl : _ = op := Option.some.inj (show some _ = some op from ho)
        have e10 : t 10 = undef := (hv 10 (hd { on := 10, ground := .data } (by simp) rfl)).trans V10
        have e6 : t 6 = .bool false := (hv 6 (hd { on := 6, ground := .guard } (by simp) rfl)).trans V6
        have HV := (show Hid (Rg.Vals l VV t) from hv)
        clear hv hd ho
        refine wpOp_step rfl fun K9 hK9 => ?_
        have HKK := (show Hid _ from hK9)
        clear hK9
        go_simp
        exact HKK.out _ _ ⟨by simp [hsz], fun j => if j = 11 then undef else t j, by simp [e10, e6], HV.out.put 11 _ V11.symm, HW⟩
      · obtain rfl : _ = op := Option.some.inj (show some _ = some op from ho)
        have e6 : t 6 = .bool false := (hv 6 (hd { on := 6, ground := .data } (by simp) rfl)).trans V6
        have e11 : t 11 = undef := (hv 11 (hd { on := 11, ground := .data } (by simp) rfl)).trans V11
        have HV := (show Hid (Rg.Vals l VV t) from hv)
        clear hv hd ho
        refine wpOp_step rfl fun K9 hK9 => ?_
        have HKK := (show Hid _ from hK9)
        clear hK9
        go_simp
        exact HKK.out _ _ ⟨by simp [hsz], fun j => if j = 12 then .bool false else t j, by simp [e6, e11], HV.out.put 12 _ V12.symm, HW⟩
      · obtain rfl : _ = op := Option.some.inj (show some _ = some op from ho)
        have e12 : t 12 = .bool false := (hv 12 (hd { on := 12, ground := .data } (by simp) rfl)).trans V12
        have HV := (show Hid (Rg.Vals l VV t) from hv)
        clear hv hd ho
        refine wpOp_step rfl fun K9 hK9 => ?_
        have HKK := (show Hid _ from hK9)
        clear hK9
        go_simp
        exact HKK.out _ _ ⟨by simp [hsz], fun j => if j = 13 then .bool false else t j, by simp [e12], HV.out.put 13 _ V13.symm, HW⟩
      · obtain rfl : _ = op := Option.some.inj (show some _ = some op from ho)
        have e13 : t 13 = .bool false := (hv 13 (hd { on := 13, ground := .guard } (by simp) rfl)).trans V13
        have HV := (show Hid (Rg.Vals l VV t) from hv)
        clear hv hd ho
        refine wpOp_step rfl fun K9 hK9 => ?_
        have HKK := (show Hid _ from hK9)
        clear hK9
        go_simp
        exact HKK.out _ _ ⟨by simp [hsz], fun j => if j = 14 then undef else t j, by simp [e13], HV.out.put 14 _ V14.symm, HW⟩
      · obtain rfl : _ = op := Option.some.inj (show some _ = some op from ho)
        have e13 : t 13 = .bool false := (hv 13 (hd { on := 13, ground := .guard } (by simp) rfl)).trans V13
        have HV := (show Hid (Rg.Vals l VV t) from hv)
        clear hv hd ho
        refine wpOp_step rfl fun K9 hK9 => ?_
        have HKK := (show Hid _ from hK9)
        clear hK9
        go_simp
        exact HKK.out _ _ ⟨by simp [hsz], fun j => if j = 15 then undef else t j, by simp [e13], HV.out.put 15 _ V15.symm, HW⟩
      · obtain rfl : _ = op := Option.some.inj (show some _ = some op from ho)
        have e15 : t 15 = undef := (hv 15 (hd { on := 15, ground := .data } (by simp) rfl)).trans V15
        have e13 : t 13 = .bool false := (hv 13 (hd { on := 13, ground := .guard } (by simp) rfl)).trans V13
        have HV := (show Hid (Rg.Vals l VV t) from hv)
        clear hv hd ho
        refine wpOp_step rfl fun K9 hK9 => ?_
        have HKK := (show Hid _ from hK9)
        clear hK9
        go_simp
        exact HKK.out _ _ ⟨by simp [hsz], fun j => if j = 16 then undef else t j, by simp [e15, e13], HV.out.put 16 _ V16.symm, HW⟩
      · obtain rfl : _ = op := Option.some.inj (show some _ = some op from ho)
        have e16 : t 16 = undef := (hv 16 (hd { on := 16, ground := .data } (by simp) rfl)).trans V16
        have e13 : t 13 = .bool false := (hv 13 (hd { on := 13, ground := .guard } (by simp) rfl)).trans V13
        have HV := (show Hid (Rg.Vals l VV t) from hv)
        clear hv hd ho
        refine wpOp_step rfl fun K9 hK9 => ?_
        have HKK := (show Hid _ from hK9)
        clear hK9
        go_simp
        exact HKK.out _ _ ⟨by simp [hsz], fun j => if j = 17 then undef else t j, by simp [e16, e13], HV.out.put 17 _ V17.symm, HW⟩
      · obtain rfl : _ = op := Option.some.inj (show some _ = some op from ho)
        have e17 : t 17 = undef := (hv 17 (hd { on := 17, ground := .data } (by simp) rfl)).trans V17
        have e13 : t 13 = .bool false := (hv 13 (hd { on := 13, ground := .guard } (by simp) rfl)).trans V13
        have yq0 : w'.cell? ⟨g, o + k * 8, none⟩ = some (.int .i64 a) := (HW.out.cell (p := ⟨g, o + k * 8, none⟩) lg).trans q0
        have yq1 : w'.cell? ⟨g, o + k * 8 + 1, none⟩ = some (.int .i64 b) := (HW.out.cell (p := ⟨g, o + k * 8 + 1, none⟩) lg).trans q1
        have yq2 : w'.cell? ⟨g, o + k * 8 + 2, none⟩ = some (.int .i64 c) := (HW.out.cell (p := ⟨g, o + k * 8 + 2, none⟩) lg).trans q2
        have yq3 : w'.cell? ⟨g, o + k * 8 + 3, none⟩ = some (.int .i64 d) := (HW.out.cell (p := ⟨g, o + k * 8 + 3, none⟩) lg).trans q3
        have yq4 : w'.cell? ⟨g, o + k * 8 + 4, none⟩ = some (.string us) := (HW.out.cell (p := ⟨g, o + k * 8 + 4, none⟩) lg).trans q4
        have yq5 : w'.cell? ⟨g, o + k * 8 + 5, none⟩ = some (.slice ua up.length uc) := (HW.out.cell (p := ⟨g, o + k * 8 + 5, none⟩) lg).trans q5
        have yq6 : w'.cell? ⟨g, o + k * 8 + 6, none⟩ = some (.string ds) := (HW.out.cell (p := ⟨g, o + k * 8 + 6, none⟩) lg).trans q6
        have yq7 : w'.cell? ⟨g, o + k * 8 + 7, none⟩ = some (.slice da dn.length dc) := (HW.out.cell (p := ⟨g, o + k * 8 + 7, none⟩) lg).trans q7
        have HV := (show Hid (Rg.Vals l VV t) from hv)
        clear hv hd ho
        refine wpOp_step rfl fun K9 hK9 => ?_
        have HKK := (show Hid _ from hK9)
        clear hK9
        go_simp
        exact HKK.out _ _ ⟨by simp [hsz], fun j => if j = 18 then undef else t j, by simp [e17, e13], HV.out.put 18 _ V18.symm, HW⟩
      · obtain rfl : _ = op := Option.some.inj (show some _ = some op from ho)
        have e13 : t 13 = .bool false := (hv 13 (hd { on := 13, ground := .guard } (by simp) rfl)).trans V13
        have HV := (show Hid (Rg.Vals l VV t) from hv)
        clear hv hd ho
        refine wpOp_step rfl fun K9 hK9 => ?_
        have HKK := (show Hid _ from hK9)
        clear hK9
        go_simp
        exact HKK.out _ _ ⟨by simp [hsz], fun j => if j = 19 then undef else t j, by simp [e13], HV.out.put 19 _ V19.symm, HW⟩
      · obtain rfl : _ = op := Option.some.inj (show some _ = some op from ho)
        have e19 : t 19 = undef := (hv 19 (hd { on := 19, ground := .data } (by simp) rfl)).trans V19
        have e13 : t 13 = .bool false := (hv 13 (hd { on := 13, ground := .guard } (by simp) rfl)).trans V13
        have HV := (show Hid (Rg.Vals l VV t) from hv)
        clear hv hd ho
        refine wpOp_step rfl fun K9 hK9 => ?_
        have HKK := (show Hid _ from hK9)
        clear hK9
        go_simp
        exact HKK.out _ _ ⟨by simp [hsz], fun j => if j = 20 then undef else t j, by simp [e19, e13], HV.out.put 20 _ V20.symm, HW⟩
      · obtain rfl : _ = op := Option.some.inj (show some _ = some op from ho)
        have e20 : t 20 = undef := (hv 20 (hd { on := 20, ground := .data } (by simp) rfl)).trans V20
        have e13 : t 13 = .bool false := (hv 13 (hd { on := 13, ground := .guard } (by simp) rfl)).trans V13
        have HV := (show Hid (Rg.Vals l VV t) from hv)
        clear hv hd ho
        refine wpOp_step rfl fun K9 hK9 => ?_
        have HKK := (show Hid _ from hK9)
        clear hK9
        go_simp
        exact HKK.out _ _ ⟨by simp [hsz], fun j => if j = 21 then undef else t j, by simp [e20, e13], HV.out.put 21 _ V21.symm, HW⟩
      · obtain rfl : _ = op := Option.some.inj (show some _ = some op from ho)
        have e21 : t 21 = undef := (hv 21 (hd { on := 21, ground := .data } (by simp) rfl)).trans V21
        have e13 : t 13 = .bool false := (hv 13 (hd { on := 13, ground := .guard } (by simp) rfl)).trans V13
        have yq0 : w'.cell? ⟨g, o + k * 8, none⟩ = some (.int .i64 a) := (HW.out.cell (p := ⟨g, o + k * 8, none⟩) lg).trans q0
        have yq1 : w'.cell? ⟨g, o + k * 8 + 1, none⟩ = some (.int .i64 b) := (HW.out.cell (p := ⟨g, o + k * 8 + 1, none⟩) lg).trans q1
        have yq2 : w'.cell? ⟨g, o + k * 8 + 2, none⟩ = some (.int .i64 c) := (HW.out.cell (p := ⟨g, o + k * 8 + 2, none⟩) lg).trans q2
        have yq3 : w'.cell? ⟨g, o + k * 8 + 3, none⟩ = some (.int .i64 d) := (HW.out.cell (p := ⟨g, o + k * 8 + 3, none⟩) lg).trans q3
        have yq4 : w'.cell? ⟨g, o + k * 8 + 4, none⟩ = some (.string us) := (HW.out.cell (p := ⟨g, o + k * 8 + 4, none⟩) lg).trans q4
        have yq5 : w'.cell? ⟨g, o + k * 8 + 5, none⟩ = some (.slice ua up.length uc) := (HW.out.cell (p := ⟨g, o + k * 8 + 5, none⟩) lg).trans q5
        have yq6 : w'.cell? ⟨g, o + k * 8 + 6, none⟩ = some (.string ds) := (HW.out.cell (p := ⟨g, o + k * 8 + 6, none⟩) lg).trans q6
        have yq7 : w'.cell? ⟨g, o + k * 8 + 7, none⟩ = some (.slice da dn.length dc) := (HW.out.cell (p := ⟨g, o + k * 8 + 7, none⟩) lg).trans q7
        have HV := (show Hid (Rg.Vals l VV t) from hv)
        clear hv hd ho
        refine wpOp_step rfl fun K9 hK9 => ?_
        have HKK := (show Hid _ from hK9)
        clear hK9
        go_simp
        exact HKK.out _ _ ⟨by simp [hsz], fun j => if j = 22 then undef else t j, by simp [e21, e13], HV.out.put 22 _ V22.symm, HW⟩
      · obtain rfl : _ = op := Option.some.inj (show some _ = some op from ho)
        have e14 : t 14 = undef := (hv 14 (hd { on := 14, ground := .data } (by simp) rfl)).trans V14
        have e18 : t 18 = undef := (hv 18 (hd { on := 18, ground := .data } (by simp) rfl)).trans V18
        have e22 : t 22 = undef := (hv 22 (hd { on := 22, ground := .data } (by simp) rfl)).trans V22
        have e13 : t 13 = .bool false := (hv 13 (hd { on := 13, ground := .guard } (by simp) rfl)).trans V13
        have HV := (show Hid (Rg.Vals l VV t) from hv)
        clear hv hd ho
        refine wpOp_step rfl fun K9 hK9 => ?_
        have HKK := (show Hid _ from hK9)
        clear hK9
        go_simp
        exact HKK.out _ _ ⟨by simp [hsz], fun j => if j = 23 then undef else t j, by simp [e14, e18, e22, e13], HV.out.put 23 _ V23.symm, HW⟩
      · obtain rfl : _ = op := Option.some.inj (show some _ = some op from ho)
        have e13 : t 13 = .bool false := (hv 13 (hd { on := 13, ground := .guard } (by simp) rfl)).trans V13
        have HV := (show Hid (Rg.Vals l VV t) from hv)
        clear hv hd ho
        refine wpOp_step rfl fun K9 hK9 => ?_
        have HKK := (show Hid _ from hK9)
        clear hK9
        go_simp
        exact HKK.out _ _ ⟨by simp [hsz], fun j => if j = 24 then undef else t j, by simp [e13], HV.out.put 24 _ V24.symm, HW⟩
      · obtain rfl : _ = op := Option.some.inj (show some _ = some op from ho)
        have e23 : t 23 = undef := (hv 23 (hd { on := 23, ground := .data } (by simp) rfl)).trans V23
        have e24 : t 24 = undef := (hv 24 (hd { on := 24, ground := .data } (by simp) rfl)).trans V24
        have e13 : t 13 = .bool false := (hv 13 (hd { on := 13, ground := .guard } (by simp) rfl)).trans V13
        have HV := (show Hid (Rg.Vals l VV t) from hv)
        clear hv hd ho
        refine wpOp_step rfl fun K9 hK9 => ?_
        have HKK := (show Hid _ from hK9)
        clear hK9
        go_simp
        exact HKK.out _ _ ⟨by simp [hsz], fun j => if j = 25 then undef else t j, by simp [e23, e24, e13], HV.out.put 25 _ V25.symm, HW⟩
      · obtain rfl : _ = op := Option.some.inj (show some _ = some op from ho)
        have e13 : t 13 = .bool false := (hv 13 (hd { on := 13, ground := .data } (by simp) rfl)).trans V13
        have e25 : t 25 = undef := (hv 25 (hd { on := 25, ground := .data } (by simp) rfl)).trans V25
        have HV := (show Hid (Rg.Vals l VV t) from hv)
        clear hv hd ho
        refine wpOp_step rfl fun K9 hK9 => ?_
        have HKK := (show Hid _ from hK9)
        clear hK9
        go_simp
        exact HKK.out _ _ ⟨by simp [hsz], fun j => if j = 26 then .bool false else t j, by simp [e13, e25], HV.out.put 26 _ V26.symm, HW⟩
      · obtain rfl : _ = op := Option.some.inj (show some _ = some op from ho)
        have e26 : t 26 = .bool false := (hv 26 (hd { on := 26, ground := .data } (by simp) rfl)).trans V26
        have HV := (show Hid (Rg.Vals l VV t) from hv)
        clear hv hd ho
        refine wpOp_step rfl fun K9 hK9 => ?_
        have HKK := (show Hid _ from hK9)
        clear hK9
        go_simp
        exact HKK.out _ _ ⟨by simp [hsz], fun j => if j = 27 then .bool false else t j, by simp [e26], HV.out.put 27 _ V27.symm, HW⟩
    case fin =>
      rintro l a' w' ⟨hsz, t, rfl, hv, HW⟩ hall
      have e27 : t 27 = .bool false := (hv 27 (hall 27 (by simp))).trans V27
      rw [e27]
      have hbad := (show Hid (flB m rs k _ = false) from by show _ = false; rw [HFL.out, hb]; first | rfl | simp)
      clear hv hall e27 q0 q1 q2 q3 q4 q5 q6 q7
      go_wp2
      go_ret
      exact ⟨by rw [hbad.out]; rfl, HW.out⟩
  · cases ho : isB 2 c d
    · have hmix : Tryz.prog.follows .mixedOrders = true := by kernel_rfl
      obtain ⟨VV, hVV⟩ : ∃ VV : Nat → Value, VV = fun j => [(.pointer (some ⟨D, 0, none⟩) : Value), .pointer (some ⟨g, o + k * 8, none⟩), .pointer (some ⟨g, o + k * 8, none⟩), .pointer (some ⟨g, o + k * 8, none⟩), .agg #[.int .i64 a, .int .i64 b], .bool true, .bool true, .pointer (some ⟨g, o + k * 8, none⟩), .pointer (some ⟨g, o + k * 8, none⟩), .pointer (some ⟨g, o + k * 8 + 2, none⟩), .agg #[.int .i64 c, .int .i64 d], .bool false, .bool false, .bool false, undef, undef, undef, undef, undef, undef, undef, undef, undef, undef, undef, undef, .bool false, .bool false].getD j undef := ⟨_, rfl⟩
      have V0 : VV 0 = .pointer (some ⟨D, 0, none⟩) := by rw [hVV]; rfl
      have V1 : VV 1 = .pointer (some ⟨g, o + k * 8, none⟩) := by rw [hVV]; rfl
      have V2 : VV 2 = .pointer (some ⟨g, o + k * 8, none⟩) := by rw [hVV]; rfl
      have V3 : VV 3 = .pointer (some ⟨g, o + k * 8, none⟩) := by rw [hVV]; rfl
      have V4 : VV 4 = .agg #[.int .i64 a, .int .i64 b] := by rw [hVV]; rfl
      have V5 : VV 5 = .bool true := by rw [hVV]; rfl
      have V6 : VV 6 = .bool true := by rw [hVV]; rfl
      have V7 : VV 7 = .pointer (some ⟨g, o + k * 8, none⟩) := by rw [hVV]; rfl
      have V8 : VV 8 = .pointer (some ⟨g, o + k * 8, none⟩) := by rw [hVV]; rfl
      have V9 : VV 9 = .pointer (some ⟨g, o + k * 8 + 2, none⟩) := by rw [hVV]; rfl
      have V10 : VV 10 = .agg #[.int .i64 c, .int .i64 d] := by rw [hVV]; rfl
      have V11 : VV 11 = .bool false := by rw [hVV]; rfl
      have V12 : VV 12 = .bool false := by rw [hVV]; rfl
      have V13 : VV 13 = .bool false := by rw [hVV]; rfl
      have V14 : VV 14 = undef := by rw [hVV]; rfl
      have V15 : VV 15 = undef := by rw [hVV]; rfl
      have V16 : VV 16 = undef := by rw [hVV]; rfl
      have V17 : VV 17 = undef := by rw [hVV]; rfl
      have V18 : VV 18 = undef := by rw [hVV]; rfl
      have V19 : VV 19 = undef := by rw [hVV]; rfl
      have V20 : VV 20 = undef := by rw [hVV]; rfl
      have V21 : VV 21 = undef := by rw [hVV]; rfl
      have V22 : VV 22 = undef := by rw [hVV]; rfl
      have V23 : VV 23 = undef := by rw [hVV]; rfl
      have V24 : VV 24 = undef := by rw [hVV]; rfl
      have V25 : VV 25 = undef := by rw [hVV]; rfl
      have V26 : VV 26 = .bool false := by rw [hVV]; rfl
      have V27 : VV 27 = .bool false := by rw [hVV]; rfl
      clear hVV
      refine wp_region_any hmix ?_
      refine Ri.any_inv (I := fun l a' w' => l.size = 28 ∧ ∃ t : Nat → Value, a' = { tmps := #[(Value.pointer (some { block := D, off := 0 }) : Value), Value.pointer (some { block := g, off := o + k * 8 }), undef, undef, Value.bool false, t 27, t 0, t 1, t 2, t 3, t 4, t 5, t 6, t 7, t 8, t 9, t 10, t 11, t 12, t 13, t 14, t 15, t 16, t 17, t 18, t 19, t 20, t 21, t 22, t 23, t 24, t 25, t 26, undef, undef, undef, undef, undef, undef, undef, undef, undef, undef, undef, undef, undef, undef, undef, undef, undef, undef, undef], defers := [] } ∧ Rg.Vals l VV t ∧ Hid (Below W.heap.size W w')) ?sz ?low ?step ?fin _ _ _ _ ?start (Ri.closed_none _ _ _) (Rg.left_all _)
      case sz => exact fun l a' w' h => h.1
      case start => exact ⟨by simp, fun j => ([undef, undef, undef, undef, undef, undef, undef, undef, undef, undef, undef, undef, undef, undef, undef, undef, undef, undef, undef, undef, undef, undef, undef, undef, undef, undef, undef, undef] : List Value).getD j undef, rfl, Rg.vals_none _ _ _, (Below.refl _ _).drew⟩
      case low => exact Ri.low_of (by kernel_rfl)
      case step =>
        rintro l a' w' i ⟨hsz, t, rfl, hv, HW⟩ hcl hi
        obtain ⟨h0, op, ho, hd⟩ := mem_ready.1 hi
        have hin : i < 28 := (Array.getElem?_eq_some_iff.1 ho).1
        clear h0 hi hcl
        have hc : i = 0 ∨ i = 1 ∨ i = 2 ∨ i = 3 ∨ i = 4 ∨ i = 5 ∨ i = 6 ∨ i = 7 ∨ i = 8 ∨ i = 9 ∨ i = 10 ∨ i = 11 ∨ i = 12 ∨ i = 13 ∨ i = 14 ∨ i = 15 ∨ i = 16 ∨ i = 17 ∨ i = 18 ∨ i = 19 ∨ i = 20 ∨ i = 21 ∨ i = 22 ∨ i = 23 ∨ i = 24 ∨ i = 25 ∨ i = 26 ∨ i = 27 := by omega
        rcases hc with rfl | rfl | rfl | rfl | rfl | rfl | rfl | rfl | rfl | rfl | rfl | rfl | rfl | rfl | rfl | rfl | rfl | rfl | rfl | rfl | rfl | rfl | rfl | rfl | rfl | rfl | rfl | rfl
        · obtain rfl : _ = op := Option.some.inj (show some _ = some op from ho)
          have HV := (show Hid (Rg.Vals l VV t) from hv)
          clear hv hd ho
          refine wpOp_step rfl fun K9 hK9 => ?_
          have HKK := (show Hid _ from hK9)
          clear hK9
          go_simp
          exact HKK.out _ _ ⟨by simp [hsz], fun j => if j = 0 then .pointer (some ⟨D, 0, none⟩) else t j, by simp, HV.out.put 0 _ V0.symm, HW⟩
        · obtain rfl : _ = op := Option.some.inj (show some _ = some op from ho)
          have HV := (show Hid (Rg.Vals l VV t) from hv)
          clear hv hd ho
          refine wpOp_step rfl fun K9 hK9 => ?_
          have HKK := (show Hid _ from hK9)
          clear hK9
          go_simp
          exact HKK.out _ _ ⟨by simp [hsz], fun j => if j = 1 then .pointer (some ⟨g, o + k * 8, none⟩) else t j, by simp, HV.out.put 1 _ V1.symm, HW⟩
        · obtain rfl : _ = op := Option.some.inj (show some _ = some op from ho)
          have e1 : t 1 = .pointer (some ⟨g, o + k * 8, none⟩) := (hv 1 (hd { on := 1, ground := .data } (by simp) rfl)).trans V1
          have HV := (show Hid (Rg.Vals l VV t) from hv)
          clear hv hd ho
          refine wpOp_step rfl fun K9 hK9 => ?_
          have HKK := (show Hid _ from hK9)
          clear hK9
          go_simp
          exact HKK.out _ _ ⟨by simp [hsz], fun j => if j = 2 then .pointer (some ⟨g, o + k * 8, none⟩) else t j, by simp [e1], HV.out.put 2 _ V2.symm, HW⟩
        · obtain rfl : _ = op := Option.some.inj (show some _ = some op from ho)
          have e2 : t 2 = .pointer (some ⟨g, o + k * 8, none⟩) := (hv 2 (hd { on := 2, ground := .data } (by simp) rfl)).trans V2
          have HV := (show Hid (Rg.Vals l VV t) from hv)
          clear hv hd ho
          refine wpOp_step rfl fun K9 hK9 => ?_
          have HKK := (show Hid _ from hK9)
          clear hK9
          go_simp
          exact HKK.out _ _ ⟨by simp [hsz], fun j => if j = 3 then .pointer (some ⟨g, o + k * 8, none⟩) else t j, by simp [e2], HV.out.put 3 _ V3.symm, HW⟩
        · obtain rfl : _ = op := Option.some.inj (show some _ = some op from ho)
          have e3 : t 3 = .pointer (some ⟨g, o + k * 8, none⟩) := (hv 3 (hd { on := 3, ground := .data } (by simp) rfl)).trans V3
          have yq0 : w'.cell? ⟨g, o + k * 8, none⟩ = some (.int .i64 a) := (HW.out.cell (p := ⟨g, o + k * 8, none⟩) lg).trans q0
          have yq1 : w'.cell? ⟨g, o + k * 8 + 1, none⟩ = some (.int .i64 b) := (HW.out.cell (p := ⟨g, o + k * 8 + 1, none⟩) lg).trans q1
          have yq2 : w'.cell? ⟨g, o + k * 8 + 2, none⟩ = some (.int .i64 c) := (HW.out.cell (p := ⟨g, o + k * 8 + 2, none⟩) lg).trans q2
          have yq3 : w'.cell? ⟨g, o + k * 8 + 3, none⟩ = some (.int .i64 d) := (HW.out.cell (p := ⟨g, o + k * 8 + 3, none⟩) lg).trans q3
          have yq4 : w'.cell? ⟨g, o + k * 8 + 4, none⟩ = some (.string us) := (HW.out.cell (p := ⟨g, o + k * 8 + 4, none⟩) lg).trans q4
          have yq5 : w'.cell? ⟨g, o + k * 8 + 5, none⟩ = some (.slice ua up.length uc) := (HW.out.cell (p := ⟨g, o + k * 8 + 5, none⟩) lg).trans q5
          have yq6 : w'.cell? ⟨g, o + k * 8 + 6, none⟩ = some (.string ds) := (HW.out.cell (p := ⟨g, o + k * 8 + 6, none⟩) lg).trans q6
          have yq7 : w'.cell? ⟨g, o + k * 8 + 7, none⟩ = some (.slice da dn.length dc) := (HW.out.cell (p := ⟨g, o + k * 8 + 7, none⟩) lg).trans q7
          have HV := (show Hid (Rg.Vals l VV t) from hv)
          clear hv hd ho
          refine wpOp_step rfl fun K9 hK9 => ?_
          have HKK := (show Hid _ from hK9)
          clear hK9
          go_simp
          exact HKK.out _ _ ⟨by simp [hsz], fun j => if j = 4 then .agg #[.int .i64 a, .int .i64 b] else t j, by simp [e3], HV.out.put 4 _ V4.symm, HW⟩
        · obtain rfl : _ = op := Option.some.inj (show some _ = some op from ho)
          have e0 : t 0 = .pointer (some ⟨D, 0, none⟩) := (hv 0 (hd { on := 0, ground := .data } (by simp) rfl)).trans V0
          have e4 : t 4 = .agg #[.int .i64 a, .int .i64 b] := (hv 4 (hd { on := 4, ground := .data } (by simp) rfl)).trans V4
          have HV := (show Hid (Rg.Vals l VV t) from hv)
          clear hv hd ho
          refine wpOp_step rfl fun K9 hK9 => ?_
          have HKK := (show Hid _ from hK9)
          clear hK9
          go_simp
          refine (hasPort_any m mv _ rs D a b _ (h.below HW.out) hml).mono ?_
          rintro e w9 ⟨rfl, k9⟩
          rw [hb]
          refine HKK.out _ _ ⟨by simp [hsz], fun j => if j = 5 then .bool true else t j, by simp [e0, e4], HV.out.put 5 _ V5.symm, HW.out.trans (k9.mono HW.out.size)⟩
        · obtain rfl : _ = op := Option.some.inj (show some _ = some op from ho)
          have e5 : t 5 = .bool true := (hv 5 (hd { on := 5, ground := .data } (by simp) rfl)).trans V5
          have HV := (show Hid (Rg.Vals l VV t) from hv)
          clear hv hd ho
          refine wpOp_step rfl fun K9 hK9 => ?_
          have HKK := (show Hid _ from hK9)
          clear hK9
          go_simp
          exact HKK.out _ _ ⟨by simp [hsz], fun j => if j = 6 then .bool true else t j, by simp [e5], HV.out.put 6 _ V6.symm, HW⟩
        · obtain rfl : _ = op := Option.some.inj (show some _ = some op from ho)
          have e6 : t 6 = .bool true := (hv 6 (hd { on := 6, ground := .guard } (by simp) rfl)).trans V6
          have HV := (show Hid (Rg.Vals l VV t) from hv)
          clear hv hd ho
          refine wpOp_step rfl fun K9 hK9 => ?_
          have HKK := (show Hid _ from hK9)
          clear hK9
          go_simp
          exact HKK.out _ _ ⟨by simp [hsz], fun j => if j = 7 then .pointer (some ⟨g, o + k * 8, none⟩) else t j, by simp [e6], HV.out.put 7 _ V7.symm, HW⟩
        · obtain rfl : _ = op := Option.some.inj (show some _ = some op from ho)
          have e7 : t 7 = .pointer (some ⟨g, o + k * 8, none⟩) := (hv 7 (hd { on := 7, ground := .data } (by simp) rfl)).trans V7
          have e6 : t 6 = .bool true := (hv 6 (hd { on := 6, ground := .guard } (by simp) rfl)).trans V6
          have HV := (show Hid (Rg.Vals l VV t) from hv)
          clear hv hd ho
          refine wpOp_step rfl fun K9 hK9 => ?_
          have HKK := (show Hid _ from hK9)
          clear hK9
          go_simp
          exact HKK.out _ _ ⟨by simp [hsz], fun j => if j = 8 then .pointer (some ⟨g, o + k * 8, none⟩) else t j, by simp [e7, e6], HV.out.put 8 _ V8.symm, HW⟩
        · obtain rfl : _ = op := Option.some.inj (show some _ = some op from ho)
          have e8 : t 8 = .pointer (some ⟨g, o + k * 8, none⟩) := (hv 8 (hd { on := 8, ground := .data } (by simp) rfl)).trans V8
          have e6 : t 6 = .bool true := (hv 6 (hd { on := 6, ground := .guard } (by simp) rfl)).trans V6
          have HV := (show Hid (Rg.Vals l VV t) from hv)
          clear hv hd ho
          refine wpOp_step rfl fun K9 hK9 => ?_
          have HKK := (show Hid _ from hK9)
          clear hK9
          go_simp
          exact HKK.out _ _ ⟨by simp [hsz], fun j => if j = 9 then .pointer (some ⟨g, o + k * 8 + 2, none⟩) else t j, by simp [e8, e6], HV.out.put 9 _ V9.symm, HW⟩
        · obtain rfl : _ = op := Option.some.inj (show some _ = some op from ho)
          have e9 : t 9 = .pointer (some ⟨g, o + k * 8 + 2, none⟩) := (hv 9 (hd { on := 9, ground := .data } (by simp) rfl)).trans V9
          have e6 : t 6 = .bool true := (hv 6 (hd { on := 6, ground := .guard } (by simp) rfl)).trans V6
          have yq0 : w'.cell? ⟨g, o + k * 8, none⟩ = some (.int .i64 a) := (HW.out.cell (p := ⟨g, o + k * 8, none⟩) lg).trans q0
          have yq1 : w'.cell? ⟨g, o + k * 8 + 1, none⟩ = some (.int .i64 b) := (HW.out.cell (p := ⟨g, o + k * 8 + 1, none⟩) lg).trans q1
          have yq2 : w'.cell? ⟨g, o + k * 8 + 2, none⟩ = some (.int .i64 c) := (HW.out.cell (p := ⟨g, o + k * 8 + 2, none⟩) lg).trans q2
          have yq3 : w'.cell? ⟨g, o + k * 8 + 3, none⟩ = some (.int .i64 d) := (HW.out.cell (p := ⟨g, o + k * 8 + 3, none⟩) lg).trans q3
          have yq4 : w'.cell? ⟨g, o + k * 8 + 4, none⟩ = some (.string us) := (HW.out.cell (p := ⟨g, o + k * 8 + 4, none⟩) lg).trans q4
          have yq5 : w'.cell? ⟨g, o + k * 8 + 5, none⟩ = some (.slice ua up.length uc) := (HW.out.cell (p := ⟨g, o + k * 8 + 5, none⟩) lg).trans q5
          have yq6 : w'.cell? ⟨g, o + k * 8 + 6, none⟩ = some (.string ds) := (HW.out.cell (p := ⟨g, o + k * 8 + 6, none⟩) lg).trans q6
          have yq7 : w'.cell? ⟨g, o + k * 8 + 7, none⟩ = some (.slice da dn.length dc) := (HW.out.cell (p := ⟨g, o + k * 8 + 7, none⟩) lg).trans q7
          have HV := (show Hid (Rg.Vals l VV t) from hv)
          clear hv hd ho
          refine wpOp_step rfl fun K9 hK9 => ?_
          have HKK := (show Hid _ from hK9)
          clear hK9
          go_simp
          exact HKK.out _ _ ⟨by simp [hsz], fun j => if j = 10 then .agg #[.int .i64 c, .int .i64 d] else t j, by simp [e9, e6], HV.out.put 10 _ V10.symm, HW⟩
        · obtain rfl : _ = op := Option.some.inj (show some _ = some op from ho)
          have e10 : t 10 = .agg #[.int .i64 c, .int .i64 d] := (hv 10 (hd { on := 10, ground := .data } (by simp) rfl)).trans V10
          have e6 : t 6 = .bool true := (hv 6 (hd { on := 6, ground := .guard } (by simp) rfl)).trans V6
          have HV := (show Hid (Rg.Vals l VV t) from hv)
          clear hv hd ho
          refine wpOp_step rfl fun K9 hK9 => ?_
          have HKK := (show Hid _ from hK9)
          clear hK9
          go_simp
          refine (impl2 c d _).mono ?_
          rintro e w9 ⟨rfl, k9⟩
          rw [ho]
          refine HKK.out _ _ ⟨by simp [hsz], fun j => if j = 11 then .bool false else t j, by simp [e10, e6], HV.out.put 11 _ V11.symm, HW.out.trans (k9.mono HW.out.size)⟩
        · obtain rfl : _ = op := Option.some.inj (show some _ = some op from ho)
          have e6 : t 6 = .bool true := (hv 6 (hd { on := 6, ground := .data } (by simp) rfl)).trans V6
          have e11 : t 11 = .bool false := (hv 11 (hd { on := 11, ground := .data } (by simp) rfl)).trans V11
          have HV := (show Hid (Rg.Vals l VV t) from hv)
          clear hv hd ho
          refine wpOp_step rfl fun K9 hK9 => ?_
          have HKK := (show Hid _ from hK9)
          clear hK9
          go_simp
          exact HKK.out _ _ ⟨by simp [hsz], fun j => if j = 12 then .bool false else t j, by simp [e6, e11], HV.out.put 12 _ V12.symm, HW⟩
        · obtain rfl : _ = op := Option.some.inj (show some _ = some op from ho)
          have e12 : t 12 = .bool false := (hv 12 (hd { on := 12, ground := .data } (by simp) rfl)).trans V12
          have HV := (show Hid (Rg.Vals l VV t) from hv)
          clear hv hd ho
          refine wpOp_step rfl fun K9 hK9 => ?_
          have HKK := (show Hid _ from hK9)
          clear hK9
          go_simp
          exact HKK.out _ _ ⟨by simp [hsz], fun j => if j = 13 then .bool false else t j, by simp [e12], HV.out.put 13 _ V13.symm, HW⟩
        · obtain rfl : _ = op := Option.some.inj (show some _ = some op from ho)
          have e13 : t 13 = .bool false := (hv 13 (hd { on := 13, ground := .guard } (by simp) rfl)).trans V13
          have HV := (show Hid (Rg.Vals l VV t) from hv)
          clear hv hd ho
          refine wpOp_step rfl fun K9 hK9 => ?_
          have HKK := (show Hid _ from hK9)
          clear hK9
          go_simp
          exact HKK.out _ _ ⟨by simp [hsz], fun j => if j = 14 then undef else t j, by simp [e13], HV.out.put 14 _ V14.symm, HW⟩
        · obtain rfl : _ = op := Option.some.inj (show some _ = some op from ho)
          have e13 : t 13 = .bool false := (hv 13 (hd { on := 13, ground := .guard } (by simp) rfl)).trans V13
          have HV := (show Hid (Rg.Vals l VV t) from hv)
          clear hv hd ho
          refine wpOp_step rfl fun K9 hK9 => ?_
          have HKK := (show Hid _ from hK9)
          clear hK9
          go_simp
          exact HKK.out _ _ ⟨by simp [hsz], fun j => if j = 15 then undef else t j, by simp [e13], HV.out.put 15 _ V15.symm, HW⟩
        · obtain rfl : _ = op := Option.some.inj (show some _ = some op from ho)
          have e15 : t 15 = undef := (hv 15 (hd { on := 15, ground := .data } (by simp) rfl)).trans V15
          have e13 : t 13 = .bool false := (hv 13 (hd { on := 13, ground := .guard } (by simp) rfl)).trans V13
          have HV := (show Hid (Rg.Vals l VV t) from hv)
          clear hv hd ho
          refine wpOp_step rfl fun K9 hK9 => ?_
          have HKK := (show Hid _ from hK9)
          clear hK9
          go_simp
          exact HKK.out _ _ ⟨by simp [hsz], fun j => if j = 16 then undef else t j, by simp [e15, e13], HV.out.put 16 _ V16.symm, HW⟩
        · obtain rfl : _ = op := Option.some.inj (show some _ = some op from ho)
          have e16 : t 16 = undef := (hv 16 (hd { on := 16, ground := .data } (by simp) rfl)).trans V16
          have e13 : t 13 = .bool false := (hv 13 (hd { on := 13, ground := .guard } (by simp) rfl)).trans V13
          have HV := (show Hid (Rg.Vals l VV t) from hv)
          clear hv hd ho
          refine wpOp_step rfl fun K9 hK9 => ?_
          have HKK := (show Hid _ from hK9)
          clear hK9
          go_simp
          exact HKK.out _ _ ⟨by simp [hsz], fun j => if j = 17 then undef else t j, by simp [e16, e13], HV.out.put 17 _ V17.symm, HW⟩
        · obtain rfl : _ = op := Option.some.inj (show some _ = some op from ho)
          have e17 : t 17 = undef := (hv 17 (hd { on := 17, ground := .data } (by simp) rfl)).trans V17
          have e13 : t 13 = .bool false := (hv 13 (hd { on := 13, ground := .guard } (by simp) rfl)).trans V13
          have yq0 : w'.cell? ⟨g, o + k * 8, none⟩ = some (.int .i64 a) := (HW.out.cell (p := ⟨g, o + k * 8, none⟩) lg).trans q0
          have yq1 : w'.cell? ⟨g, o + k * 8 + 1, none⟩ = some (.int .i64 b) := (HW.out.cell (p := ⟨g, o + k * 8 + 1, none⟩) lg).trans q1
          have yq2 : w'.cell? ⟨g, o + k * 8 + 2, none⟩ = some (.int .i64 c) := (HW.out.cell (p := ⟨g, o + k * 8 + 2, none⟩) lg).trans q2
          have yq3 : w'.cell? ⟨g, o + k * 8 + 3, none⟩ = some (.int .i64 d) := (HW.out.cell (p := ⟨g, o + k * 8 + 3, none⟩) lg).trans q3
          have yq4 : w'.cell? ⟨g, o + k * 8 + 4, none⟩ = some (.string us) := (HW.out.cell (p := ⟨g, o + k * 8 + 4, none⟩) lg).trans q4
          have yq5 : w'.cell? ⟨g, o + k * 8 + 5, none⟩ = some (.slice ua up.length uc) := (HW.out.cell (p := ⟨g, o + k * 8 + 5, none⟩) lg).trans q5
          have yq6 : w'.cell? ⟨g, o + k * 8 + 6, none⟩ = some (.string ds) := (HW.out.cell (p := ⟨g, o + k * 8 + 6, none⟩) lg).trans q6
          have yq7 : w'.cell? ⟨g, o + k * 8 + 7, none⟩ = some (.slice da dn.length dc) := (HW.out.cell (p := ⟨g, o + k * 8 + 7, none⟩) lg).trans q7
          have HV := (show Hid (Rg.Vals l VV t) from hv)
          clear hv hd ho
          refine wpOp_step rfl fun K9 hK9 => ?_
          have HKK := (show Hid _ from hK9)
          clear hK9
          go_simp
          exact HKK.out _ _ ⟨by simp [hsz], fun j => if j = 18 then undef else t j, by simp [e17, e13], HV.out.put 18 _ V18.symm, HW⟩
        · obtain rfl : _ = op := Option.some.inj (show some _ = some op from ho)
          have e13 : t 13 = .bool false := (hv 13 (hd { on := 13, ground := .guard } (by simp) rfl)).trans V13
          have HV := (show Hid (Rg.Vals l VV t) from hv)
          clear hv hd ho
          refine wpOp_step rfl fun K9 hK9 => ?_
          have HKK := (show Hid _ from hK9)
          clear hK9
          go_simp
          exact HKK.out _ _ ⟨by simp [hsz], fun j => if j = 19 then undef else t j, by simp [e13], HV.out.put 19 _ V19.symm, HW⟩
        · obtain rfl : _ = op := Option.some.inj (show some _ = some op from ho)
          have e19 : t 19 = undef := (hv 19 (hd { on := 19, ground := .data } (by simp) rfl)).trans V19
          have e13 : t 13 = .bool false := (hv 13 (hd { on := 13, ground := .guard } (by simp) rfl)).trans V13
          have HV := (show Hid (Rg.Vals l VV t) from hv)
          clear hv hd ho
          refine wpOp_step rfl fun K9 hK9 => ?_
          have HKK := (show Hid _ from hK9)
          clear hK9
          go_simp
          exact HKK.out _ _ ⟨by simp [hsz], fun j => if j = 20 then undef else t j, by simp [e19, e13], HV.out.put 20 _ V20.symm, HW⟩
        · obtain rfl : _ = op := Option.some.inj (show some _ = some op from ho)
          have e20 : t 20 = undef := (hv 20 (hd { on := 20, ground := .data } (by simp) rfl)).trans V20
          have e13 : t 13 = .bool false := (hv 13 (hd { on := 13, ground := .guard } (by simp) rfl)).trans V13
          have HV := (show Hid (Rg.Vals l VV t) from hv)
          clear hv hd ho
          refine wpOp_step rfl fun K9 hK9 => ?_
          have HKK := (show Hid _ from hK9)
          clear hK9
          go_simp
          exact HKK.out _ _ ⟨by simp [hsz], fun j => if j = 21 then undef else t j, by simp [e20, e13], HV.out.put 21 _ V21.symm, HW⟩
        · obtain rfl : _ = op := Option.some.inj (show some _ = some op from ho)
          have e21 : t 21 = undef := (hv 21 (hd { on := 21, ground := .data } (by simp) rfl)).trans V21
          have e13 : t 13 = .bool false := (hv 13 (hd { on := 13, ground := .guard } (by simp) rfl)).trans V13
          have yq0 : w'.cell? ⟨g, o + k * 8, none⟩ = some (.int .i64 a) := (HW.out.cell (p := ⟨g, o + k * 8, none⟩) lg).trans q0
          have yq1 : w'.cell? ⟨g, o + k * 8 + 1, none⟩ = some (.int .i64 b) := (HW.out.cell (p := ⟨g, o + k * 8 + 1, none⟩) lg).trans q1
          have yq2 : w'.cell? ⟨g, o + k * 8 + 2, none⟩ = some (.int .i64 c) := (HW.out.cell (p := ⟨g, o + k * 8 + 2, none⟩) lg).trans q2
          have yq3 : w'.cell? ⟨g, o + k * 8 + 3, none⟩ = some (.int .i64 d) := (HW.out.cell (p := ⟨g, o + k * 8 + 3, none⟩) lg).trans q3
          have yq4 : w'.cell? ⟨g, o + k * 8 + 4, none⟩ = some (.string us) := (HW.out.cell (p := ⟨g, o + k * 8 + 4, none⟩) lg).trans q4
          have yq5 : w'.cell? ⟨g, o + k * 8 + 5, none⟩ = some (.slice ua up.length uc) := (HW.out.cell (p := ⟨g, o + k * 8 + 5, none⟩) lg).trans q5
          have yq6 : w'.cell? ⟨g, o + k * 8 + 6, none⟩ = some (.string ds) := (HW.out.cell (p := ⟨g, o + k * 8 + 6, none⟩) lg).trans q6
          have yq7 : w'.cell? ⟨g, o + k * 8 + 7, none⟩ = some (.slice da dn.length dc) := (HW.out.cell (p := ⟨g, o + k * 8 + 7, none⟩) lg).trans q7
          have HV := (show Hid (Rg.Vals l VV t) from hv)
          clear hv hd ho
          refine wpOp_step rfl fun K9 hK9 => ?_
          have HKK := (show Hid _ from hK9)
          clear hK9
          go_simp
          exact HKK.out _ _ ⟨by simp [hsz], fun j => if j = 22 then undef else t j, by simp [e21, e13], HV.out.put 22 _ V22.symm, HW⟩
        · obtain rfl : _ = op := Option.some.inj (show some _ = some op from ho)
          have e14 : t 14 = undef := (hv 14 (hd { on := 14, ground := .data } (by simp) rfl)).trans V14
          have e18 : t 18 = undef := (hv 18 (hd { on := 18, ground := .data } (by simp) rfl)).trans V18
          have e22 : t 22 = undef := (hv 22 (hd { on := 22, ground := .data } (by simp) rfl)).trans V22
          have e13 : t 13 = .bool false := (hv 13 (hd { on := 13, ground := .guard } (by simp) rfl)).trans V13
          have HV := (show Hid (Rg.Vals l VV t) from hv)
          clear hv hd ho
          refine wpOp_step rfl fun K9 hK9 => ?_
          have HKK := (show Hid _ from hK9)
          clear hK9
          go_simp
          exact HKK.out _ _ ⟨by simp [hsz], fun j => if j = 23 then undef else t j, by simp [e14, e18, e22, e13], HV.out.put 23 _ V23.symm, HW⟩
        · obtain rfl : _ = op := Option.some.inj (show some _ = some op from ho)
          have e13 : t 13 = .bool false := (hv 13 (hd { on := 13, ground := .guard } (by simp) rfl)).trans V13
          have HV := (show Hid (Rg.Vals l VV t) from hv)
          clear hv hd ho
          refine wpOp_step rfl fun K9 hK9 => ?_
          have HKK := (show Hid _ from hK9)
          clear hK9
          go_simp
          exact HKK.out _ _ ⟨by simp [hsz], fun j => if j = 24 then undef else t j, by simp [e13], HV.out.put 24 _ V24.symm, HW⟩
        · obtain rfl : _ = op := Option.some.inj (show some _ = some op from ho)
          have e23 : t 23 = undef := (hv 23 (hd { on := 23, ground := .data } (by simp) rfl)).trans V23
          have e24 : t 24 = undef := (hv 24 (hd { on := 24, ground := .data } (by simp) rfl)).trans V24
          have e13 : t 13 = .bool false := (hv 13 (hd { on := 13, ground := .guard } (by simp) rfl)).trans V13
          have HV := (show Hid (Rg.Vals l VV t) from hv)
          clear hv hd ho
          refine wpOp_step rfl fun K9 hK9 => ?_
          have HKK := (show Hid _ from hK9)
          clear hK9
          go_simp
          exact HKK.out _ _ ⟨by simp [hsz], fun j => if j = 25 then undef else t j, by simp [e23, e24, e13], HV.out.put 25 _ V25.symm, HW⟩
        · obtain rfl : _ = op := Option.some.inj (show some _ = some op from ho)
          have e13 : t 13 = .bool false := (hv 13 (hd { on := 13, ground := .data } (by simp) rfl)).trans V13
          have e25 : t 25 = undef := (hv 25 (hd { on := 25, ground := .data } (by simp) rfl)).trans V25
          have HV := (show Hid (Rg.Vals l VV t) from hv)
          clear hv hd ho
          refine wpOp_step rfl fun K9 hK9 => ?_
          have HKK := (show Hid _ from hK9)
          clear hK9
          go_simp
          exact HKK.out _ _ ⟨by simp [hsz], fun j => if j = 26 then .bool false else t j, by simp [e13, e25], HV.out.put 26 _ V26.symm, HW⟩
        · obtain rfl : _ = op := Option.some.inj (show some _ = some op from ho)
          have e26 : t 26 = .bool false := (hv 26 (hd { on := 26, ground := .data } (by simp) rfl)).trans V26
          have HV := (show Hid (Rg.Vals l VV t) from hv)
          clear hv hd ho
          refine wpOp_step rfl fun K9 hK9 => ?_
          have HKK := (show Hid _ from hK9)
          clear hK9
          go_simp
          exact HKK.out _ _ ⟨by simp [hsz], fun j => if j = 27 then .bool false else t j, by simp [e26], HV.out.put 27 _ V27.symm, HW⟩
      case fin =>
        rintro l a' w' ⟨hsz, t, rfl, hv, HW⟩ hall
        have e27 : t 27 = .bool false := (hv 27 (hall 27 (by simp))).trans V27
        rw [e27]
        have hbad := (show Hid (flB m rs k _ = false) from by show _ = false; rw [HFL.out, hb, ho]; first | rfl | simp)
        clear hv hall e27 q0 q1 q2 q3 q4 q5 q6 q7
        go_wp2
        go_ret
        exact ⟨by rw [hbad.out]; rfl, HW.out⟩
    · have hjl : fI rs a b c d ≤ k := by
        cases Nat.lt_or_ge k (fI rs a b c d) with
        | inl q => have := fI_pre q hr; rw [sameB_self ⟨a, b, c, d, us, .slice ua up.length uc, up, ds, .slice da dn.length dc, dn⟩] at this; cases this
        | inr q => exact q
      have hQ := (show Hid (fAt (some ⟨g, o, none⟩) (fI rs a b c d) rs.length = some ⟨g, o + fI rs a b c d * 8, none⟩) from by
        show fAt (some ⟨g, o, none⟩) (fI rs a b c d) rs.length = _
        unfold fAt; rw [if_pos (by omega)]; rfl)
      by_cases hj : fI rs a b c d = k
      · have hQ2 := (show Hid (fAt (some ⟨g, o, none⟩) (fI rs a b c d) rs.length = some ⟨g, o + k * 8, none⟩) from by have q := hQ.out; rw [hj] at q ⊢; exact q)
        clear hQ
        have hmix : Tryz.prog.follows .mixedOrders = true := by kernel_rfl
        obtain ⟨VV, hVV⟩ : ∃ VV : Nat → Value, VV = fun j => [(.pointer (some ⟨D, 0, none⟩) : Value), .pointer (some ⟨g, o + k * 8, none⟩), .pointer (some ⟨g, o + k * 8, none⟩), .pointer (some ⟨g, o + k * 8, none⟩), .agg #[.int .i64 a, .int .i64 b], .bool true, .bool true, .pointer (some ⟨g, o + k * 8, none⟩), .pointer (some ⟨g, o + k * 8, none⟩), .pointer (some ⟨g, o + k * 8 + 2, none⟩), .agg #[.int .i64 c, .int .i64 d], .bool true, .bool true, .bool true, .pointer (some ⟨D, 0, none⟩), .pointer (some ⟨g, o + k * 8, none⟩), .pointer (some ⟨g, o + k * 8, none⟩), .pointer (some ⟨g, o + k * 8, none⟩), .agg #[.int .i64 a, .int .i64 b], .pointer (some ⟨g, o + k * 8, none⟩), .pointer (some ⟨g, o + k * 8, none⟩), .pointer (some ⟨g, o + k * 8 + 2, none⟩), .agg #[.int .i64 c, .int .i64 d], .pointer (some ⟨g, o + k * 8, none⟩), .pointer (some ⟨g, o + k * 8, none⟩), .bool true, .bool true, .bool true].getD j undef := ⟨_, rfl⟩
        have V0 : VV 0 = .pointer (some ⟨D, 0, none⟩) := by rw [hVV]; rfl
        have V1 : VV 1 = .pointer (some ⟨g, o + k * 8, none⟩) := by rw [hVV]; rfl
        have V2 : VV 2 = .pointer (some ⟨g, o + k * 8, none⟩) := by rw [hVV]; rfl
        have V3 : VV 3 = .pointer (some ⟨g, o + k * 8, none⟩) := by rw [hVV]; rfl
        have V4 : VV 4 = .agg #[.int .i64 a, .int .i64 b] := by rw [hVV]; rfl
        have V5 : VV 5 = .bool true := by rw [hVV]; rfl
        have V6 : VV 6 = .bool true := by rw [hVV]; rfl
        have V7 : VV 7 = .pointer (some ⟨g, o + k * 8, none⟩) := by rw [hVV]; rfl
        have V8 : VV 8 = .pointer (some ⟨g, o + k * 8, none⟩) := by rw [hVV]; rfl
        have V9 : VV 9 = .pointer (some ⟨g, o + k * 8 + 2, none⟩) := by rw [hVV]; rfl
        have V10 : VV 10 = .agg #[.int .i64 c, .int .i64 d] := by rw [hVV]; rfl
        have V11 : VV 11 = .bool true := by rw [hVV]; rfl
        have V12 : VV 12 = .bool true := by rw [hVV]; rfl
        have V13 : VV 13 = .bool true := by rw [hVV]; rfl
        have V14 : VV 14 = .pointer (some ⟨D, 0, none⟩) := by rw [hVV]; rfl
        have V15 : VV 15 = .pointer (some ⟨g, o + k * 8, none⟩) := by rw [hVV]; rfl
        have V16 : VV 16 = .pointer (some ⟨g, o + k * 8, none⟩) := by rw [hVV]; rfl
        have V17 : VV 17 = .pointer (some ⟨g, o + k * 8, none⟩) := by rw [hVV]; rfl
        have V18 : VV 18 = .agg #[.int .i64 a, .int .i64 b] := by rw [hVV]; rfl
        have V19 : VV 19 = .pointer (some ⟨g, o + k * 8, none⟩) := by rw [hVV]; rfl
        have V20 : VV 20 = .pointer (some ⟨g, o + k * 8, none⟩) := by rw [hVV]; rfl
        have V21 : VV 21 = .pointer (some ⟨g, o + k * 8 + 2, none⟩) := by rw [hVV]; rfl
        have V22 : VV 22 = .agg #[.int .i64 c, .int .i64 d] := by rw [hVV]; rfl
        have V23 : VV 23 = .pointer (some ⟨g, o + k * 8, none⟩) := by rw [hVV]; rfl
        have V24 : VV 24 = .pointer (some ⟨g, o + k * 8, none⟩) := by rw [hVV]; rfl
        have V25 : VV 25 = .bool true := by rw [hVV]; rfl
        have V26 : VV 26 = .bool true := by rw [hVV]; rfl
        have V27 : VV 27 = .bool true := by rw [hVV]; rfl
        clear hVV
        refine wp_region_any hmix ?_
        refine Ri.any_inv (I := fun l a' w' => l.size = 28 ∧ ∃ t : Nat → Value, a' = { tmps := #[(Value.pointer (some { block := D, off := 0 }) : Value), Value.pointer (some { block := g, off := o + k * 8 }), undef, undef, Value.bool false, t 27, t 0, t 1, t 2, t 3, t 4, t 5, t 6, t 7, t 8, t 9, t 10, t 11, t 12, t 13, t 14, t 15, t 16, t 17, t 18, t 19, t 20, t 21, t 22, t 23, t 24, t 25, t 26, undef, undef, undef, undef, undef, undef, undef, undef, undef, undef, undef, undef, undef, undef, undef, undef, undef, undef, undef], defers := [] } ∧ Rg.Vals l VV t ∧ Hid (Below W.heap.size W w')) ?sz ?low ?step ?fin _ _ _ _ ?start (Ri.closed_none _ _ _) (Rg.left_all _)
        case sz => exact fun l a' w' h => h.1
        case start => exact ⟨by simp, fun j => ([undef, undef, undef, undef, undef, undef, undef, undef, undef, undef, undef, undef, undef, undef, undef, undef, undef, undef, undef, undef, undef, undef, undef, undef, undef, undef, undef, undef] : List Value).getD j undef, rfl, Rg.vals_none _ _ _, (Below.refl _ _).drew⟩
        case low => exact Ri.low_of (by kernel_rfl)
        case step =>
          rintro l a' w' i ⟨hsz, t, rfl, hv, HW⟩ hcl hi
          obtain ⟨h0, op, ho, hd⟩ := mem_ready.1 hi
          have hin : i < 28 := (Array.getElem?_eq_some_iff.1 ho).1
          clear h0 hi hcl
          have hc : i = 0 ∨ i = 1 ∨ i = 2 ∨ i = 3 ∨ i = 4 ∨ i = 5 ∨ i = 6 ∨ i = 7 ∨ i = 8 ∨ i = 9 ∨ i = 10 ∨ i = 11 ∨ i = 12 ∨ i = 13 ∨ i = 14 ∨ i = 15 ∨ i = 16 ∨ i = 17 ∨ i = 18 ∨ i = 19 ∨ i = 20 ∨ i = 21 ∨ i = 22 ∨ i = 23 ∨ i = 24 ∨ i = 25 ∨ i = 26 ∨ i = 27 := by omega
          rcases hc with rfl | rfl | rfl | rfl | rfl | rfl | rfl | rfl | rfl | rfl | rfl | rfl | rfl | rfl | rfl | rfl | rfl | rfl | rfl | rfl | rfl | rfl | rfl | rfl | rfl | rfl | rfl | rfl
          · obtain rfl : _ = op := Option.some.inj (show some _ = some op from ho)
            have HV := (show Hid (Rg.Vals l VV t) from hv)
            clear hv hd ho
            refine wpOp_step rfl fun K9 hK9 => ?_
            have HKK := (show Hid _ from hK9)
            clear hK9
            go_simp
            exact HKK.out _ _ ⟨by simp [hsz], fun j => if j = 0 then .pointer (some ⟨D, 0, none⟩) else t j, by simp, HV.out.put 0 _ V0.symm, HW⟩
          · obtain rfl : _ = op := Option.some.inj (show some _ = some op from ho)
            have HV := (show Hid (Rg.Vals l VV t) from hv)
            clear hv hd ho
            refine wpOp_step rfl fun K9 hK9 => ?_
            have HKK := (show Hid _ from hK9)
            clear hK9
            go_simp
            exact HKK.out _ _ ⟨by simp [hsz], fun j => if j = 1 then .pointer (some ⟨g, o + k * 8, none⟩) else t j, by simp, HV.out.put 1 _ V1.symm, HW⟩
          · obtain rfl : _ = op := Option.some.inj (show some _ = some op from ho)
            have e1 : t 1 = .pointer (some ⟨g, o + k * 8, none⟩) := (hv 1 (hd { on := 1, ground := .data } (by simp) rfl)).trans V1
            have HV := (show Hid (Rg.Vals l VV t) from hv)
            clear hv hd ho
            refine wpOp_step rfl fun K9 hK9 => ?_
            have HKK := (show Hid _ from hK9)
            clear hK9
            go_simp
            exact HKK.out _ _ ⟨by simp [hsz], fun j => if j = 2 then .pointer (some ⟨g, o + k * 8, none⟩) else t j, by simp [e1], HV.out.put 2 _ V2.symm, HW⟩
          · obtain rfl : _ = op := Option.some.inj (show some _ = some op from ho)
            have e2 : t 2 = .pointer (some ⟨g, o + k * 8, none⟩) := (hv 2 (hd { on := 2, ground := .data } (by simp) rfl)).trans V2
            have HV := (show Hid (Rg.Vals l VV t) from hv)
            clear hv hd ho
            refine wpOp_step rfl fun K9 hK9 => ?_
            have HKK := (show Hid _ from hK9)
            clear hK9
            go_simp
            exact HKK.out _ _ ⟨by simp [hsz], fun j => if j = 3 then .pointer (some ⟨g, o + k * 8, none⟩) else t j, by simp [e2], HV.out.put 3 _ V3.symm, HW⟩
          · obtain rfl : _ = op := Option.some.inj (show some _ = some op from ho)
            have e3 : t 3 = .pointer (some ⟨g, o + k * 8, none⟩) := (hv 3 (hd { on := 3, ground := .data } (by simp) rfl)).trans V3
            have yq0 : w'.cell? ⟨g, o + k * 8, none⟩ = some (.int .i64 a) := (HW.out.cell (p := ⟨g, o + k * 8, none⟩) lg).trans q0
            have yq1 : w'.cell? ⟨g, o + k * 8 + 1, none⟩ = some (.int .i64 b) := (HW.out.cell (p := ⟨g, o + k * 8 + 1, none⟩) lg).trans q1
            have yq2 : w'.cell? ⟨g, o + k * 8 + 2, none⟩ = some (.int .i64 c) := (HW.out.cell (p := ⟨g, o + k * 8 + 2, none⟩) lg).trans q2
            have yq3 : w'.cell? ⟨g, o + k * 8 + 3, none⟩ = some (.int .i64 d) := (HW.out.cell (p := ⟨g, o + k * 8 + 3, none⟩) lg).trans q3
            have yq4 : w'.cell? ⟨g, o + k * 8 + 4, none⟩ = some (.string us) := (HW.out.cell (p := ⟨g, o + k * 8 + 4, none⟩) lg).trans q4
            have yq5 : w'.cell? ⟨g, o + k * 8 + 5, none⟩ = some (.slice ua up.length uc) := (HW.out.cell (p := ⟨g, o + k * 8 + 5, none⟩) lg).trans q5
            have yq6 : w'.cell? ⟨g, o + k * 8 + 6, none⟩ = some (.string ds) := (HW.out.cell (p := ⟨g, o + k * 8 + 6, none⟩) lg).trans q6
            have yq7 : w'.cell? ⟨g, o + k * 8 + 7, none⟩ = some (.slice da dn.length dc) := (HW.out.cell (p := ⟨g, o + k * 8 + 7, none⟩) lg).trans q7
            have HV := (show Hid (Rg.Vals l VV t) from hv)
            clear hv hd ho
            refine wpOp_step rfl fun K9 hK9 => ?_
            have HKK := (show Hid _ from hK9)
            clear hK9
            go_simp
            exact HKK.out _ _ ⟨by simp [hsz], fun j => if j = 4 then .agg #[.int .i64 a, .int .i64 b] else t j, by simp [e3], HV.out.put 4 _ V4.symm, HW⟩
          · obtain rfl : _ = op := Option.some.inj (show some _ = some op from ho)
            have e0 : t 0 = .pointer (some ⟨D, 0, none⟩) := (hv 0 (hd { on := 0, ground := .data } (by simp) rfl)).trans V0
            have e4 : t 4 = .agg #[.int .i64 a, .int .i64 b] := (hv 4 (hd { on := 4, ground := .data } (by simp) rfl)).trans V4
            have HV := (show Hid (Rg.Vals l VV t) from hv)
            clear hv hd ho
            refine wpOp_step rfl fun K9 hK9 => ?_
            have HKK := (show Hid _ from hK9)
            clear hK9
            go_simp
            refine (hasPort_any m mv _ rs D a b _ (h.below HW.out) hml).mono ?_
            rintro e w9 ⟨rfl, k9⟩
            rw [hb]
            refine HKK.out _ _ ⟨by simp [hsz], fun j => if j = 5 then .bool true else t j, by simp [e0, e4], HV.out.put 5 _ V5.symm, HW.out.trans (k9.mono HW.out.size)⟩
          · obtain rfl : _ = op := Option.some.inj (show some _ = some op from ho)
            have e5 : t 5 = .bool true := (hv 5 (hd { on := 5, ground := .data } (by simp) rfl)).trans V5
            have HV := (show Hid (Rg.Vals l VV t) from hv)
            clear hv hd ho
            refine wpOp_step rfl fun K9 hK9 => ?_
            have HKK := (show Hid _ from hK9)
            clear hK9
            go_simp
            exact HKK.out _ _ ⟨by simp [hsz], fun j => if j = 6 then .bool true else t j, by simp [e5], HV.out.put 6 _ V6.symm, HW⟩
          · obtain rfl : _ = op := Option.some.inj (show some _ = some op from ho)
            have e6 : t 6 = .bool true := (hv 6 (hd { on := 6, ground := .guard } (by simp) rfl)).trans V6
            have HV := (show Hid (Rg.Vals l VV t) from hv)
            clear hv hd ho
            refine wpOp_step rfl fun K9 hK9 => ?_
            have HKK := (show Hid _ from hK9)
            clear hK9
            go_simp
            exact HKK.out _ _ ⟨by simp [hsz], fun j => if j = 7 then .pointer (some ⟨g, o + k * 8, none⟩) else t j, by simp [e6], HV.out.put 7 _ V7.symm, HW⟩
          · obtain rfl : _ = op := Option.some.inj (show some _ = some op from ho)
            have e7 : t 7 = .pointer (some ⟨g, o + k * 8, none⟩) := (hv 7 (hd { on := 7, ground := .data } (by simp) rfl)).trans V7
            have e6 : t 6 = .bool true := (hv 6 (hd { on := 6, ground := .guard } (by simp) rfl)).trans V6
            have HV := (show Hid (Rg.Vals l VV t) from hv)
            clear hv hd ho
            refine wpOp_step rfl fun K9 hK9 => ?_
            have HKK := (show Hid _ from hK9)
            clear hK9
            go_simp
            exact HKK.out _ _ ⟨by simp [hsz], fun j => if j = 8 then .pointer (some ⟨g, o + k * 8, none⟩) else t j, by simp [e7, e6], HV.out.put 8 _ V8.symm, HW⟩
          · obtain rfl : _ = op := Option.some.inj (show some _ = some op from ho)
            have e8 : t 8 = .pointer (some ⟨g, o + k * 8, none⟩) := (hv 8 (hd { on := 8, ground := .data } (by simp) rfl)).trans V8
            have e6 : t 6 = .bool true := (hv 6 (hd { on := 6, ground := .guard } (by simp) rfl)).trans V6
            have HV := (show Hid (Rg.Vals l VV t) from hv)
            clear hv hd ho
            refine wpOp_step rfl fun K9 hK9 => ?_
            have HKK := (show Hid _ from hK9)
            clear hK9
            go_simp
            exact HKK.out _ _ ⟨by simp [hsz], fun j => if j = 9 then .pointer (some ⟨g, o + k * 8 + 2, none⟩) else t j, by simp [e8, e6], HV.out.put 9 _ V9.symm, HW⟩
          · obtain rfl : _ = op := Option.some.inj (show some _ = some op from ho)
            have e9 : t 9 = .pointer (some ⟨g, o + k * 8 + 2, none⟩) := (hv 9 (hd { on := 9, ground := .data } (by simp) rfl)).trans V9
            have e6 : t 6 = .bool true := (hv 6 (hd { on := 6, ground := .guard } (by simp) rfl)).trans V6
            have yq0 : w'.cell? ⟨g, o + k * 8, none⟩ = some (.int .i64 a) := (HW.out.cell (p := ⟨g, o + k * 8, none⟩) lg).trans q0
            have yq1 : w'.cell? ⟨g, o + k * 8 + 1, none⟩ = some (.int .i64 b) := (HW.out.cell (p := ⟨g, o + k * 8 + 1, none⟩) lg).trans q1
            have yq2 : w'.cell? ⟨g, o + k * 8 + 2, none⟩ = some (.int .i64 c) := (HW.out.cell (p := ⟨g, o + k * 8 + 2, none⟩) lg).trans q2
            have yq3 : w'.cell? ⟨g, o + k * 8 + 3, none⟩ = some (.int .i64 d) := (HW.out.cell (p := ⟨g, o + k * 8 + 3, none⟩) lg).trans q3
            have yq4 : w'.cell? ⟨g, o + k * 8 + 4, none⟩ = some (.string us) := (HW.out.cell (p := ⟨g, o + k * 8 + 4, none⟩) lg).trans q4
            have yq5 : w'.cell? ⟨g, o + k * 8 + 5, none⟩ = some (.slice ua up.length uc) := (HW.out.cell (p := ⟨g, o + k * 8 + 5, none⟩) lg).trans q5
            have yq6 : w'.cell? ⟨g, o + k * 8 + 6, none⟩ = some (.string ds) := (HW.out.cell (p := ⟨g, o + k * 8 + 6, none⟩) lg).trans q6
            have yq7 : w'.cell? ⟨g, o + k * 8 + 7, none⟩ = some (.slice da dn.length dc) := (HW.out.cell (p := ⟨g, o + k * 8 + 7, none⟩) lg).trans q7
            have HV := (show Hid (Rg.Vals l VV t) from hv)
            clear hv hd ho
            refine wpOp_step rfl fun K9 hK9 => ?_
            have HKK := (show Hid _ from hK9)
            clear hK9
            go_simp
            exact HKK.out _ _ ⟨by simp [hsz], fun j => if j = 10 then .agg #[.int .i64 c, .int .i64 d] else t j, by simp [e9, e6], HV.out.put 10 _ V10.symm, HW⟩
          · obtain rfl : _ = op := Option.some.inj (show some _ = some op from ho)
            have e10 : t 10 = .agg #[.int .i64 c, .int .i64 d] := (hv 10 (hd { on := 10, ground := .data } (by simp) rfl)).trans V10
            have e6 : t 6 = .bool true := (hv 6 (hd { on := 6, ground := .guard } (by simp) rfl)).trans V6
            have HV := (show Hid (Rg.Vals l VV t) from hv)
            clear hv hd ho
            refine wpOp_step rfl fun K9 hK9 => ?_
            have HKK := (show Hid _ from hK9)
            clear hK9
            go_simp
            refine (impl2 c d _).mono ?_
            rintro e w9 ⟨rfl, k9⟩
            rw [ho]
            refine HKK.out _ _ ⟨by simp [hsz], fun j => if j = 11 then .bool true else t j, by simp [e10, e6], HV.out.put 11 _ V11.symm, HW.out.trans (k9.mono HW.out.size)⟩
          · obtain rfl : _ = op := Option.some.inj (show some _ = some op from ho)
            have e6 : t 6 = .bool true := (hv 6 (hd { on := 6, ground := .data } (by simp) rfl)).trans V6
            have e11 : t 11 = .bool true := (hv 11 (hd { on := 11, ground := .data } (by simp) rfl)).trans V11
            have HV := (show Hid (Rg.Vals l VV t) from hv)
            clear hv hd ho
            refine wpOp_step rfl fun K9 hK9 => ?_
            have HKK := (show Hid _ from hK9)
            clear hK9
            go_simp
            exact HKK.out _ _ ⟨by simp [hsz], fun j => if j = 12 then .bool true else t j, by simp [e6, e11], HV.out.put 12 _ V12.symm, HW⟩
          · obtain rfl : _ = op := Option.some.inj (show some _ = some op from ho)
            have e12 : t 12 = .bool true := (hv 12 (hd { on := 12, ground := .data } (by simp) rfl)).trans V12
            have HV := (show Hid (Rg.Vals l VV t) from hv)
            clear hv hd ho
            refine wpOp_step rfl fun K9 hK9 => ?_
            have HKK := (show Hid _ from hK9)
            clear hK9
            go_simp
            exact HKK.out _ _ ⟨by simp [hsz], fun j => if j = 13 then .bool true else t j, by simp [e12], HV.out.put 13 _ V13.symm, HW⟩
          · obtain rfl : _ = op := Option.some.inj (show some _ = some op from ho)
            have e13 : t 13 = .bool true := (hv 13 (hd { on := 13, ground := .guard } (by simp) rfl)).trans V13
            have HV := (show Hid (Rg.Vals l VV t) from hv)
            clear hv hd ho
            refine wpOp_step rfl fun K9 hK9 => ?_
            have HKK := (show Hid _ from hK9)
            clear hK9
            go_simp
            exact HKK.out _ _ ⟨by simp [hsz], fun j => if j = 14 then .pointer (some ⟨D, 0, none⟩) else t j, by simp [e13], HV.out.put 14 _ V14.symm, HW⟩
          · obtain rfl : _ = op := Option.some.inj (show some _ = some op from ho)
            have e13 : t 13 = .bool true := (hv 13 (hd { on := 13, ground := .guard } (by simp) rfl)).trans V13
            have HV := (show Hid (Rg.Vals l VV t) from hv)
            clear hv hd ho
            refine wpOp_step rfl fun K9 hK9 => ?_
            have HKK := (show Hid _ from hK9)
            clear hK9
            go_simp
            exact HKK.out _ _ ⟨by simp [hsz], fun j => if j = 15 then .pointer (some ⟨g, o + k * 8, none⟩) else t j, by simp [e13], HV.out.put 15 _ V15.symm, HW⟩
          · obtain rfl : _ = op := Option.some.inj (show some _ = some op from ho)
            have e15 : t 15 = .pointer (some ⟨g, o + k * 8, none⟩) := (hv 15 (hd { on := 15, ground := .data } (by simp) rfl)).trans V15
            have e13 : t 13 = .bool true := (hv 13 (hd { on := 13, ground := .guard } (by simp) rfl)).trans V13
            have HV := (show Hid (Rg.Vals l VV t) from hv)
            clear hv hd ho
            refine wpOp_step rfl fun K9 hK9 => ?_
            have HKK := (show Hid _ from hK9)
            clear hK9
            go_simp
            exact HKK.out _ _ ⟨by simp [hsz], fun j => if j = 16 then .pointer (some ⟨g, o + k * 8, none⟩) else t j, by simp [e15, e13], HV.out.put 16 _ V16.symm, HW⟩
          · obtain rfl : _ = op := Option.some.inj (show some _ = some op from ho)
            have e16 : t 16 = .pointer (some ⟨g, o + k * 8, none⟩) := (hv 16 (hd { on := 16, ground := .data } (by simp) rfl)).trans V16
            have e13 : t 13 = .bool true := (hv 13 (hd { on := 13, ground := .guard } (by simp) rfl)).trans V13
            have HV := (show Hid (Rg.Vals l VV t) from hv)
            clear hv hd ho
            refine wpOp_step rfl fun K9 hK9 => ?_
            have HKK := (show Hid _ from hK9)
            clear hK9
            go_simp
            exact HKK.out _ _ ⟨by simp [hsz], fun j => if j = 17 then .pointer (some ⟨g, o + k * 8, none⟩) else t j, by simp [e16, e13], HV.out.put 17 _ V17.symm, HW⟩
          · obtain rfl : _ = op := Option.some.inj (show some _ = some op from ho)
            have e17 : t 17 = .pointer (some ⟨g, o + k * 8, none⟩) := (hv 17 (hd { on := 17, ground := .data } (by simp) rfl)).trans V17
            have e13 : t 13 = .bool true := (hv 13 (hd { on := 13, ground := .guard } (by simp) rfl)).trans V13
            have yq0 : w'.cell? ⟨g, o + k * 8, none⟩ = some (.int .i64 a) := (HW.out.cell (p := ⟨g, o + k * 8, none⟩) lg).trans q0
            have yq1 : w'.cell? ⟨g, o + k * 8 + 1, none⟩ = some (.int .i64 b) := (HW.out.cell (p := ⟨g, o + k * 8 + 1, none⟩) lg).trans q1
            have yq2 : w'.cell? ⟨g, o + k * 8 + 2, none⟩ = some (.int .i64 c) := (HW.out.cell (p := ⟨g, o + k * 8 + 2, none⟩) lg).trans q2
            have yq3 : w'.cell? ⟨g, o + k * 8 + 3, none⟩ = some (.int .i64 d) := (HW.out.cell (p := ⟨g, o + k * 8 + 3, none⟩) lg).trans q3
            have yq4 : w'.cell? ⟨g, o + k * 8 + 4, none⟩ = some (.string us) := (HW.out.cell (p := ⟨g, o + k * 8 + 4, none⟩) lg).trans q4
            have yq5 : w'.cell? ⟨g, o + k * 8 + 5, none⟩ = some (.slice ua up.length uc) := (HW.out.cell (p := ⟨g, o + k * 8 + 5, none⟩) lg).trans q5
            have yq6 : w'.cell? ⟨g, o + k * 8 + 6, none⟩ = some (.string ds) := (HW.out.cell (p := ⟨g, o + k * 8 + 6, none⟩) lg).trans q6
            have yq7 : w'.cell? ⟨g, o + k * 8 + 7, none⟩ = some (.slice da dn.length dc) := (HW.out.cell (p := ⟨g, o + k * 8 + 7, none⟩) lg).trans q7
            have HV := (show Hid (Rg.Vals l VV t) from hv)
            clear hv hd ho
            refine wpOp_step rfl fun K9 hK9 => ?_
            have HKK := (show Hid _ from hK9)
            clear hK9
            go_simp
            exact HKK.out _ _ ⟨by simp [hsz], fun j => if j = 18 then .agg #[.int .i64 a, .int .i64 b] else t j, by simp [e17, e13], HV.out.put 18 _ V18.symm, HW⟩
          · obtain rfl : _ = op := Option.some.inj (show some _ = some op from ho)
            have e13 : t 13 = .bool true := (hv 13 (hd { on := 13, ground := .guard } (by simp) rfl)).trans V13
            have HV := (show Hid (Rg.Vals l VV t) from hv)
            clear hv hd ho
            refine wpOp_step rfl fun K9 hK9 => ?_
            have HKK := (show Hid _ from hK9)
            clear hK9
            go_simp
            exact HKK.out _ _ ⟨by simp [hsz], fun j => if j = 19 then .pointer (some ⟨g, o + k * 8, none⟩) else t j, by simp [e13], HV.out.put 19 _ V19.symm, HW⟩
          · obtain rfl : _ = op := Option.some.inj (show some _ = some op from ho)
            have e19 : t 19 = .pointer (some ⟨g, o + k * 8, none⟩) := (hv 19 (hd { on := 19, ground := .data } (by simp) rfl)).trans V19
            have e13 : t 13 = .bool true := (hv 13 (hd { on := 13, ground := .guard } (by simp) rfl)).trans V13
            have HV := (show Hid (Rg.Vals l VV t) from hv)
            clear hv hd ho
            refine wpOp_step rfl fun K9 hK9 => ?_
            have HKK := (show Hid _ from hK9)
            clear hK9
            go_simp
            exact HKK.out _ _ ⟨by simp [hsz], fun j => if j = 20 then .pointer (some ⟨g, o + k * 8, none⟩) else t j, by simp [e19, e13], HV.out.put 20 _ V20.symm, HW⟩
          · obtain rfl : _ = op := Option.some.inj (show some _ = some op from ho)
            have e20 : t 20 = .pointer (some ⟨g, o + k * 8, none⟩) := (hv 20 (hd { on := 20, ground := .data } (by simp) rfl)).trans V20
            have e13 : t 13 = .bool true := (hv 13 (hd { on := 13, ground := .guard } (by simp) rfl)).trans V13
            have HV := (show Hid (Rg.Vals l VV t) from hv)
            clear hv hd ho
            refine wpOp_step rfl fun K9 hK9 => ?_
            have HKK := (show Hid _ from hK9)
            clear hK9
            go_simp
            exact HKK.out _ _ ⟨by simp [hsz], fun j => if j = 21 then .pointer (some ⟨g, o + k * 8 + 2, none⟩) else t j, by simp [e20, e13], HV.out.put 21 _ V21.symm, HW⟩
          · obtain rfl : _ = op := Option.some.inj (show some _ = some op from ho)
            have e21 : t 21 = .pointer (some ⟨g, o + k * 8 + 2, none⟩) := (hv 21 (hd { on := 21, ground := .data } (by simp) rfl)).trans V21
            have e13 : t 13 = .bool true := (hv 13 (hd { on := 13, ground := .guard } (by simp) rfl)).trans V13
            have yq0 : w'.cell? ⟨g, o + k * 8, none⟩ = some (.int .i64 a) := (HW.out.cell (p := ⟨g, o + k * 8, none⟩) lg).trans q0
            have yq1 : w'.cell? ⟨g, o + k * 8 + 1, none⟩ = some (.int .i64 b) := (HW.out.cell (p := ⟨g, o + k * 8 + 1, none⟩) lg).trans q1
            have yq2 : w'.cell? ⟨g, o + k * 8 + 2, none⟩ = some (.int .i64 c) := (HW.out.cell (p := ⟨g, o + k * 8 + 2, none⟩) lg).trans q2
            have yq3 : w'.cell? ⟨g, o + k * 8 + 3, none⟩ = some (.int .i64 d) := (HW.out.cell (p := ⟨g, o + k * 8 + 3, none⟩) lg).trans q3
            have yq4 : w'.cell? ⟨g, o + k * 8 + 4, none⟩ = some (.string us) := (HW.out.cell (p := ⟨g, o + k * 8 + 4, none⟩) lg).trans q4
            have yq5 : w'.cell? ⟨g, o + k * 8 + 5, none⟩ = some (.slice ua up.length uc) := (HW.out.cell (p := ⟨g, o + k * 8 + 5, none⟩) lg).trans q5
            have yq6 : w'.cell? ⟨g, o + k * 8 + 6, none⟩ = some (.string ds) := (HW.out.cell (p := ⟨g, o + k * 8 + 6, none⟩) lg).trans q6
            have yq7 : w'.cell? ⟨g, o + k * 8 + 7, none⟩ = some (.slice da dn.length dc) := (HW.out.cell (p := ⟨g, o + k * 8 + 7, none⟩) lg).trans q7
            have HV := (show Hid (Rg.Vals l VV t) from hv)
            clear hv hd ho
            refine wpOp_step rfl fun K9 hK9 => ?_
            have HKK := (show Hid _ from hK9)
            clear hK9
            go_simp
            exact HKK.out _ _ ⟨by simp [hsz], fun j => if j = 22 then .agg #[.int .i64 c, .int .i64 d] else t j, by simp [e21, e13], HV.out.put 22 _ V22.symm, HW⟩
          · obtain rfl : _ = op := Option.some.inj (show some _ = some op from ho)
            have e14 : t 14 = .pointer (some ⟨D, 0, none⟩) := (hv 14 (hd { on := 14, ground := .data } (by simp) rfl)).trans V14
            have e18 : t 18 = .agg #[.int .i64 a, .int .i64 b] := (hv 18 (hd { on := 18, ground := .data } (by simp) rfl)).trans V18
            have e22 : t 22 = .agg #[.int .i64 c, .int .i64 d] := (hv 22 (hd { on := 22, ground := .data } (by simp) rfl)).trans V22
            have e13 : t 13 = .bool true := (hv 13 (hd { on := 13, ground := .guard } (by simp) rfl)).trans V13
            have HV := (show Hid (Rg.Vals l VV t) from hv)
            clear hv hd ho
            refine wpOp_step rfl fun K9 hK9 => ?_
            have HKK := (show Hid _ from hK9)
            clear hK9
            go_simp
            refine (find_any m mv _ fc rs D a b c d _ (h.below HW.out) hn).mono ?_
            rintro e w9 ⟨rfl, k9⟩
            rw [hQ2.out]
            refine HKK.out _ _ ⟨by simp [hsz], fun j => if j = 23 then .pointer (some ⟨g, o + k * 8, none⟩) else t j, by simp [e14, e18, e22, e13], HV.out.put 23 _ V23.symm, HW.out.trans (k9.mono HW.out.size)⟩
          · obtain rfl : _ = op := Option.some.inj (show some _ = some op from ho)
            have e13 : t 13 = .bool true := (hv 13 (hd { on := 13, ground := .guard } (by simp) rfl)).trans V13
            have HV := (show Hid (Rg.Vals l VV t) from hv)
            clear hv hd ho
            refine wpOp_step rfl fun K9 hK9 => ?_
            have HKK := (show Hid _ from hK9)
            clear hK9
            go_simp
            exact HKK.out _ _ ⟨by simp [hsz], fun j => if j = 24 then .pointer (some ⟨g, o + k * 8, none⟩) else t j, by simp [e13], HV.out.put 24 _ V24.symm, HW⟩
          · obtain rfl : _ = op := Option.some.inj (show some _ = some op from ho)
            have e23 : t 23 = .pointer (some ⟨g, o + k * 8, none⟩) := (hv 23 (hd { on := 23, ground := .data } (by simp) rfl)).trans V23
            have e24 : t 24 = .pointer (some ⟨g, o + k * 8, none⟩) := (hv 24 (hd { on := 24, ground := .data } (by simp) rfl)).trans V24
            have e13 : t 13 = .bool true := (hv 13 (hd { on := 13, ground := .guard } (by simp) rfl)).trans V13
            have HV := (show Hid (Rg.Vals l VV t) from hv)
            clear hv hd ho
            refine wpOp_step rfl fun K9 hK9 => ?_
            have HKK := (show Hid _ from hK9)
            clear hK9
            go_simp
            exact HKK.out _ _ ⟨by simp [hsz], fun j => if j = 25 then .bool true else t j, by simp [e23, e24, e13], HV.out.put 25 _ V25.symm, HW⟩
          · obtain rfl : _ = op := Option.some.inj (show some _ = some op from ho)
            have e13 : t 13 = .bool true := (hv 13 (hd { on := 13, ground := .data } (by simp) rfl)).trans V13
            have e25 : t 25 = .bool true := (hv 25 (hd { on := 25, ground := .data } (by simp) rfl)).trans V25
            have HV := (show Hid (Rg.Vals l VV t) from hv)
            clear hv hd ho
            refine wpOp_step rfl fun K9 hK9 => ?_
            have HKK := (show Hid _ from hK9)
            clear hK9
            go_simp
            exact HKK.out _ _ ⟨by simp [hsz], fun j => if j = 26 then .bool true else t j, by simp [e13, e25], HV.out.put 26 _ V26.symm, HW⟩
          · obtain rfl : _ = op := Option.some.inj (show some _ = some op from ho)
            have e26 : t 26 = .bool true := (hv 26 (hd { on := 26, ground := .data } (by simp) rfl)).trans V26
            have HV := (show Hid (Rg.Vals l VV t) from hv)
            clear hv hd ho
            refine wpOp_step rfl fun K9 hK9 => ?_
            have HKK := (show Hid _ from hK9)
            clear hK9
            go_simp
            exact HKK.out _ _ ⟨by simp [hsz], fun j => if j = 27 then .bool true else t j, by simp [e26], HV.out.put 27 _ V27.symm, HW⟩
        case fin =>
          rintro l a' w' ⟨hsz, t, rfl, hv, HW⟩ hall
          have e27 : t 27 = .bool true := (hv 27 (hall 27 (by simp))).trans V27
          rw [e27]
          have HJ := (show Hid (decide (fI rs a b c d = k) = true) from decide_eq_true hj)
          have hb9 := HW.out
          rename World => w2
          have r4 := (hb9.cell (p := ⟨g, o + k * 8 + 4, none⟩) lg).trans q4
          have r5 := (hb9.cell (p := ⟨g, o + k * 8 + 5, none⟩) lg).trans q5
          have r6 := (hb9.cell (p := ⟨g, o + k * 8 + 6, none⟩) lg).trans q6
          have r7 := (hb9.cell (p := ⟨g, o + k * 8 + 7, none⟩) lg).trans q7
          have lgr := Nat.lt_of_lt_of_le lg hb9.size
          have g1 := g1.below hb9
          have g2 := g2.below hb9
          have herr := herr.below hb9
          clear q0 q1 q2 q3 q4 q5 q6 q7 HW hj hjl hQ2 V0 V1 V2 V3 V4 V5 V6 V7 V8 V9 V10 V11 V12 V13 V14 V15 V16 V17 V18 V19 V20 V21 V22 V23 V24 V25 V26 V27 c1 hv hall e27
          go_wp2_with fail
          refine (up_any _ _).mono ?_
          rintro e w3 ⟨rfl, k3⟩
          have s4 := (k3.cell (p := ⟨g, o + k * 8 + 4, none⟩) lgr).trans r4
          have s5 := (k3.cell (p := ⟨g, o + k * 8 + 5, none⟩) lgr).trans r5
          have s6 := (k3.cell (p := ⟨g, o + k * 8 + 6, none⟩) lgr).trans r6
          have s7 := (k3.cell (p := ⟨g, o + k * 8 + 7, none⟩) lgr).trans r7
          have lgs := Nat.lt_of_lt_of_le lgr k3.size
          have b3 := hb9.trans (k3.mono hb9.size)
          have g1 := g1.below k3
          have g2 := g2.below k3
          have herr := herr.below k3
          clear r4 r5 r6 r7 k3
          go_wp2_with fail
          refine (ok_stream us _ up _ g1 herr).mono ?_
          rintro e w4 ⟨rfl, k4⟩
          have p4 := (k4.cell (p := ⟨g, o + k * 8 + 4, none⟩) lgs).trans s4
          have p5 := (k4.cell (p := ⟨g, o + k * 8 + 5, none⟩) lgs).trans s5
          have p6 := (k4.cell (p := ⟨g, o + k * 8 + 6, none⟩) lgs).trans s6
          have p7 := (k4.cell (p := ⟨g, o + k * 8 + 7, none⟩) lgs).trans s7
          have lgp := Nat.lt_of_lt_of_le lgs k4.size
          have b4 := b3.trans (k4.mono b3.size)
          have g2 := g2.below k4
          have herr := herr.below k4
          clear s4 s5 s6 s7 k4
          cases hu : stB us up
          · have hres := (show Hid (flB m rs k _ = false) from by show _ = false; rw [HFL.out, hb, ho, HJ.out, hu]; rfl)
            go_wp2
            go_ret
            exact ⟨by rw [hres.out]; rfl, b4⟩
          · go_wp2_with fail
            refine (down_any _ _).mono ?_
            rintro e w5 ⟨rfl, k5⟩
            have x4 := (k5.cell (p := ⟨g, o + k * 8 + 4, none⟩) lgp).trans p4
            have x5 := (k5.cell (p := ⟨g, o + k * 8 + 5, none⟩) lgp).trans p5
            have x6 := (k5.cell (p := ⟨g, o + k * 8 + 6, none⟩) lgp).trans p6
            have x7 := (k5.cell (p := ⟨g, o + k * 8 + 7, none⟩) lgp).trans p7
            have lgx := Nat.lt_of_lt_of_le lgp k5.size
            have b5 := b4.trans (k5.mono b4.size)
            have g2 := g2.below k5
            have herr := herr.below k5
            clear p4 p5 p6 p7 k5
            go_wp2_with fail
            refine (ok_stream ds _ dn _ g2 herr).mono ?_
            rintro e w6 ⟨rfl, k6⟩
            have b6 := b5.trans (k6.mono b5.size)
            have hres := (show Hid (flB m rs k _ = stB ds dn) from by show _ = stB ds dn; rw [HFL.out, hb, ho, HJ.out, hu]; simp)
            cases hn2 : stB ds dn
            · go_wp2
              go_ret
              exact ⟨by rw [hres.out, hn2]; rfl, b6⟩
            · go_wp2
              go_ret
              exact ⟨by rw [hres.out, hn2]; rfl, b6⟩
      · obtain ⟨J, hJ⟩ : ∃ J, fI rs a b c d = J := ⟨_, rfl⟩
        have hQ2 := (show Hid (fAt (some ⟨g, o, none⟩) (fI rs a b c d) rs.length = some ⟨g, o + J * 8, none⟩) from by have q := hQ.out; rw [hJ] at q ⊢; exact q)
        have hoj2 : ¬ J = k := by rw [← hJ]; exact hj
        have hoj : ¬ o + J * 8 = o + k * 8 := by omega
        have hj3 := (show Hid (¬ fI rs a b c d = k) from hj)
        clear hj hjl hQ hJ
        have hmix : Tryz.prog.follows .mixedOrders = true := by kernel_rfl
        obtain ⟨VV, hVV⟩ : ∃ VV : Nat → Value, VV = fun j => [(.pointer (some ⟨D, 0, none⟩) : Value), .pointer (some ⟨g, o + k * 8, none⟩), .pointer (some ⟨g, o + k * 8, none⟩), .pointer (some ⟨g, o + k * 8, none⟩), .agg #[.int .i64 a, .int .i64 b], .bool true, .bool true, .pointer (some ⟨g, o + k * 8, none⟩), .pointer (some ⟨g, o + k * 8, none⟩), .pointer (some ⟨g, o + k * 8 + 2, none⟩), .agg #[.int .i64 c, .int .i64 d], .bool true, .bool true, .bool true, .pointer (some ⟨D, 0, none⟩), .pointer (some ⟨g, o + k * 8, none⟩), .pointer (some ⟨g, o + k * 8, none⟩), .pointer (some ⟨g, o + k * 8, none⟩), .agg #[.int .i64 a, .int .i64 b], .pointer (some ⟨g, o + k * 8, none⟩), .pointer (some ⟨g, o + k * 8, none⟩), .pointer (some ⟨g, o + k * 8 + 2, none⟩), .agg #[.int .i64 c, .int .i64 d], .pointer (some ⟨g, o + J * 8, none⟩), .pointer (some ⟨g, o + k * 8, none⟩), .bool false, .bool false, .bool false].getD j undef := ⟨_, rfl⟩
        have V0 : VV 0 = .pointer (some ⟨D, 0, none⟩) := by rw [hVV]; rfl
        have V1 : VV 1 = .pointer (some ⟨g, o + k * 8, none⟩) := by rw [hVV]; rfl
        have V2 : VV 2 = .pointer (some ⟨g, o + k * 8, none⟩) := by rw [hVV]; rfl
        have V3 : VV 3 = .pointer (some ⟨g, o + k * 8, none⟩) := by rw [hVV]; rfl
        have V4 : VV 4 = .agg #[.int .i64 a, .int .i64 b] := by rw [hVV]; rfl
        have V5 : VV 5 = .bool true := by rw [hVV]; rfl
        have V6 : VV 6 = .bool true := by rw [hVV]; rfl
        have V7 : VV 7 = .pointer (some ⟨g, o + k * 8, none⟩) := by rw [hVV]; rfl
        have V8 : VV 8 = .pointer (some ⟨g, o + k * 8, none⟩) := by rw [hVV]; rfl
        have V9 : VV 9 = .pointer (some ⟨g, o + k * 8 + 2, none⟩) := by rw [hVV]; rfl
        have V10 : VV 10 = .agg #[.int .i64 c, .int .i64 d] := by rw [hVV]; rfl
        have V11 : VV 11 = .bool true := by rw [hVV]; rfl
        have V12 : VV 12 = .bool true := by rw [hVV]; rfl
        have V13 : VV 13 = .bool true := by rw [hVV]; rfl
        have V14 : VV 14 = .pointer (some ⟨D, 0, none⟩) := by rw [hVV]; rfl
        have V15 : VV 15 = .pointer (some ⟨g, o + k * 8, none⟩) := by rw [hVV]; rfl
        have V16 : VV 16 = .pointer (some ⟨g, o + k * 8, none⟩) := by rw [hVV]; rfl
        have V17 : VV 17 = .pointer (some ⟨g, o + k * 8, none⟩) := by rw [hVV]; rfl
        have V18 : VV 18 = .agg #[.int .i64 a, .int .i64 b] := by rw [hVV]; rfl
        have V19 : VV 19 = .pointer (some ⟨g, o + k * 8, none⟩) := by rw [hVV]; rfl
        have V20 : VV 20 = .pointer (some ⟨g, o + k * 8, none⟩) := by rw [hVV]; rfl
        have V21 : VV 21 = .pointer (some ⟨g, o + k * 8 + 2, none⟩) := by rw [hVV]; rfl
        have V22 : VV 22 = .agg #[.int .i64 c, .int .i64 d] := by rw [hVV]; rfl
        have V23 : VV 23 = .pointer (some ⟨g, o + J * 8, none⟩) := by rw [hVV]; rfl
        have V24 : VV 24 = .pointer (some ⟨g, o + k * 8, none⟩) := by rw [hVV]; rfl
        have V25 : VV 25 = .bool false := by rw [hVV]; rfl
        have V26 : VV 26 = .bool false := by rw [hVV]; rfl
        have V27 : VV 27 = .bool false := by rw [hVV]; rfl
        clear hVV
        refine wp_region_any hmix ?_
        refine Ri.any_inv (I := fun l a' w' => l.size = 28 ∧ ∃ t : Nat → Value, a' = { tmps := #[(Value.pointer (some { block := D, off := 0 }) : Value), Value.pointer (some { block := g, off := o + k * 8 }), undef, undef, Value.bool false, t 27, t 0, t 1, t 2, t 3, t 4, t 5, t 6, t 7, t 8, t 9, t 10, t 11, t 12, t 13, t 14, t 15, t 16, t 17, t 18, t 19, t 20, t 21, t 22, t 23, t 24, t 25, t 26, undef, undef, undef, undef, undef, undef, undef, undef, undef, undef, undef, undef, undef, undef, undef, undef, undef, undef, undef], defers := [] } ∧ Rg.Vals l VV t ∧ Hid (Below W.heap.size W w')) ?sz ?low ?step ?fin _ _ _ _ ?start (Ri.closed_none _ _ _) (Rg.left_all _)
        case sz => exact fun l a' w' h => h.1
        case start => exact ⟨by simp, fun j => ([undef, undef, undef, undef, undef, undef, undef, undef, undef, undef, undef, undef, undef, undef, undef, undef, undef, undef, undef, undef, undef, undef, undef, undef, undef, undef, undef, undef] : List Value).getD j undef, rfl, Rg.vals_none _ _ _, (Below.refl _ _).drew⟩
        case low => exact Ri.low_of (by kernel_rfl)
        case step =>
          rintro l a' w' i ⟨hsz, t, rfl, hv, HW⟩ hcl hi
          obtain ⟨h0, op, ho, hd⟩ := mem_ready.1 hi
          have hin : i < 28 := (Array.getElem?_eq_some_iff.1 ho).1
          clear h0 hi hcl
          have hc : i = 0 ∨ i = 1 ∨ i = 2 ∨ i = 3 ∨ i = 4 ∨ i = 5 ∨ i = 6 ∨ i = 7 ∨ i = 8 ∨ i = 9 ∨ i = 10 ∨ i = 11 ∨ i = 12 ∨ i = 13 ∨ i = 14 ∨ i = 15 ∨ i = 16 ∨ i = 17 ∨ i = 18 ∨ i = 19 ∨ i = 20 ∨ i = 21 ∨ i = 22 ∨ i = 23 ∨ i = 24 ∨ i = 25 ∨ i = 26 ∨ i = 27 := by omega
          rcases hc with rfl | rfl | rfl | rfl | rfl | rfl | rfl | rfl | rfl | rfl | rfl | rfl | rfl | rfl | rfl | rfl | rfl | rfl | rfl | rfl | rfl | rfl | rfl | rfl | rfl | rfl | rfl | rfl
          · obtain rfl : _ = op := Option.some.inj (show some _ = some op from ho)
            have HV := (show Hid (Rg.Vals l VV t) from hv)
            clear hv hd ho
            refine wpOp_step rfl fun K9 hK9 => ?_
            have HKK := (show Hid _ from hK9)
            clear hK9
            go_simp
            exact HKK.out _ _ ⟨by simp [hsz], fun j => if j = 0 then .pointer (some ⟨D, 0, none⟩) else t j, by simp, HV.out.put 0 _ V0.symm, HW⟩
          · obtain rfl : _ = op := Option.some.inj (show some _ = some op from ho)
            have HV := (show Hid (Rg.Vals l VV t) from hv)
            clear hv hd ho
            refine wpOp_step rfl fun K9 hK9 => ?_
            have HKK := (show Hid _ from hK9)
            clear hK9
            go_simp
            exact HKK.out _ _ ⟨by simp [hsz], fun j => if j = 1 then .pointer (some ⟨g, o + k * 8, none⟩) else t j, by simp, HV.out.put 1 _ V1.symm, HW⟩
          · obtain rfl : _ = op := Option.some.inj (show some _ = some op from ho)
            have e1 : t 1 = .pointer (some ⟨g, o + k * 8, none⟩) := (hv 1 (hd { on := 1, ground := .data } (by simp) rfl)).trans V1
            have HV := (show Hid (Rg.Vals l VV t) from hv)
            clear hv hd ho
            refine wpOp_step rfl fun K9 hK9 => ?_
            have HKK := (show Hid _ from hK9)
            clear hK9
            go_simp
            exact HKK.out _ _ ⟨by simp [hsz], fun j => if j = 2 then .pointer (some ⟨g, o + k * 8, none⟩) else t j, by simp [e1], HV.out.put 2 _ V2.symm, HW⟩
          · obtain rfl : _ = op := Option.some.inj (show some _ = some op from ho)
            have e2 : t 2 = .pointer (some ⟨g, o + k * 8, none⟩) := (hv 2 (hd { on := 2, ground := .data } (by simp) rfl)).trans V2
            have HV := (show Hid (Rg.Vals l VV t) from hv)
            clear hv hd ho
            refine wpOp_step rfl fun K9 hK9 => ?_
            have HKK := (show Hid _ from hK9)
            clear hK9
            go_simp
            exact HKK.out _ _ ⟨by simp [hsz], fun j => if j = 3 then .pointer (some ⟨g, o + k * 8, none⟩) else t j, by simp [e2], HV.out.put 3 _ V3.symm, HW⟩
          · obtain rfl : _ = op := Option.some.inj (show some _ = some op from ho)
            have e3 : t 3 = .pointer (some ⟨g, o + k * 8, none⟩) := (hv 3 (hd { on := 3, ground := .data } (by simp) rfl)).trans V3
            have yq0 : w'.cell? ⟨g, o + k * 8, none⟩ = some (.int .i64 a) := (HW.out.cell (p := ⟨g, o + k * 8, none⟩) lg).trans q0
            have yq1 : w'.cell? ⟨g, o + k * 8 + 1, none⟩ = some (.int .i64 b) := (HW.out.cell (p := ⟨g, o + k * 8 + 1, none⟩) lg).trans q1
            have yq2 : w'.cell? ⟨g, o + k * 8 + 2, none⟩ = some (.int .i64 c) := (HW.out.cell (p := ⟨g, o + k * 8 + 2, none⟩) lg).trans q2
            have yq3 : w'.cell? ⟨g, o + k * 8 + 3, none⟩ = some (.int .i64 d) := (HW.out.cell (p := ⟨g, o + k * 8 + 3, none⟩) lg).trans q3
            have yq4 : w'.cell? ⟨g, o + k * 8 + 4, none⟩ = some (.string us) := (HW.out.cell (p := ⟨g, o + k * 8 + 4, none⟩) lg).trans q4
            have yq5 : w'.cell? ⟨g, o + k * 8 + 5, none⟩ = some (.slice ua up.length uc) := (HW.out.cell (p := ⟨g, o + k * 8 + 5, none⟩) lg).trans q5
            have yq6 : w'.cell? ⟨g, o + k * 8 + 6, none⟩ = some (.string ds) := (HW.out.cell (p := ⟨g, o + k * 8 + 6, none⟩) lg).trans q6
            have yq7 : w'.cell? ⟨g, o + k * 8 + 7, none⟩ = some (.slice da dn.length dc) := (HW.out.cell (p := ⟨g, o + k * 8 + 7, none⟩) lg).trans q7
            have HV := (show Hid (Rg.Vals l VV t) from hv)
            clear hv hd ho
            refine wpOp_step rfl fun K9 hK9 => ?_
            have HKK := (show Hid _ from hK9)
            clear hK9
            go_simp
            exact HKK.out _ _ ⟨by simp [hsz], fun j => if j = 4 then .agg #[.int .i64 a, .int .i64 b] else t j, by simp [e3], HV.out.put 4 _ V4.symm, HW⟩
          · obtain rfl : _ = op := Option.some.inj (show some _ = some op from ho)
            have e0 : t 0 = .pointer (some ⟨D, 0, none⟩) := (hv 0 (hd { on := 0, ground := .data } (by simp) rfl)).trans V0
            have e4 : t 4 = .agg #[.int .i64 a, .int .i64 b] := (hv 4 (hd { on := 4, ground := .data } (by simp) rfl)).trans V4
            have HV := (show Hid (Rg.Vals l VV t) from hv)
            clear hv hd ho
            refine wpOp_step rfl fun K9 hK9 => ?_
            have HKK := (show Hid _ from hK9)
            clear hK9
            go_simp
            refine (hasPort_any m mv _ rs D a b _ (h.below HW.out) hml).mono ?_
            rintro e w9 ⟨rfl, k9⟩
            rw [hb]
            refine HKK.out _ _ ⟨by simp [hsz], fun j => if j = 5 then .bool true else t j, by simp [e0, e4], HV.out.put 5 _ V5.symm, HW.out.trans (k9.mono HW.out.size)⟩
          · obtain rfl : _ = op := Option.some.inj (show some _ = some op from ho)
            have e5 : t 5 = .bool true := (hv 5 (hd { on := 5, ground := .data } (by simp) rfl)).trans V5
            have HV := (show Hid (Rg.Vals l VV t) from hv)
            clear hv hd ho
            refine wpOp_step rfl fun K9 hK9 => ?_
            have HKK := (show Hid _ from hK9)
            clear hK9
            go_simp
            exact HKK.out _ _ ⟨by simp [hsz], fun j => if j = 6 then .bool true else t j, by simp [e5], HV.out.put 6 _ V6.symm, HW⟩
          · obtain rfl : _ = op := Option.some.inj (show some _ = some op from ho)
            have e6 : t 6 = .bool true := (hv 6 (hd { on := 6, ground := .guard } (by simp) rfl)).trans V6
            have HV := (show Hid (Rg.Vals l VV t) from hv)
            clear hv hd ho
            refine wpOp_step rfl fun K9 hK9 => ?_
            have HKK := (show Hid _ from hK9)
            clear hK9
            go_simp
            exact HKK.out _ _ ⟨by simp [hsz], fun j => if j = 7 then .pointer (some ⟨g, o + k * 8, none⟩) else t j, by simp [e6], HV.out.put 7 _ V7.symm, HW⟩
          · obtain rfl : _ = op := Option.some.inj (show some _ = some op from ho)
            have e7 : t 7 = .pointer (some ⟨g, o + k * 8, none⟩) := (hv 7 (hd { on := 7, ground := .data } (by simp) rfl)).trans V7
            have e6 : t 6 = .bool true := (hv 6 (hd { on := 6, ground := .guard } (by simp) rfl)).trans V6
            have HV := (show Hid (Rg.Vals l VV t) from hv)
            clear hv hd ho
            refine wpOp_step rfl fun K9 hK9 => ?_
            have HKK := (show Hid _ from hK9)
            clear hK9
            go_simp
            exact HKK.out _ _ ⟨by simp [hsz], fun j => if j = 8 then .pointer (some ⟨g, o + k * 8, none⟩) else t j, by simp [e7, e6], HV.out.put 8 _ V8.symm, HW⟩
          · obtain rfl : _ = op := Option.some.inj (show some _ = some op from ho)
            have e8 : t 8 = .pointer (some ⟨g, o + k * 8, none⟩) := (hv 8 (hd { on := 8, ground := .data } (by simp) rfl)).trans V8
            have e6 : t 6 = .bool true := (hv 6 (hd { on := 6, ground := .guard } (by simp) rfl)).trans V6
            have HV := (show Hid (Rg.Vals l VV t) from hv)
            clear hv hd ho
            refine wpOp_step rfl fun K9 hK9 => ?_
            have HKK := (show Hid _ from hK9)
            clear hK9
            go_simp
            exact HKK.out _ _ ⟨by simp [hsz], fun j => if j = 9 then .pointer (some ⟨g, o + k * 8 + 2, none⟩) else t j, by simp [e8, e6], HV.out.put 9 _ V9.symm, HW⟩
          · obtain rfl : _ = op := Option.some.inj (show some _ = some op from ho)
            have e9 : t 9 = .pointer (some ⟨g, o + k * 8 + 2, none⟩) := (hv 9 (hd { on := 9, ground := .data } (by simp) rfl)).trans V9
            have e6 : t 6 = .bool true := (hv 6 (hd { on := 6, ground := .guard } (by simp) rfl)).trans V6
            have yq0 : w'.cell? ⟨g, o + k * 8, none⟩ = some (.int .i64 a) := (HW.out.cell (p := ⟨g, o + k * 8, none⟩) lg).trans q0
            have yq1 : w'.cell? ⟨g, o + k * 8 + 1, none⟩ = some (.int .i64 b) := (HW.out.cell (p := ⟨g, o + k * 8 + 1, none⟩) lg).trans q1
            have yq2 : w'.cell? ⟨g, o + k * 8 + 2, none⟩ = some (.int .i64 c) := (HW.out.cell (p := ⟨g, o + k * 8 + 2, none⟩) lg).trans q2
            have yq3 : w'.cell? ⟨g, o + k * 8 + 3, none⟩ = some (.int .i64 d) := (HW.out.cell (p := ⟨g, o + k * 8 + 3, none⟩) lg).trans q3
            have yq4 : w'.cell? ⟨g, o + k * 8 + 4, none⟩ = some (.string us) := (HW.out.cell (p := ⟨g, o + k * 8 + 4, none⟩) lg).trans q4
            have yq5 : w'.cell? ⟨g, o + k * 8 + 5, none⟩ = some (.slice ua up.length uc) := (HW.out.cell (p := ⟨g, o + k * 8 + 5, none⟩) lg).trans q5
            have yq6 : w'.cell? ⟨g, o + k * 8 + 6, none⟩ = some (.string ds) := (HW.out.cell (p := ⟨g, o + k * 8 + 6, none⟩) lg).trans q6
            have yq7 : w'.cell? ⟨g, o + k * 8 + 7, none⟩ = some (.slice da dn.length dc) := (HW.out.cell (p := ⟨g, o + k * 8 + 7, none⟩) lg).trans q7
            have HV := (show Hid (Rg.Vals l VV t) from hv)
            clear hv hd ho
            refine wpOp_step rfl fun K9 hK9 => ?_
            have HKK := (show Hid _ from hK9)
            clear hK9
            go_simp
            exact HKK.out _ _ ⟨by simp [hsz], fun j => if j = 10 then .agg #[.int .i64 c, .int .i64 d] else t j, by simp [e9, e6], HV.out.put 10 _ V10.symm, HW⟩
          · obtain rfl : _ = op := Option.some.inj (show some _ = some op from ho)
            have e10 : t 10 = .agg #[.int .i64 c, .int .i64 d] := (hv 10 (hd { on := 10, ground := .data } (by simp) rfl)).trans V10
            have e6 : t 6 = .bool true := (hv 6 (hd { on := 6, ground := .guard } (by simp) rfl)).trans V6
            have HV := (show Hid (Rg.Vals l VV t) from hv)
            clear hv hd ho
            refine wpOp_step rfl fun K9 hK9 => ?_
            have HKK := (show Hid _ from hK9)
            clear hK9
            go_simp
            refine (impl2 c d _).mono ?_
            rintro e w9 ⟨rfl, k9⟩
            rw [ho]
            refine HKK.out _ _ ⟨by simp [hsz], fun j => if j = 11 then .bool true else t j, by simp [e10, e6], HV.out.put 11 _ V11.symm, HW.out.trans (k9.mono HW.out.size)⟩
          · obtain rfl : _ = op := Option.some.inj (show some _ = some op from ho)
            have e6 : t 6 = .bool true := (hv 6 (hd { on := 6, ground := .data } (by simp) rfl)).trans V6
            have e11 : t 11 = .bool true := (hv 11 (hd { on := 11, ground := .data } (by simp) rfl)).trans V11
            have HV := (show Hid (Rg.Vals l VV t) from hv)
            clear hv hd ho
            refine wpOp_step rfl fun K9 hK9 => ?_
            have HKK := (show Hid _ from hK9)
            clear hK9
            go_simp
            exact HKK.out _ _ ⟨by simp [hsz], fun j => if j = 12 then .bool true else t j, by simp [e6, e11], HV.out.put 12 _ V12.symm, HW⟩
          · obtain rfl : _ = op := Option.some.inj (show some _ = some op from ho)
            have e12 : t 12 = .bool true := (hv 12 (hd { on := 12, ground := .data } (by simp) rfl)).trans V12
            have HV := (show Hid (Rg.Vals l VV t) from hv)
            clear hv hd ho
            refine wpOp_step rfl fun K9 hK9 => ?_
            have HKK := (show Hid _ from hK9)
            clear hK9
            go_simp
            exact HKK.out _ _ ⟨by simp [hsz], fun j => if j = 13 then .bool true else t j, by simp [e12], HV.out.put 13 _ V13.symm, HW⟩
          · obtain rfl : _ = op := Option.some.inj (show some _ = some op from ho)
            have e13 : t 13 = .bool true := (hv 13 (hd { on := 13, ground := .guard } (by simp) rfl)).trans V13
            have HV := (show Hid (Rg.Vals l VV t) from hv)
            clear hv hd ho
            refine wpOp_step rfl fun K9 hK9 => ?_
            have HKK := (show Hid _ from hK9)
            clear hK9
            go_simp
            exact HKK.out _ _ ⟨by simp [hsz], fun j => if j = 14 then .pointer (some ⟨D, 0, none⟩) else t j, by simp [e13], HV.out.put 14 _ V14.symm, HW⟩
          · obtain rfl : _ = op := Option.some.inj (show some _ = some op from ho)
            have e13 : t 13 = .bool true := (hv 13 (hd { on := 13, ground := .guard } (by simp) rfl)).trans V13
            have HV := (show Hid (Rg.Vals l VV t) from hv)
            clear hv hd ho
            refine wpOp_step rfl fun K9 hK9 => ?_
            have HKK := (show Hid _ from hK9)
            clear hK9
            go_simp
            exact HKK.out _ _ ⟨by simp [hsz], fun j => if j = 15 then .pointer (some ⟨g, o + k * 8, none⟩) else t j, by simp [e13], HV.out.put 15 _ V15.symm, HW⟩
          · obtain rfl : _ = op := Option.some.inj (show some _ = some op from ho)
            have e15 : t 15 = .pointer (some ⟨g, o + k * 8, none⟩) := (hv 15 (hd { on := 15, ground := .data } (by simp) rfl)).trans V15
            have e13 : t 13 = .bool true := (hv 13 (hd { on := 13, ground := .guard } (by simp) rfl)).trans V13
            have HV := (show Hid (Rg.Vals l VV t) from hv)
            clear hv hd ho
            refine wpOp_step rfl fun K9 hK9 => ?_
            have HKK := (show Hid _ from hK9)
            clear hK9
            go_simp
            exact HKK.out _ _ ⟨by simp [hsz], fun j => if j = 16 then .pointer (some ⟨g, o + k * 8, none⟩) else t j, by simp [e15, e13], HV.out.put 16 _ V16.symm, HW⟩
          · obtain rfl : _ = op := Option.some.inj (show some _ = some op from ho)
            have e16 : t 16 = .pointer (some ⟨g, o + k * 8, none⟩) := (hv 16 (hd { on := 16, ground := .data } (by simp) rfl)).trans V16
            have e13 : t 13 = .bool true := (hv 13 (hd { on := 13, ground := .guard } (by simp) rfl)).trans V13
            have HV := (show Hid (Rg.Vals l VV t) from hv)
            clear hv hd ho
            refine wpOp_step rfl fun K9 hK9 => ?_
            have HKK := (show Hid _ from hK9)
            clear hK9
            go_simp
            exact HKK.out _ _ ⟨by simp [hsz], fun j => if j = 17 then .pointer (some ⟨g, o + k * 8, none⟩) else t j, by simp [e16, e13], HV.out.put 17 _ V17.symm, HW⟩
          · obtain rfl : _ = op := Option.some.inj (show some _ = some op from ho)
            have e17 : t 17 = .pointer (some ⟨g, o + k * 8, none⟩) := (hv 17 (hd { on := 17, ground := .data } (by simp) rfl)).trans V17
            have e13 : t 13 = .bool true := (hv 13 (hd { on := 13, ground := .guard } (by simp) rfl)).trans V13
            have yq0 : w'.cell? ⟨g, o + k * 8, none⟩ = some (.int .i64 a) := (HW.out.cell (p := ⟨g, o + k * 8, none⟩) lg).trans q0
            have yq1 : w'.cell? ⟨g, o + k * 8 + 1, none⟩ = some (.int .i64 b) := (HW.out.cell (p := ⟨g, o + k * 8 + 1, none⟩) lg).trans q1
            have yq2 : w'.cell? ⟨g, o + k * 8 + 2, none⟩ = some (.int .i64 c) := (HW.out.cell (p := ⟨g, o + k * 8 + 2, none⟩) lg).trans q2
            have yq3 : w'.cell? ⟨g, o + k * 8 + 3, none⟩ = some (.int .i64 d) := (HW.out.cell (p := ⟨g, o + k * 8 + 3, none⟩) lg).trans q3
            have yq4 : w'.cell? ⟨g, o + k * 8 + 4, none⟩ = some (.string us) := (HW.out.cell (p := ⟨g, o + k * 8 + 4, none⟩) lg).trans q4
            have yq5 : w'.cell? ⟨g, o + k * 8 + 5, none⟩ = some (.slice ua up.length uc) := (HW.out.cell (p := ⟨g, o + k * 8 + 5, none⟩) lg).trans q5
            have yq6 : w'.cell? ⟨g, o + k * 8 + 6, none⟩ = some (.string ds) := (HW.out.cell (p := ⟨g, o + k * 8 + 6, none⟩) lg).trans q6
            have yq7 : w'.cell? ⟨g, o + k * 8 + 7, none⟩ = some (.slice da dn.length dc) := (HW.out.cell (p := ⟨g, o + k * 8 + 7, none⟩) lg).trans q7
            have HV := (show Hid (Rg.Vals l VV t) from hv)
            clear hv hd ho
            refine wpOp_step rfl fun K9 hK9 => ?_
            have HKK := (show Hid _ from hK9)
            clear hK9
            go_simp
            exact HKK.out _ _ ⟨by simp [hsz], fun j => if j = 18 then .agg #[.int .i64 a, .int .i64 b] else t j, by simp [e17, e13], HV.out.put 18 _ V18.symm, HW⟩
          · obtain rfl : _ = op := Option.some.inj (show some _ = some op from ho)
            have e13 : t 13 = .bool true := (hv 13 (hd { on := 13, ground := .guard } (by simp) rfl)).trans V13
            have HV := (show Hid (Rg.Vals l VV t) from hv)
            clear hv hd ho
            refine wpOp_step rfl fun K9 hK9 => ?_
            have HKK := (show Hid _ from hK9)
            clear hK9
            go_simp
            exact HKK.out _ _ ⟨by simp [hsz], fun j => if j = 19 then .pointer (some ⟨g, o + k * 8, none⟩) else t j, by simp [e13], HV.out.put 19 _ V19.symm, HW⟩
          · obtain rfl : _ = op := Option.some.inj (show some _ = some op from ho)
            have e19 : t 19 = .pointer (some ⟨g, o + k * 8, none⟩) := (hv 19 (hd { on := 19, ground := .data } (by simp) rfl)).trans V19
            have e13 : t 13 = .bool true := (hv 13 (hd { on := 13, ground := .guard } (by simp) rfl)).trans V13
            have HV := (show Hid (Rg.Vals l VV t) from hv)
            clear hv hd ho
            refine wpOp_step rfl fun K9 hK9 => ?_
            have HKK := (show Hid _ from hK9)
            clear hK9
            go_simp
            exact HKK.out _ _ ⟨by simp [hsz], fun j => if j = 20 then .pointer (some ⟨g, o + k * 8, none⟩) else t j, by simp [e19, e13], HV.out.put 20 _ V20.symm, HW⟩
          · obtain rfl : _ = op := Option.some.inj (show some _ = some op from ho)
            have e20 : t 20 = .pointer (some ⟨g, o + k * 8, none⟩) := (hv 20 (hd { on := 20, ground := .data } (by simp) rfl)).trans V20
            have e13 : t 13 = .bool true := (hv 13 (hd { on := 13, ground := .guard } (by simp) rfl)).trans V13
            have HV := (show Hid (Rg.Vals l VV t) from hv)
            clear hv hd ho
            refine wpOp_step rfl fun K9 hK9 => ?_
            have HKK := (show Hid _ from hK9)
            clear hK9
            go_simp
            exact HKK.out _ _ ⟨by simp [hsz], fun j => if j = 21 then .pointer (some ⟨g, o + k * 8 + 2, none⟩) else t j, by simp [e20, e13], HV.out.put 21 _ V21.symm, HW⟩
          · obtain rfl : _ = op := Option.some.inj (show some _ = some op from ho)
            have e21 : t 21 = .pointer (some ⟨g, o + k * 8 + 2, none⟩) := (hv 21 (hd { on := 21, ground := .data } (by simp) rfl)).trans V21
            have e13 : t 13 = .bool true := (hv 13 (hd { on := 13, ground := .guard } (by simp) rfl)).trans V13
            have yq0 : w'.cell? ⟨g, o + k * 8, none⟩ = some (.int .i64 a) := (HW.out.cell (p := ⟨g, o + k * 8, none⟩) lg).trans q0
            have yq1 : w'.cell? ⟨g, o + k * 8 + 1, none⟩ = some (.int .i64 b) := (HW.out.cell (p := ⟨g, o + k * 8 + 1, none⟩) lg).trans q1
            have yq2 : w'.cell? ⟨g, o + k * 8 + 2, none⟩ = some (.int .i64 c) := (HW.out.cell (p := ⟨g, o + k * 8 + 2, none⟩) lg).trans q2
            have yq3 : w'.cell? ⟨g, o + k * 8 + 3, none⟩ = some (.int .i64 d) := (HW.out.cell (p := ⟨g, o + k * 8 + 3, none⟩) lg).trans q3
            have yq4 : w'.cell? ⟨g, o + k * 8 + 4, none⟩ = some (.string us) := (HW.out.cell (p := ⟨g, o + k * 8 + 4, none⟩) lg).trans q4
            have yq5 : w'.cell? ⟨g, o + k * 8 + 5, none⟩ = some (.slice ua up.length uc) := (HW.out.cell (p := ⟨g, o + k * 8 + 5, none⟩) lg).trans q5
            have yq6 : w'.cell? ⟨g, o + k * 8 + 6, none⟩ = some (.string ds) := (HW.out.cell (p := ⟨g, o + k * 8 + 6, none⟩) lg).trans q6
            have yq7 : w'.cell? ⟨g, o + k * 8 + 7, none⟩ = some (.slice da dn.length dc) := (HW.out.cell (p := ⟨g, o + k * 8 + 7, none⟩) lg).trans q7
            have HV := (show Hid (Rg.Vals l VV t) from hv)
            clear hv hd ho
            refine wpOp_step rfl fun K9 hK9 => ?_
            have HKK := (show Hid _ from hK9)
            clear hK9
            go_simp
            exact HKK.out _ _ ⟨by simp [hsz], fun j => if j = 22 then .agg #[.int .i64 c, .int .i64 d] else t j, by simp [e21, e13], HV.out.put 22 _ V22.symm, HW⟩
          · obtain rfl : _ = op := Option.some.inj (show some _ = some op from ho)
            have e14 : t 14 = .pointer (some ⟨D, 0, none⟩) := (hv 14 (hd { on := 14, ground := .data } (by simp) rfl)).trans V14
            have e18 : t 18 = .agg #[.int .i64 a, .int .i64 b] := (hv 18 (hd { on := 18, ground := .data } (by simp) rfl)).trans V18
            have e22 : t 22 = .agg #[.int .i64 c, .int .i64 d] := (hv 22 (hd { on := 22, ground := .data } (by simp) rfl)).trans V22
            have e13 : t 13 = .bool true := (hv 13 (hd { on := 13, ground := .guard } (by simp) rfl)).trans V13
            have HV := (show Hid (Rg.Vals l VV t) from hv)
            clear hv hd ho
            refine wpOp_step rfl fun K9 hK9 => ?_
            have HKK := (show Hid _ from hK9)
            clear hK9
            go_simp
            refine (find_any m mv _ fc rs D a b c d _ (h.below HW.out) hn).mono ?_
            rintro e w9 ⟨rfl, k9⟩
            rw [hQ2.out]
            refine HKK.out _ _ ⟨by simp [hsz], fun j => if j = 23 then .pointer (some ⟨g, o + J * 8, none⟩) else t j, by simp [e14, e18, e22, e13], HV.out.put 23 _ V23.symm, HW.out.trans (k9.mono HW.out.size)⟩
          · obtain rfl : _ = op := Option.some.inj (show some _ = some op from ho)
            have e13 : t 13 = .bool true := (hv 13 (hd { on := 13, ground := .guard } (by simp) rfl)).trans V13
            have HV := (show Hid (Rg.Vals l VV t) from hv)
            clear hv hd ho
            refine wpOp_step rfl fun K9 hK9 => ?_
            have HKK := (show Hid _ from hK9)
            clear hK9
            go_simp
            exact HKK.out _ _ ⟨by simp [hsz], fun j => if j = 24 then .pointer (some ⟨g, o + k * 8, none⟩) else t j, by simp [e13], HV.out.put 24 _ V24.symm, HW⟩
          · obtain rfl : _ = op := Option.some.inj (show some _ = some op from ho)
            have e23 : t 23 = .pointer (some ⟨g, o + J * 8, none⟩) := (hv 23 (hd { on := 23, ground := .data } (by simp) rfl)).trans V23
            have e24 : t 24 = .pointer (some ⟨g, o + k * 8, none⟩) := (hv 24 (hd { on := 24, ground := .data } (by simp) rfl)).trans V24
            have e13 : t 13 = .bool true := (hv 13 (hd { on := 13, ground := .guard } (by simp) rfl)).trans V13
            have heq3 := HNE.out J w' hoj2 HW.out
            have HV := (show Hid (Rg.Vals l VV t) from hv)
            clear hv hd ho
            refine wpOp_step rfl fun K9 hK9 => ?_
            have HKK := (show Hid _ from hK9)
            clear hK9
            go_simp
            exact HKK.out _ _ ⟨by simp [hsz], fun j => if j = 25 then .bool false else t j, by simp [e23, e24, e13], HV.out.put 25 _ V25.symm, HW⟩
          · obtain rfl : _ = op := Option.some.inj (show some _ = some op from ho)
            have e13 : t 13 = .bool true := (hv 13 (hd { on := 13, ground := .data } (by simp) rfl)).trans V13
            have e25 : t 25 = .bool false := (hv 25 (hd { on := 25, ground := .data } (by simp) rfl)).trans V25
            have HV := (show Hid (Rg.Vals l VV t) from hv)
            clear hv hd ho
            refine wpOp_step rfl fun K9 hK9 => ?_
            have HKK := (show Hid _ from hK9)
            clear hK9
            go_simp
            exact HKK.out _ _ ⟨by simp [hsz], fun j => if j = 26 then .bool false else t j, by simp [e13, e25], HV.out.put 26 _ V26.symm, HW⟩
          · obtain rfl : _ = op := Option.some.inj (show some _ = some op from ho)
            have e26 : t 26 = .bool false := (hv 26 (hd { on := 26, ground := .data } (by simp) rfl)).trans V26
            have HV := (show Hid (Rg.Vals l VV t) from hv)
            clear hv hd ho
            refine wpOp_step rfl fun K9 hK9 => ?_
            have HKK := (show Hid _ from hK9)
            clear hK9
            go_simp
            exact HKK.out _ _ ⟨by simp [hsz], fun j => if j = 27 then .bool false else t j, by simp [e26], HV.out.put 27 _ V27.symm, HW⟩
        case fin =>
          rintro l a' w' ⟨hsz, t, rfl, hv, HW⟩ hall
          have e27 : t 27 = .bool false := (hv 27 (hall 27 (by simp))).trans V27
          rw [e27]
          have hbad := (show Hid (flB m rs k _ = false) from by show _ = false; rw [HFL.out, hb, ho, decide_eq_false hj3.out]; first | rfl | simp)
          clear hv hall e27 q0 q1 q2 q3 q4 q5 q6 q7
          go_wp2
          go_ret
          exact ⟨by rw [hbad.out]; rfl, HW.out⟩
end Go.Proofs.YtfmjhbdbgcgoiaaGreatDoor.DrI

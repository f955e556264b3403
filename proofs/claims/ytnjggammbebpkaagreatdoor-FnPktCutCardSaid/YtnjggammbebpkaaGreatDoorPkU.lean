/- Packets: the text of a packet, by the model. -/
import Derived.Test.YtnjggammbebpkaaGreatDoorPkT
namespace Go.Proofs.YtnjggammbebpkaaGreatDoor.Pk
open Go.RowKit Go.Shelf Go.Proofs.YtnjggammbebpkaaGreatDoor.Kit
open Go.Proofs.YtnjggammbebpkaaGreatDoor.EndW (sideZ)
open Go.Proofs.YtnjggammbebpkaaGreatDoor.Text (txt implText specText)
open Go.Proofs.YtnjggammbebpkaaGreatDoor.Itoa (decS decS_size dec_any)
open Go.Proofs.YtnjggammbebpkaaGreatDoor.Tx (okB)
set_option linter.unusedVariables false
set_option linter.unusedSimpArgs false

theorem app_list (s t : ByteArray) : (s ++ t).data.toList = s.data.toList ++ t.data.toList := by simp [ByteArray.data_append]
theorem mk_of (s : ByteArray) (l : List UInt8) (h : s.data.toList = l) : s = ⟨l.toArray⟩ := by
  subst h; simp
theorem head_ack (a b c d n : Int) : (⟨#[97, 99, 107, 32]⟩ : ByteArray) ++ (txt a b ++ ⟨#[32]⟩ ++ txt c d ++ ⟨#[32]⟩ ++ decS n) = ⟨(pktL 2 a b c d n ⟨#[]⟩).toArray⟩ := by
  apply mk_of
  unfold pktL
  rw [if_neg (by decide)]
  simp only [app_list]
  simp [wordS]
theorem head_data (a b c d n : Int) (t : ByteArray) : (⟨#[100, 97, 116, 97, 32]⟩ : ByteArray) ++ (txt a b ++ ⟨#[32]⟩ ++ txt c d ++ ⟨#[32]⟩ ++ decS n) ++ ⟨#[32]⟩ ++ t = ⟨(pktL 1 a b c d n t).toArray⟩ := by
  apply mk_of
  unfold pktL
  rw [if_pos rfl]
  simp only [app_list]
  simp [wordS]

set_option maxRecDepth 8000 in
set_option maxHeartbeats 16000000 in
theorem spktText_ok (k a b c d n : Int) (t' : ByteArray) (ht : t'.size ≤ maxLen) (w : World) (hB : pktB k a b c d n t' = true) :
    Calls Tryz.prog 8 #[pktV k a b c d n t'] w fun e w' => e = .returned (.string (pktS k a b c d n t')) ∧ Below w.heap.size w w' := by
  have hS : pktS k a b c d n t' = ⟨(pktL k a b c d n t').toArray⟩ := by unfold pktS; rw [if_pos hB]
  rw [hS]; clear hS
  have bel0 : Below w.heap.size w (w.alloc (.cells #[.int .i64 k, .int .i64 a, .int .i64 b, .int .i64 c, .int .i64 d, .int .i64 n, .string t'] 26)) := (Below.refl _ _).alloc (Nat.le_refl _) _
  obtain ⟨_, _, h0, h9, hkind⟩ := pkt_parts hB
  go_enter Tryz.func8, Tryz.ntmps8
  go_wp2_with fail
  refine (spktOk_is k a b c d n t' ht true hB _).mono ?_
  rintro e w2 ⟨rfl, k2⟩
  have z2 := k2.size
  simp at z2
  have hl : w.heap.size < w2.heap.size := by omega
  have C0 : w2.cell? ⟨w.heap.size, 0, none⟩ = some (.int .i64 k) := by rw [keepc k2 w.heap.size (by simp)]; simp
  have C1 : w2.cell? ⟨w.heap.size, 1, none⟩ = some (.int .i64 a) := by rw [keepc k2 w.heap.size (by simp)]; simp
  have C2 : w2.cell? ⟨w.heap.size, 2, none⟩ = some (.int .i64 b) := by rw [keepc k2 w.heap.size (by simp)]; simp
  have C3 : w2.cell? ⟨w.heap.size, 3, none⟩ = some (.int .i64 c) := by rw [keepc k2 w.heap.size (by simp)]; simp
  have C4 : w2.cell? ⟨w.heap.size, 4, none⟩ = some (.int .i64 d) := by rw [keepc k2 w.heap.size (by simp)]; simp
  have C5 : w2.cell? ⟨w.heap.size, 5, none⟩ = some (.int .i64 n) := by rw [keepc k2 w.heap.size (by simp)]; simp
  have C6 : w2.cell? ⟨w.heap.size, 6, none⟩ = some (.string t') := by rw [keepc k2 w.heap.size (by simp)]; simp
  have bel2 := bel0.trans (k2.mono (by simp))
  have s32 : (⟨#[32]⟩ : ByteArray).size = 1 := rfl
  have s1 := txt_size4 a b
  have s2 := txt_size4 c d
  have s3 := decS_size n
  have s4 : (txt a b ++ ⟨#[32]⟩).size ≤ 5 := by rw [ByteArray.size_append]; omega
  have s5 : (txt a b ++ ⟨#[32]⟩ ++ txt c d).size ≤ 9 := by rw [ByteArray.size_append]; omega
  have s6 : (txt a b ++ ⟨#[32]⟩ ++ txt c d ++ ⟨#[32]⟩).size ≤ 10 := by rw [ByteArray.size_append]; omega
  have s7 : (txt a b ++ ⟨#[32]⟩ ++ txt c d ++ ⟨#[32]⟩ ++ decS n).size ≤ 12 := by rw [ByteArray.size_append]; omega
  clear k2 bel0 hB
  go_upto_region 3 with fail
  have hmix : Tryz.prog.follows .mixedOrders = true := by kernel_rfl
  obtain ⟨VV, hVV⟩ : ∃ VV : Nat → Value, VV = fun j => [(.pointer (some ⟨w.heap.size, 1, none⟩) : Value), .agg #[.int .i64 a, .int .i64 b], .string (txt a b), .string (txt a b ++ ⟨#[32]⟩), .pointer (some ⟨w.heap.size, 3, none⟩), .agg #[.int .i64 c, .int .i64 d], .string (txt c d), .string (txt a b ++ ⟨#[32]⟩ ++ txt c d), .string (txt a b ++ ⟨#[32]⟩ ++ txt c d ++ ⟨#[32]⟩), .pointer (some ⟨w.heap.size, 5, none⟩), .int .i64 n, .string (decS n), .string (txt a b ++ ⟨#[32]⟩ ++ txt c d ++ ⟨#[32]⟩ ++ decS n), .string (txt a b ++ ⟨#[32]⟩ ++ txt c d ++ ⟨#[32]⟩ ++ decS n)].getD j undef := ⟨_, rfl⟩
  have V0 : VV 0 = .pointer (some ⟨w.heap.size, 1, none⟩) := by rw [hVV]; rfl
  have V1 : VV 1 = .agg #[.int .i64 a, .int .i64 b] := by rw [hVV]; rfl
  have V2 : VV 2 = .string (txt a b) := by rw [hVV]; rfl
  have V3 : VV 3 = .string (txt a b ++ ⟨#[32]⟩) := by rw [hVV]; rfl
  have V4 : VV 4 = .pointer (some ⟨w.heap.size, 3, none⟩) := by rw [hVV]; rfl
  have V5 : VV 5 = .agg #[.int .i64 c, .int .i64 d] := by rw [hVV]; rfl
  have V6 : VV 6 = .string (txt c d) := by rw [hVV]; rfl
  have V7 : VV 7 = .string (txt a b ++ ⟨#[32]⟩ ++ txt c d) := by rw [hVV]; rfl
  have V8 : VV 8 = .string (txt a b ++ ⟨#[32]⟩ ++ txt c d ++ ⟨#[32]⟩) := by rw [hVV]; rfl
  have V9 : VV 9 = .pointer (some ⟨w.heap.size, 5, none⟩) := by rw [hVV]; rfl
  have V10 : VV 10 = .int .i64 n := by rw [hVV]; rfl
  have V11 : VV 11 = .string (decS n) := by rw [hVV]; rfl
  have V12 : VV 12 = .string (txt a b ++ ⟨#[32]⟩ ++ txt c d ++ ⟨#[32]⟩ ++ decS n) := by rw [hVV]; rfl
  have V13 : VV 13 = .string (txt a b ++ ⟨#[32]⟩ ++ txt c d ++ ⟨#[32]⟩ ++ decS n) := by rw [hVV]; rfl
  clear hVV
  refine wp_region_any hmix ?_
  refine Ri.any_inv (I := fun l a' w' => l.size = 14 ∧ ∃ t : Nat → Value, a' = { tmps := #[pktV k a b c d n t', (.pointer (some ⟨w.heap.size, 0, none⟩) : Value), .string ⟨#[]⟩, t 13, pktV k a b c d n t', .bool true, .bool false, t 0, t 1, t 2, t 3, t 4, t 5, t 6, t 7, t 8, t 9, t 10, t 11, t 12, undef, undef, undef, undef, undef, undef, undef, undef, undef, undef, undef], defers := [] } ∧ Rg.Vals l VV t ∧ Hid (Below w2.heap.size w2 w')) ?sz ?low ?step ?fin _ _ _ _ ?start (Ri.closed_none _ _ _) (Rg.left_all _)
  case sz => exact fun l a' w' h => h.1
  case start => exact ⟨by simp, fun j => ([undef, undef, undef, undef, undef, undef, undef, undef, undef, undef, undef, undef, undef, undef] : List Value).getD j undef, rfl, Rg.vals_none _ _ _, (Below.refl _ _).drew⟩
  case low => exact Ri.low_of (by kernel_rfl)
  case step =>
    rintro l a' w' i ⟨hsz, t, rfl, hv, HW⟩ hcl hi
    obtain ⟨h0, op, ho, hd⟩ := mem_ready.1 hi
    have hin : i < 14 := (Array.getElem?_eq_some_iff.1 ho).1
    clear h0 hi hcl
    have hc : i = 0 ∨ i = 1 ∨ i = 2 ∨ i = 3 ∨ i = 4 ∨ i = 5 ∨ i = 6 ∨ i = 7 ∨ i = 8 ∨ i = 9 ∨ i = 10 ∨ i = 11 ∨ i = 12 ∨ i = 13 := by omega
    rcases hc with rfl | rfl | rfl | rfl | rfl | rfl | rfl | rfl | rfl | rfl | rfl | rfl | rfl | rfl
    · obtain rfl : _ = op := Option.some.inj (show some _ = some op from ho)
      have HV := (show Hid (Rg.Vals l VV t) from hv)
      clear hv hd ho
      refine wpOp_step rfl fun K9 hK9 => ?_
      have HKK := (show Hid _ from hK9)
      clear hK9
      go_simp
      exact HKK.out _ _ ⟨by simp [hsz], fun j => if j = 0 then .pointer (some ⟨w.heap.size, 1, none⟩) else t j, by simp, HV.out.put 0 _ V0.symm, HW⟩
    · obtain rfl : _ = op := Option.some.inj (show some _ = some op from ho)
      have e0 : t 0 = .pointer (some ⟨w.heap.size, 1, none⟩) := (hv 0 (hd { on := 0, ground := .data } (by simp) rfl)).trans V0
      have yC0 : w'.cell? ⟨w.heap.size, 0, none⟩ = some (.int .i64 k) := (HW.out.cell (p := ⟨w.heap.size, 0, none⟩) hl).trans C0
      have yC1 : w'.cell? ⟨w.heap.size, 1, none⟩ = some (.int .i64 a) := (HW.out.cell (p := ⟨w.heap.size, 1, none⟩) hl).trans C1
      have yC2 : w'.cell? ⟨w.heap.size, 2, none⟩ = some (.int .i64 b) := (HW.out.cell (p := ⟨w.heap.size, 2, none⟩) hl).trans C2
      have yC3 : w'.cell? ⟨w.heap.size, 3, none⟩ = some (.int .i64 c) := (HW.out.cell (p := ⟨w.heap.size, 3, none⟩) hl).trans C3
      have yC4 : w'.cell? ⟨w.heap.size, 4, none⟩ = some (.int .i64 d) := (HW.out.cell (p := ⟨w.heap.size, 4, none⟩) hl).trans C4
      have yC5 : w'.cell? ⟨w.heap.size, 5, none⟩ = some (.int .i64 n) := (HW.out.cell (p := ⟨w.heap.size, 5, none⟩) hl).trans C5
      have HV := (show Hid (Rg.Vals l VV t) from hv)
      clear hv hd ho
      refine wpOp_step rfl fun K9 hK9 => ?_
      have HKK := (show Hid _ from hK9)
      clear hK9
      go_simp
      exact HKK.out _ _ ⟨by simp [hsz], fun j => if j = 1 then .agg #[.int .i64 a, .int .i64 b] else t j, by simp [e0], HV.out.put 1 _ V1.symm, HW⟩
    · obtain rfl : _ = op := Option.some.inj (show some _ = some op from ho)
      have e1 : t 1 = .agg #[.int .i64 a, .int .i64 b] := (hv 1 (hd { on := 1, ground := .data } (by simp) rfl)).trans V1
      have HV := (show Hid (Rg.Vals l VV t) from hv)
      clear hv hd ho
      refine wpOp_step rfl fun K9 hK9 => ?_
      have HKK := (show Hid _ from hK9)
      clear hK9
      go_simp
      refine (specText _ _ _).mono ?_
      rintro e w9 ⟨rfl, k9⟩
      refine HKK.out _ _ ⟨by simp [hsz], fun j => if j = 2 then .string (txt a b) else t j, by simp [e1], HV.out.put 2 _ V2.symm, HW.out.trans (k9.mono HW.out.size)⟩
    · obtain rfl : _ = op := Option.some.inj (show some _ = some op from ho)
      have e2 : t 2 = .string (txt a b) := (hv 2 (hd { on := 2, ground := .data } (by simp) rfl)).trans V2
      have HV := (show Hid (Rg.Vals l VV t) from hv)
      clear hv hd ho
      refine wpOp_step rfl fun K9 hK9 => ?_
      have HKK := (show Hid _ from hK9)
      clear hK9
      go_simp
      go_wp2_with fail
      exact HKK.out _ _ ⟨by simp [hsz], fun j => if j = 3 then .string (txt a b ++ ⟨#[32]⟩) else t j, by simp [e2], HV.out.put 3 _ V3.symm, HW⟩
    · obtain rfl : _ = op := Option.some.inj (show some _ = some op from ho)
      have HV := (show Hid (Rg.Vals l VV t) from hv)
      clear hv hd ho
      refine wpOp_step rfl fun K9 hK9 => ?_
      have HKK := (show Hid _ from hK9)
      clear hK9
      go_simp
      exact HKK.out _ _ ⟨by simp [hsz], fun j => if j = 4 then .pointer (some ⟨w.heap.size, 3, none⟩) else t j, by simp, HV.out.put 4 _ V4.symm, HW⟩
    · obtain rfl : _ = op := Option.some.inj (show some _ = some op from ho)
      have e4 : t 4 = .pointer (some ⟨w.heap.size, 3, none⟩) := (hv 4 (hd { on := 4, ground := .data } (by simp) rfl)).trans V4
      have yC0 : w'.cell? ⟨w.heap.size, 0, none⟩ = some (.int .i64 k) := (HW.out.cell (p := ⟨w.heap.size, 0, none⟩) hl).trans C0
      have yC1 : w'.cell? ⟨w.heap.size, 1, none⟩ = some (.int .i64 a) := (HW.out.cell (p := ⟨w.heap.size, 1, none⟩) hl).trans C1
      have yC2 : w'.cell? ⟨w.heap.size, 2, none⟩ = some (.int .i64 b) := (HW.out.cell (p := ⟨w.heap.size, 2, none⟩) hl).trans C2
      have yC3 : w'.cell? ⟨w.heap.size, 3, none⟩ = some (.int .i64 c) := (HW.out.cell (p := ⟨w.heap.size, 3, none⟩) hl).trans C3
      have yC4 : w'.cell? ⟨w.heap.size, 4, none⟩ = some (.int .i64 d) := (HW.out.cell (p := ⟨w.heap.size, 4, none⟩) hl).trans C4
      have yC5 : w'.cell? ⟨w.heap.size, 5, none⟩ = some (.int .i64 n) := (HW.out.cell (p := ⟨w.heap.size, 5, none⟩) hl).trans C5
      have HV := (show Hid (Rg.Vals l VV t) from hv)
      clear hv hd ho
      refine wpOp_step rfl fun K9 hK9 => ?_
      have HKK := (show Hid _ from hK9)
      clear hK9
      go_simp
      exact HKK.out _ _ ⟨by simp [hsz], fun j => if j = 5 then .agg #[.int .i64 c, .int .i64 d] else t j, by simp [e4], HV.out.put 5 _ V5.symm, HW⟩
    · obtain rfl : _ = op := Option.some.inj (show some _ = some op from ho)
      have e5 : t 5 = .agg #[.int .i64 c, .int .i64 d] := (hv 5 (hd { on := 5, ground := .data } (by simp) rfl)).trans V5
      have HV := (show Hid (Rg.Vals l VV t) from hv)
      clear hv hd ho
      refine wpOp_step rfl fun K9 hK9 => ?_
      have HKK := (show Hid _ from hK9)
      clear hK9
      go_simp
      refine (specText _ _ _).mono ?_
      rintro e w9 ⟨rfl, k9⟩
      refine HKK.out _ _ ⟨by simp [hsz], fun j => if j = 6 then .string (txt c d) else t j, by simp [e5], HV.out.put 6 _ V6.symm, HW.out.trans (k9.mono HW.out.size)⟩
    · obtain rfl : _ = op := Option.some.inj (show some _ = some op from ho)
      have e3 : t 3 = .string (txt a b ++ ⟨#[32]⟩) := (hv 3 (hd { on := 3, ground := .data } (by simp) rfl)).trans V3
      have e6 : t 6 = .string (txt c d) := (hv 6 (hd { on := 6, ground := .data } (by simp) rfl)).trans V6
      have HV := (show Hid (Rg.Vals l VV t) from hv)
      clear hv hd ho
      refine wpOp_step rfl fun K9 hK9 => ?_
      have HKK := (show Hid _ from hK9)
      clear hK9
      go_simp
      go_wp2_with fail
      exact HKK.out _ _ ⟨by simp [hsz], fun j => if j = 7 then .string (txt a b ++ ⟨#[32]⟩ ++ txt c d) else t j, by simp [e3, e6], HV.out.put 7 _ V7.symm, HW⟩
    · obtain rfl : _ = op := Option.some.inj (show some _ = some op from ho)
      have e7 : t 7 = .string (txt a b ++ ⟨#[32]⟩ ++ txt c d) := (hv 7 (hd { on := 7, ground := .data } (by simp) rfl)).trans V7
      have HV := (show Hid (Rg.Vals l VV t) from hv)
      clear hv hd ho
      refine wpOp_step rfl fun K9 hK9 => ?_
      have HKK := (show Hid _ from hK9)
      clear hK9
      go_simp
      go_wp2_with fail
      exact HKK.out _ _ ⟨by simp [hsz], fun j => if j = 8 then .string (txt a b ++ ⟨#[32]⟩ ++ txt c d ++ ⟨#[32]⟩) else t j, by simp [e7], HV.out.put 8 _ V8.symm, HW⟩
    · obtain rfl : _ = op := Option.some.inj (show some _ = some op from ho)
      have HV := (show Hid (Rg.Vals l VV t) from hv)
      clear hv hd ho
      refine wpOp_step rfl fun K9 hK9 => ?_
      have HKK := (show Hid _ from hK9)
      clear hK9
      go_simp
      exact HKK.out _ _ ⟨by simp [hsz], fun j => if j = 9 then .pointer (some ⟨w.heap.size, 5, none⟩) else t j, by simp, HV.out.put 9 _ V9.symm, HW⟩
    · obtain rfl : _ = op := Option.some.inj (show some _ = some op from ho)
      have e9 : t 9 = .pointer (some ⟨w.heap.size, 5, none⟩) := (hv 9 (hd { on := 9, ground := .data } (by simp) rfl)).trans V9
      have yC0 : w'.cell? ⟨w.heap.size, 0, none⟩ = some (.int .i64 k) := (HW.out.cell (p := ⟨w.heap.size, 0, none⟩) hl).trans C0
      have yC1 : w'.cell? ⟨w.heap.size, 1, none⟩ = some (.int .i64 a) := (HW.out.cell (p := ⟨w.heap.size, 1, none⟩) hl).trans C1
      have yC2 : w'.cell? ⟨w.heap.size, 2, none⟩ = some (.int .i64 b) := (HW.out.cell (p := ⟨w.heap.size, 2, none⟩) hl).trans C2
      have yC3 : w'.cell? ⟨w.heap.size, 3, none⟩ = some (.int .i64 c) := (HW.out.cell (p := ⟨w.heap.size, 3, none⟩) hl).trans C3
      have yC4 : w'.cell? ⟨w.heap.size, 4, none⟩ = some (.int .i64 d) := (HW.out.cell (p := ⟨w.heap.size, 4, none⟩) hl).trans C4
      have yC5 : w'.cell? ⟨w.heap.size, 5, none⟩ = some (.int .i64 n) := (HW.out.cell (p := ⟨w.heap.size, 5, none⟩) hl).trans C5
      have HV := (show Hid (Rg.Vals l VV t) from hv)
      clear hv hd ho
      refine wpOp_step rfl fun K9 hK9 => ?_
      have HKK := (show Hid _ from hK9)
      clear hK9
      go_simp
      exact HKK.out _ _ ⟨by simp [hsz], fun j => if j = 10 then .int .i64 n else t j, by simp [e9], HV.out.put 10 _ V10.symm, HW⟩
    · obtain rfl : _ = op := Option.some.inj (show some _ = some op from ho)
      have e10 : t 10 = .int .i64 n := (hv 10 (hd { on := 10, ground := .data } (by simp) rfl)).trans V10
      have HV := (show Hid (Rg.Vals l VV t) from hv)
      clear hv hd ho
      refine wpOp_step rfl fun K9 hK9 => ?_
      have HKK := (show Hid _ from hK9)
      clear hK9
      go_simp
      refine (dec_any _ _ h0 (by omega)).mono ?_
      rintro e w9 ⟨rfl, k9⟩
      refine HKK.out _ _ ⟨by simp [hsz], fun j => if j = 11 then .string (decS n) else t j, by simp [e10], HV.out.put 11 _ V11.symm, HW.out.trans (k9.mono HW.out.size)⟩
    · obtain rfl : _ = op := Option.some.inj (show some _ = some op from ho)
      have e8 : t 8 = .string (txt a b ++ ⟨#[32]⟩ ++ txt c d ++ ⟨#[32]⟩) := (hv 8 (hd { on := 8, ground := .data } (by simp) rfl)).trans V8
      have e11 : t 11 = .string (decS n) := (hv 11 (hd { on := 11, ground := .data } (by simp) rfl)).trans V11
      have HV := (show Hid (Rg.Vals l VV t) from hv)
      clear hv hd ho
      refine wpOp_step rfl fun K9 hK9 => ?_
      have HKK := (show Hid _ from hK9)
      clear hK9
      go_simp
      go_wp2_with fail
      exact HKK.out _ _ ⟨by simp [hsz], fun j => if j = 12 then .string (txt a b ++ ⟨#[32]⟩ ++ txt c d ++ ⟨#[32]⟩ ++ decS n) else t j, by simp [e8, e11], HV.out.put 12 _ V12.symm, HW⟩
    · obtain rfl : _ = op := Option.some.inj (show some _ = some op from ho)
      have e12 : t 12 = .string (txt a b ++ ⟨#[32]⟩ ++ txt c d ++ ⟨#[32]⟩ ++ decS n) := (hv 12 (hd { on := 12, ground := .data } (by simp) rfl)).trans V12
      have HV := (show Hid (Rg.Vals l VV t) from hv)
      clear hv hd ho
      refine wpOp_step rfl fun K9 hK9 => ?_
      have HKK := (show Hid _ from hK9)
      clear hK9
      go_simp
      exact HKK.out _ _ ⟨by simp [hsz], fun j => if j = 13 then .string (txt a b ++ ⟨#[32]⟩ ++ txt c d ++ ⟨#[32]⟩ ++ decS n) else t j, by simp [e12], HV.out.put 13 _ V13.symm, HW⟩
  case fin =>
    rintro l a' w' ⟨hsz, t, rfl, hv, HW⟩ hall
    have e13 : t 13 = .string (txt a b ++ ⟨#[32]⟩ ++ txt c d ++ ⟨#[32]⟩ ++ decS n) := (hv 13 (hall 13 (by simp))).trans V13
    rw [e13]
    have C0' := (HW.out.cell (p := ⟨w.heap.size, 0, none⟩) hl).trans C0
    have C6' := (HW.out.cell (p := ⟨w.heap.size, 6, none⟩) hl).trans C6
    have bel3 := bel2.trans (HW.out.mono (by omega))
    clear hall hv HW C0 C1 C2 C3 C4 C5 C6 bel2
    rcases hkind with ⟨rfl, he, ho⟩ | ⟨rfl, rfl⟩
    · have HE := (show Hid ((⟨#[100, 97, 116, 97, 32]⟩ : ByteArray) ++ (txt a b ++ ⟨#[32]⟩ ++ txt c d ++ ⟨#[32]⟩ ++ decS n) ++ ⟨#[32]⟩ ++ t' = ⟨(pktL 1 a b c d n t').toArray⟩) from head_data a b c d n t')
      have h40 := ok_forty ho
      generalize txt a b ++ ⟨#[32]⟩ ++ txt c d ++ ⟨#[32]⟩ ++ decS n = H at *
      have q1 : (⟨#[100, 97, 116, 97, 32]⟩ : ByteArray).size = 5 := rfl
      have q2 : ((⟨#[100, 97, 116, 97, 32]⟩ : ByteArray) ++ H).size ≤ 17 := by rw [ByteArray.size_append]; omega
      have q3 : ((⟨#[100, 97, 116, 97, 32]⟩ : ByteArray) ++ H ++ ⟨#[32]⟩).size ≤ 18 := by rw [ByteArray.size_append]; omega
      clear V0 V1 V2 V3 V4 V5 V6 V7 V8 V9 V10 V11 V12 V13
      go_wp2
      go_ret
      exact ⟨congrArg (fun s => Ending.returned (Value.string s)) HE.out, bel3⟩
    · have HE := (show Hid ((⟨#[97, 99, 107, 32]⟩ : ByteArray) ++ (txt a b ++ ⟨#[32]⟩ ++ txt c d ++ ⟨#[32]⟩ ++ decS n) = ⟨(pktL 2 a b c d n ⟨#[]⟩).toArray⟩) from head_ack a b c d n)
      generalize txt a b ++ ⟨#[32]⟩ ++ txt c d ++ ⟨#[32]⟩ ++ decS n = H at *
      have q1 : (⟨#[97, 99, 107, 32]⟩ : ByteArray).size = 4 := rfl
      clear V0 V1 V2 V3 V4 V5 V6 V7 V8 V9 V10 V11 V12 V13
      go_wp2
      go_ret
      exact ⟨congrArg (fun s => Ending.returned (Value.string s)) HE.out, bel3⟩

set_option maxHeartbeats 1000000 in
theorem spktText (k a b c d n : Int) (t : ByteArray) (ht : t.size ≤ maxLen) (w : World) :
    Calls Tryz.prog 8 #[pktV k a b c d n t] w fun e w' => e = .returned (.string (pktS k a b c d n t)) ∧ Below w.heap.size w w' := by
  cases hB : pktB k a b c d n t
  · have hS : pktS k a b c d n t = ⟨#[]⟩ := by unfold pktS; rw [hB]; rfl
    rw [hS]; clear hS
    have bel0 : Below w.heap.size w (w.alloc (.cells #[.int .i64 k, .int .i64 a, .int .i64 b, .int .i64 c, .int .i64 d, .int .i64 n, .string t] 26)) := (Below.refl _ _).alloc (Nat.le_refl _) _
    go_enter Tryz.func8, Tryz.ntmps8
    go_wp2_with fail
    refine (spktOk_is k a b c d n t ht false hB _).mono ?_
    rintro e w2 ⟨rfl, k2⟩
    go_wp2
    go_ret
    exact ⟨rfl, bel0.trans (k2.mono (by simp))⟩
  · exact spktText_ok k a b c d n t ht w hB
end Go.Proofs.YtnjggammbebpkaaGreatDoor.Pk

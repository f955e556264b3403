/- The walk of the exact law on StreamPut: it answers true. -/
import Derived.Test.YtdggchcapjidjabGreatDoorIx
import Derived.Test.YtdggchcapjidjabGreatDoorLaid
namespace Go.Proofs.YtdggchcapjidjabGreatDoor.XStreamPut
open Go.RowKit Go.Shelf Go.Proofs.YtdggchcapjidjabGreatDoor.Kit Go.Proofs.YtdggchcapjidjabGreatDoor.Mp Go.Proofs.YtdggchcapjidjabGreatDoor.Mm Go.Proofs.YtdggchcapjidjabGreatDoor.Tx Go.Proofs.YtdggchcapjidjabGreatDoor.Nm Go.Proofs.YtdggchcapjidjabGreatDoor.App Go.Proofs.YtdggchcapjidjabGreatDoor.St Go.Proofs.YtdggchcapjidjabGreatDoor.StP Go.Proofs.YtdggchcapjidjabGreatDoor.Ip Go.Proofs.YtdggchcapjidjabGreatDoor.Ix Go.Proofs.YtdggchcapjidjabGreatDoor.ExT
open Go.Proofs.YtdggchcapjidjabGreatDoor.Read (Errs)
set_option linter.unusedSimpArgs false
set_option linter.unusedVariables false

theorem apart {v1 v2 : Value} {a b c d : Nat} (h1 : ∀ k, v1.ownBlock = some k → a ≤ k ∧ k < b) (h2 : ∀ k, v2.ownBlock = some k → c ≤ k ∧ k < d) (h : b ≤ c ∨ d ≤ a) : v1.ownBlock = none ∨ v1.ownBlock ≠ v2.ownBlock := by
  cases q : v1.ownBlock with
  | none => exact .inl rfl
  | some k =>
    refine .inr fun e => ?_
    have e1 := h1 k q
    have e2 := h2 k e.symm
    omega
theorem apart2 {v1 v2 : Value} (h : v1.ownBlock = none ∨ v1.ownBlock ≠ v2.ownBlock) : v2.ownBlock = none ∨ v2.ownBlock ≠ v1.ownBlock := by
  cases q : v2.ownBlock with
  | none => exact .inl rfl
  | some k =>
    rcases h with h | h
    · exact .inr (by rw [h]; simp)
    · exact .inr fun e => h (e.symm.trans q.symm)

set_option maxRecDepth 8000 in
set_option maxHeartbeats 4000000 in
theorem long (a0 : Option Addr) (len0 cap0 : Nat) (m0 : List (Int × Int × Int)) (s1 : ByteArray) (v1 : Value) (q1 : List (Int × ByteArray)) (a2 : Int) (s3 : ByteArray) (a4 : Bool) (w : World) (hA : ExM.ArgM w a0 len0 cap0 m0) (hS : ArgS w s1 v1 q1) (hT : s3.size ≤ maxLen) (h : (1048576 : Int) < (s3.size : Int)) :
    Calls Tryz.prog 5 #[.slice a0 len0 cap0, .agg #[.string s1, v1], .int .i64 a2, .string s3, .bool a4] w fun e w' => e = .returned (.bool true) ∧ Below w.heap.size w w' := by
  obtain ⟨a1, cq, rfl, hT1⟩ := id hS.hT
  clear hT1
  have bA : Below w.heap.size w (w.alloc (.cells #[.string s1, .slice a1 q1.length cq] 42)) := (Below.refl _ _).alloc (Nat.le_refl _) _
  go_enter Tryz.func5, Tryz.ntmps5
  go_wp2
  go_ret
  exact ⟨rfl, bA⟩
set_option maxRecDepth 8000 in
set_option maxHeartbeats 4000000 in
theorem long2 (a0 : Option Addr) (len0 cap0 : Nat) (m0 : List (Int × Int × Int)) (s1 : ByteArray) (v1 : Value) (q1 : List (Int × ByteArray)) (a2 : Int) (s3 : ByteArray) (a4 : Bool) (w : World) (hA : ExM.ArgM w a0 len0 cap0 m0) (hS : ArgS w s1 v1 q1) (hT : s3.size ≤ maxLen) (h : ¬ (1048576 : Int) < (s3.size : Int)) (h2 : (1048576 : Int) < (len0 : Int)) :
    Calls Tryz.prog 5 #[.slice a0 len0 cap0, .agg #[.string s1, v1], .int .i64 a2, .string s3, .bool a4] w fun e w' => e = .returned (.bool true) ∧ Below w.heap.size w w' := by
  obtain ⟨a1, cq, rfl, hT1⟩ := id hS.hT
  clear hT1
  have bA : Below w.heap.size w (w.alloc (.cells #[.string s1, .slice a1 q1.length cq] 42)) := (Below.refl _ _).alloc (Nat.le_refl _) _
  have hm := Nat.le_trans hA.hc.1 hA.hc.2
  go_enter Tryz.func5, Tryz.ntmps5
  go_wp2_with fail
  refine (ExM.sz_big a0 len0 cap0 h2 hm _).mono ?_
  rintro e w1 ⟨rfl, rfl⟩
  go_wp2
  go_ret
  exact ⟨rfl, bA⟩
set_option maxRecDepth 8000 in
set_option maxHeartbeats 4000000 in
theorem long3 (a0 : Option Addr) (len0 cap0 : Nat) (m0 : List (Int × Int × Int)) (s1 : ByteArray) (v1 : Value) (q1 : List (Int × ByteArray)) (a2 : Int) (s3 : ByteArray) (a4 : Bool) (w : World) (hA : ExM.ArgM w a0 len0 cap0 m0) (hS : ArgS w s1 v1 q1) (hT : s3.size ≤ maxLen) (h : ¬ (1048576 : Int) < (s3.size : Int)) (h2 : (len0 : Int) ≤ 1048576) (h3 : ¬ (bulkS s1 q1 : Int) ≤ 1048576 - (len0 : Int)) :
    Calls Tryz.prog 5 #[.slice a0 len0 cap0, .agg #[.string s1, v1], .int .i64 a2, .string s3, .bool a4] w fun e w' => e = .returned (.bool true) ∧ Below w.heap.size w w' := by
  obtain ⟨a1, cq, rfl, hT1⟩ := id hS.hT
  clear hT1
  have bA : Below w.heap.size w (w.alloc (.cells #[.string s1, .slice a1 q1.length cq] 42)) := (Below.refl _ _).alloc (Nat.le_refl _) _
  have hz : leftZ (1048576 - (len0 : Int)) (bulkS s1 q1) = -1 := if_neg h3
  have hSB := hS.below bA
  have hn0 : ¬ (1048576 - (len0 : Int)) < 0 := by omega
  go_enter Tryz.func5, Tryz.ntmps5
  go_wp2_with fail
  refine (ExM.sz_ok a0 len0 cap0 h2 _).mono ?_
  rintro e w1 ⟨rfl, rfl⟩
  go_wp2_with fail
  refine (szStream_any s1 _ q1 (1048576 - (len0 : Int)) (by omega) _ hSB).mono ?_
  rintro e w2 ⟨rfl, k2⟩
  rw [hz]
  go_wp2
  go_ret
  exact ⟨rfl, bA.trans (k2.mono bA.size)⟩
set_option maxRecDepth 20000 in
set_option maxHeartbeats 16000000 in
theorem short (a0 : Option Addr) (len0 cap0 : Nat) (m0 : List (Int × Int × Int)) (s1 : ByteArray) (v1 : Value) (q1 : List (Int × ByteArray)) (a2 : Int) (s3 : ByteArray) (a4 : Bool) (w : World) (hA : ExM.ArgM w a0 len0 cap0 m0) (hS : ArgS w s1 v1 q1) (hT : s3.size ≤ maxLen) (h : ¬ (1048576 : Int) < (s3.size : Int)) (h2 : (len0 : Int) ≤ 1048576) (h3 : (bulkS s1 q1 : Int) ≤ 1048576 - (len0 : Int)) (herr : Errs w) :
    Calls Tryz.prog 5 #[.slice a0 len0 cap0, .agg #[.string s1, v1], .int .i64 a2, .string s3, .bool a4] w fun e w' => e = .returned (.bool true) ∧ Below w.heap.size w w' := by
  obtain ⟨a1, cq, rfl, hT1⟩ := id hS.hT
  clear hT1
  have bA : Below w.heap.size w (w.alloc (.cells #[.string s1, .slice a1 q1.length cq] 42)) := (Below.refl _ _).alloc (Nat.le_refl _) _
  obtain ⟨L8, hL8⟩ : ∃ L8, 1048576 - (len0 : Int) = L8 := ⟨_, rfl⟩
  have hz : leftZ L8 (bulkS s1 q1) = L8 - ((bulkS s1 q1 : Nat) : Int) := if_pos (by omega)
  have hn0 : ¬ L8 < 0 := by omega
  have hn1 : 0 ≤ L8 ∧ L8 ≤ 1048576 := by omega
  have HL8 := (show Hid (1048576 - (len0 : Int) = L8) from hL8)
  have hb1 : s1.size ≤ 1048576 := by unfold bulkS at h3; omega
  have hb2 : q1.length ≤ 1048576 := by unfold bulkS bulkT at h3; omega
  have hb3 : ∀ p ∈ q1, p.2.size ≤ 1073741824 := fun p hp => by have := txtT_mem hp; unfold bulkS bulkT at h3; omega
  have hb0 : m0.length ≤ 1048576 := by have hl := hA.hl; omega
  obtain ⟨mo, So, po, bo, hZ⟩ : ∃ mo So po bo, putZ m0 s1 q1 a2 s3 a4 = (mo, So, po, bo) := ⟨_, _, _, _, rfl⟩
  have hzl := putZ_len m0 s1 q1 a2 s3 a4
  rw [hZ] at hzl
  obtain ⟨hmo, hpo⟩ := hzl
  simp only at hmo hpo
  have HZ := (show Hid (putZ m0 s1 q1 a2 s3 a4 = (mo, So, po, bo)) from hZ)
  have HB3 := (show Hid (∀ p ∈ q1, p.2.size ≤ 1073741824) from hb3)
  have HAM := (show Hid (ExM.ArgM w a0 len0 cap0 m0) from hA)
  have HAT := (show Hid (IsT w (.slice a1 q1.length cq) q1) from hS.hT)
  have HER := (show Hid (Errs w) from herr)
  have hSB := hS.below bA
  clear hZ hb3 hA hS herr hL8
  go_enter Tryz.func5, Tryz.ntmps5
  go_wp2_with fail
  refine (ExM.sz_ok a0 len0 cap0 h2 _).mono ?_
  rintro e w1 ⟨rfl, rfl⟩
  rw [HL8.out]
  go_wp2_with fail
  refine (szStream_any s1 _ q1 L8 hn1 _ hSB).mono ?_
  rintro e w2 ⟨rfl, k2⟩
  rw [hz]
  have kb := k2.size
  simp at kb
  have cA0 : w2.cell? ⟨w.heap.size, 0, none⟩ = some (.string s1) := by rw [k2.cell (p := ⟨w.heap.size, 0, none⟩) (by simp)]; simp
  have cA1 : w2.cell? ⟨w.heap.size, 1, none⟩ = some (.slice a1 q1.length cq) := by rw [k2.cell (p := ⟨w.heap.size, 1, none⟩) (by simp)]; simp
  have HB := (show Hid (Below w.heap.size w w2) from bA.trans (k2.mono bA.size))
  obtain ⟨B0, hB0e⟩ : ∃ B0, w.heap.size = B0 := ⟨_, rfl⟩
  have HB0e := (show Hid (w.heap.size = B0) from hB0e)
  have hB0 : B0 < w2.heap.size := by omega
  rw [hB0e] at cA0 cA1 ⊢
  obtain ⟨L9, hL9⟩ : ∃ L9, L8 - ((bulkS s1 q1 : Nat) : Int) = L9 := ⟨_, rfl⟩
  have hL0 : ¬ L9 < 0 := by have := HL8.out; omega
  rw [hL9]
  clear hz hSB k2 kb hL9 hB0e bA
  have hmix : Tryz.prog.follows .mixedOrders = true := by kernel_rfl
  obtain ⟨VV, hVV⟩ : ∃ VV : Value → Value → Value → Value → Nat → Value, VV = fun c0 c1 c2 c3 j => [(.slice a0 len0 cap0 : Value), c2, .agg #[.string s1, .slice a1 q1.length cq], c3, .int .i64 a2, .string s3, .bool a4, .tuple #[c0, c1, .bool bo], .tuple #[c0, c1, .bool bo], c0, c1, .bool bo, undef, c0, undef, .bool bo].getD j undef := ⟨_, rfl⟩
  have V0 : ∀ c0 c1 c2 c3, VV c0 c1 c2 c3 0 = .slice a0 len0 cap0 := fun _ _ _ _ => by rw [hVV]; rfl
  have V1 : ∀ c0 c1 c2 c3, VV c0 c1 c2 c3 1 = c2 := fun _ _ _ _ => by rw [hVV]; rfl
  have V2 : ∀ c0 c1 c2 c3, VV c0 c1 c2 c3 2 = .agg #[.string s1, .slice a1 q1.length cq] := fun _ _ _ _ => by rw [hVV]; rfl
  have V3 : ∀ c0 c1 c2 c3, VV c0 c1 c2 c3 3 = c3 := fun _ _ _ _ => by rw [hVV]; rfl
  have V4 : ∀ c0 c1 c2 c3, VV c0 c1 c2 c3 4 = .int .i64 a2 := fun _ _ _ _ => by rw [hVV]; rfl
  have V5 : ∀ c0 c1 c2 c3, VV c0 c1 c2 c3 5 = .string s3 := fun _ _ _ _ => by rw [hVV]; rfl
  have V6 : ∀ c0 c1 c2 c3, VV c0 c1 c2 c3 6 = .bool a4 := fun _ _ _ _ => by rw [hVV]; rfl
  have V7 : ∀ c0 c1 c2 c3, VV c0 c1 c2 c3 7 = .tuple #[c0, c1, .bool bo] := fun _ _ _ _ => by rw [hVV]; rfl
  have V8 : ∀ c0 c1 c2 c3, VV c0 c1 c2 c3 8 = .tuple #[c0, c1, .bool bo] := fun _ _ _ _ => by rw [hVV]; rfl
  have V9 : ∀ c0 c1 c2 c3, VV c0 c1 c2 c3 9 = c0 := fun _ _ _ _ => by rw [hVV]; rfl
  have V10 : ∀ c0 c1 c2 c3, VV c0 c1 c2 c3 10 = c1 := fun _ _ _ _ => by rw [hVV]; rfl
  have V11 : ∀ c0 c1 c2 c3, VV c0 c1 c2 c3 11 = .bool bo := fun _ _ _ _ => by rw [hVV]; rfl
  have V12 : ∀ c0 c1 c2 c3, VV c0 c1 c2 c3 12 = undef := fun _ _ _ _ => by rw [hVV]; rfl
  have V13 : ∀ c0 c1 c2 c3, VV c0 c1 c2 c3 13 = c0 := fun _ _ _ _ => by rw [hVV]; rfl
  have V14 : ∀ c0 c1 c2 c3, VV c0 c1 c2 c3 14 = undef := fun _ _ _ _ => by rw [hVV]; rfl
  have V15 : ∀ c0 c1 c2 c3, VV c0 c1 c2 c3 15 = .bool bo := fun _ _ _ _ => by rw [hVV]; rfl
  clear hVV
  go_upto_region 10 with fail
  refine wp_region_any hmix ?_
  refine Ri.any_inv (I := fun l a' w' => l.size = 16 ∧ ∃ (t : Nat → Value) (x c0 c1 c2 c3 : Value), a' = { tmps := #[(Value.slice a0 len0 cap0 : Value), Value.agg #[Value.string s1, Value.slice a1 q1.length cq], Value.int IntKind.i64 a2, Value.string s3, Value.bool a4, undef, Value.pointer (some { block := B0, off := 0 }), undef, undef, undef, Value.bool false, Value.int IntKind.i64 L9, t 13, x, t 15, undef, undef, undef, undef, undef, undef, undef, undef, undef, undef, undef, Value.string s3, Value.int IntKind.i64 ↑s3.size, Value.bool false, Value.slice a0 len0 cap0, Value.int IntKind.i64 1048576, Value.int IntKind.i64 L8, Value.int IntKind.i64 L8, Value.bool (decide (L8 < 0)), Value.agg #[Value.string s1, Value.slice a1 q1.length cq], Value.int IntKind.i64 L8, Value.int IntKind.i64 L9, Value.int IntKind.i64 L9, Value.bool (decide (L9 < 0)), t 8, t 0, t 1, t 2, t 3, t 4, t 5, t 6, t 7, t 9, t 10, t 11, undef, undef, undef, undef, undef, undef, undef, undef, undef, undef, undef, undef, undef, undef, undef, undef, undef, undef, undef, undef, undef, undef, undef, undef, undef, undef, undef, undef, undef, undef, undef, undef, undef, undef, undef, undef, undef, undef, undef, undef, undef, undef, undef, undef, undef, undef, undef, undef, undef, undef, undef, undef, undef, undef, undef, undef, undef, undef, undef, undef, undef, undef, undef, undef, undef, undef, undef, undef, undef, undef, undef, undef, undef, undef, undef, undef, undef, undef, undef, undef, undef, undef, undef, undef, undef, undef, undef, undef, undef, undef, undef, undef, undef, undef, undef, undef, undef, undef, undef, undef, undef, undef, undef, undef, undef, undef, undef, undef, undef, undef, undef, undef, undef, undef, undef, undef, undef, undef, undef, undef, undef, undef, undef], defers := [] } ∧ Rg.Vals l (VV c0 c1 c2 c3) t ∧ Sp10 w2 m0 s1 q1 mo So po l x c0 c1 c2 c3 w') ?sz ?low ?step ?fin _ _ _ _ ?start (Ri.closed_none _ _ _) (Rg.left_all _)
  case sz => exact fun l a' w' h => h.1
  case start => exact ⟨by simp, fun j => ([undef, undef, undef, undef, undef, undef, undef, undef, undef, undef, undef, undef, undef, undef, undef, undef] : List Value).getD j undef, undef, undef, undef, undef, undef, rfl, Rg.vals_none _ _ _, Sp10.start _ (Below.refl _ _).drew⟩
  case low => exact Ri.low_of (by kernel_rfl)
  case step =>
    rintro l a' w' i ⟨hsz, t, x, c0, c1, c2, c3, rfl, hv, HM⟩ hcl hi
    obtain ⟨h0, op, ho, hd⟩ := mem_ready.1 hi
    have hin : i < 16 := (Array.getElem?_eq_some_iff.1 ho).1
    have hnl := Rg.not_listed h0
    have hS7 : l.getD 14 false = true → l.getD 7 false = true := fun h => Ri.reach_sound hcl 10 14 7 (by kernel_rfl) h
    have hS12 : l.getD 14 false = true → l.getD 12 false = true := fun h => Ri.reach_sound hcl 10 14 12 (by kernel_rfl) h
    have hS1 : l.getD 14 false = true → l.getD 1 false = true := fun h => Ri.reach_sound hcl 10 14 1 (by kernel_rfl) h
    have hS3 : l.getD 14 false = true → l.getD 3 false = true := fun h => Ri.reach_sound hcl 10 14 3 (by kernel_rfl) h
    have hD8 : l.getD 8 false = true → l.getD 7 false = true := fun h => Ri.reach_sound hcl 10 8 7 (by kernel_rfl) h
    have hD9 : l.getD 9 false = true → l.getD 7 false = true := fun h => Ri.reach_sound hcl 10 9 7 (by kernel_rfl) h
    have hD10 : l.getD 10 false = true → l.getD 7 false = true := fun h => Ri.reach_sound hcl 10 10 7 (by kernel_rfl) h
    have hD11 : l.getD 11 false = true → l.getD 7 false = true := fun h => Ri.reach_sound hcl 10 11 7 (by kernel_rfl) h
    have hD13 : l.getD 13 false = true → l.getD 7 false = true := fun h => Ri.reach_sound hcl 10 13 7 (by kernel_rfl) h
    have hD14 : l.getD 14 false = true → l.getD 7 false = true := fun h => Ri.reach_sound hcl 10 14 7 (by kernel_rfl) h
    have hD15 : l.getD 15 false = true → l.getD 7 false = true := fun h => Ri.reach_sound hcl 10 15 7 (by kernel_rfl) h
    clear h0 hi hcl
    have hc : i = 0 ∨ i = 1 ∨ i = 2 ∨ i = 3 ∨ i = 4 ∨ i = 5 ∨ i = 6 ∨ i = 7 ∨ i = 8 ∨ i = 9 ∨ i = 10 ∨ i = 11 ∨ i = 12 ∨ i = 13 ∨ i = 14 ∨ i = 15 := by omega
    rcases hc with rfl | rfl | rfl | rfl | rfl | rfl | rfl | rfl | rfl | rfl | rfl | rfl | rfl | rfl | rfl | rfl
    · obtain rfl : _ = op := Option.some.inj (show some _ = some op from ho)
      have HV := (show Hid (Rg.Vals l (VV c0 c1 c2 c3) t) from hv)
      have HQ := (show Hid (Sp10 w2 m0 s1 q1 mo So po l x c0 c1 c2 c3 w') from HM)
      clear hv hd ho HM
      refine wpOp_step rfl fun K9 hK9 => ?_
      have HKK := (show Hid _ from hK9)
      clear hK9
      go_simp
      exact HKK.out _ _ ⟨by simp [hsz], fun j => if j = 0 then (.slice a0 len0 cap0 : Value) else t j, x, c0, c1, c2, c3, by simp, HV.out.put 0 _ (V0 _ _ _ _).symm, HQ.out.other (by decide) (by decide) (by decide) (by decide) (by decide)⟩
    · obtain rfl : _ = op := Option.some.inj (show some _ = some op from ho)
      have e0 : t 0 = .slice a0 len0 cap0 := (hv 0 (hd { on := 0, ground := .data } (by simp) rfl)).trans (V0 c0 c1 c2 c3)
      have q9 : l.getD 14 false = false := by
        cases q : l.getD 14 false
        · rfl
        · rw [hS1 q] at hnl; cases hnl
      have hbw := HM.bel
      have HV := (show Hid (Rg.Vals l (VV c0 c1 c2 c3) t) from hv)
      have HQ := (show Hid (Sp10 w2 m0 s1 q1 mo So po l x c0 c1 c2 c3 w') from HM)
      clear hv hd ho HM
      refine wpOp_step rfl fun K9 hK9 => ?_
      have HKK := (show Hid _ from hK9)
      clear hK9
      go_simp
      refine (ExM.toS_any _ a0 len0 cap0 m0 (HAM.out.below (HB.out.trans (hbw.mono HB.out.size))) hb0).mono ?_
      rintro e w9 ⟨v9, rfl, hr9, k9⟩
      have h9 := isM_of_row hr9
      obtain ⟨a9, c9, rfl⟩ := isM_slice h9
      refine HKK.out _ _ ⟨by simp [hsz], fun j => if j = 1 then ((.slice a9 m0.length c9) : Value) else t j, x, c0, c1, (.slice a9 m0.length c9), c3, by simp [e0], vals_new HV.out 1 _ (V1 _ _ _ _).symm ?_, HQ.out.pairs q9 k9 h9⟩
      intro j hj hl
      have hjn : j < 16 := by
        rcases Nat.lt_or_ge j l.size with q | q
        · omega
        · rw [Array.getD, dif_neg (by omega)] at hl; cases hl
      have hc : j = 0 ∨ j = 1 ∨ j = 2 ∨ j = 3 ∨ j = 4 ∨ j = 5 ∨ j = 6 ∨ j = 7 ∨ j = 8 ∨ j = 9 ∨ j = 10 ∨ j = 11 ∨ j = 12 ∨ j = 13 ∨ j = 14 ∨ j = 15 := by omega
      rcases hc with rfl | rfl | rfl | rfl | rfl | rfl | rfl | rfl | rfl | rfl | rfl | rfl | rfl | rfl | rfl | rfl
      · rw [V0, V0]
      · exact absurd rfl hj
      · rw [V2, V2]
      · rw [V3, V3]
      · rw [V4, V4]
      · rw [V5, V5]
      · rw [V6, V6]
      · rw [V7, V7]
      · rw [V8, V8]
      · rw [V9, V9]
      · rw [V10, V10]
      · rw [V11, V11]
      · rw [V12, V12]
      · rw [V13, V13]
      · rw [V14, V14]
      · rw [V15, V15]
    · obtain rfl : _ = op := Option.some.inj (show some _ = some op from ho)
      have HW := (show Hid (Below w2.heap.size w2 w') from HM.bel)
      have y0 : w'.cell? ⟨B0, 0, none⟩ = some (.string s1) := (HW.out.cell (p := ⟨B0, 0, none⟩) hB0).trans cA0
      have y1 : w'.cell? ⟨B0, 1, none⟩ = some (.slice a1 q1.length cq) := (HW.out.cell (p := ⟨B0, 1, none⟩) hB0).trans cA1
      have HV := (show Hid (Rg.Vals l (VV c0 c1 c2 c3) t) from hv)
      have HQ := (show Hid (Sp10 w2 m0 s1 q1 mo So po l x c0 c1 c2 c3 w') from HM)
      clear hv hd ho HM
      refine wpOp_step rfl fun K9 hK9 => ?_
      have HKK := (show Hid _ from hK9)
      clear hK9
      go_simp
      exact HKK.out _ _ ⟨by simp [hsz], fun j => if j = 2 then (.agg #[.string s1, .slice a1 q1.length cq] : Value) else t j, x, c0, c1, c2, c3, by simp, HV.out.put 2 _ (V2 _ _ _ _).symm, HQ.out.other (by decide) (by decide) (by decide) (by decide) (by decide)⟩
    · obtain rfl : _ = op := Option.some.inj (show some _ = some op from ho)
      have e2 : t 2 = .agg #[.string s1, .slice a1 q1.length cq] := (hv 2 (hd { on := 2, ground := .data } (by simp) rfl)).trans (V2 c0 c1 c2 c3)
      have q9 : l.getD 14 false = false := by
        cases q : l.getD 14 false
        · rfl
        · rw [hS3 q] at hnl; cases hnl
      have hbw := HM.bel
      have HV := (show Hid (Rg.Vals l (VV c0 c1 c2 c3) t) from hv)
      have HQ := (show Hid (Sp10 w2 m0 s1 q1 mo So po l x c0 c1 c2 c3 w') from HM)
      clear hv hd ho HM
      refine wpOp_step rfl fun K9 hK9 => ?_
      have HKK := (show Hid _ from hK9)
      clear hK9
      go_simp
      refine (toStream_any _ s1 _ q1 (HAT.out.below (HB.out.trans (hbw.mono HB.out.size))) hb2).mono ?_
      rintro e w9 ⟨v9, rfl, ⟨b9, _, hr9⟩, k9⟩
      have h9 := isT_of_row hr9
      obtain ⟨a9, c9, rfl⟩ := row_slice hr9
      refine HKK.out _ _ ⟨by simp [hsz], fun j => if j = 3 then ((.agg #[.string s1, .slice a9 q1.length c9]) : Value) else t j, x, c0, c1, c2, (.agg #[.string s1, .slice a9 q1.length c9]), by simp [e2], vals_new HV.out 3 _ (V3 _ _ _ _).symm ?_, HQ.out.stream q9 k9 h9⟩
      intro j hj hl
      have hjn : j < 16 := by
        rcases Nat.lt_or_ge j l.size with q | q
        · omega
        · rw [Array.getD, dif_neg (by omega)] at hl; cases hl
      have hc : j = 0 ∨ j = 1 ∨ j = 2 ∨ j = 3 ∨ j = 4 ∨ j = 5 ∨ j = 6 ∨ j = 7 ∨ j = 8 ∨ j = 9 ∨ j = 10 ∨ j = 11 ∨ j = 12 ∨ j = 13 ∨ j = 14 ∨ j = 15 := by omega
      rcases hc with rfl | rfl | rfl | rfl | rfl | rfl | rfl | rfl | rfl | rfl | rfl | rfl | rfl | rfl | rfl | rfl
      · rw [V0, V0]
      · rw [V1, V1]
      · rw [V2, V2]
      · exact absurd rfl hj
      · rw [V4, V4]
      · rw [V5, V5]
      · rw [V6, V6]
      · rw [V7, V7]
      · rw [V8, V8]
      · rw [V9, V9]
      · rw [V10, V10]
      · rw [V11, V11]
      · rw [V12, V12]
      · rw [V13, V13]
      · rw [V14, V14]
      · rw [V15, V15]
    · obtain rfl : _ = op := Option.some.inj (show some _ = some op from ho)
      have HV := (show Hid (Rg.Vals l (VV c0 c1 c2 c3) t) from hv)
      have HQ := (show Hid (Sp10 w2 m0 s1 q1 mo So po l x c0 c1 c2 c3 w') from HM)
      clear hv hd ho HM
      refine wpOp_step rfl fun K9 hK9 => ?_
      have HKK := (show Hid _ from hK9)
      clear hK9
      go_simp
      exact HKK.out _ _ ⟨by simp [hsz], fun j => if j = 4 then (.int .i64 a2 : Value) else t j, x, c0, c1, c2, c3, by simp, HV.out.put 4 _ (V4 _ _ _ _).symm, HQ.out.other (by decide) (by decide) (by decide) (by decide) (by decide)⟩
    · obtain rfl : _ = op := Option.some.inj (show some _ = some op from ho)
      have HV := (show Hid (Rg.Vals l (VV c0 c1 c2 c3) t) from hv)
      have HQ := (show Hid (Sp10 w2 m0 s1 q1 mo So po l x c0 c1 c2 c3 w') from HM)
      clear hv hd ho HM
      refine wpOp_step rfl fun K9 hK9 => ?_
      have HKK := (show Hid _ from hK9)
      clear hK9
      go_simp
      exact HKK.out _ _ ⟨by simp [hsz], fun j => if j = 5 then (.string s3 : Value) else t j, x, c0, c1, c2, c3, by simp, HV.out.put 5 _ (V5 _ _ _ _).symm, HQ.out.other (by decide) (by decide) (by decide) (by decide) (by decide)⟩
    · obtain rfl : _ = op := Option.some.inj (show some _ = some op from ho)
      have HV := (show Hid (Rg.Vals l (VV c0 c1 c2 c3) t) from hv)
      have HQ := (show Hid (Sp10 w2 m0 s1 q1 mo So po l x c0 c1 c2 c3 w') from HM)
      clear hv hd ho HM
      refine wpOp_step rfl fun K9 hK9 => ?_
      have HKK := (show Hid _ from hK9)
      clear hK9
      go_simp
      exact HKK.out _ _ ⟨by simp [hsz], fun j => if j = 6 then (.bool a4 : Value) else t j, x, c0, c1, c2, c3, by simp, HV.out.put 6 _ (V6 _ _ _ _).symm, HQ.out.other (by decide) (by decide) (by decide) (by decide) (by decide)⟩
    · obtain rfl : _ = op := Option.some.inj (show some _ = some op from ho)
      have e1 : t 1 = c2 := (hv 1 (hd { on := 1, ground := .data } (by simp) rfl)).trans (V1 c0 c1 c2 c3)
      have e3 : t 3 = c3 := (hv 3 (hd { on := 3, ground := .data } (by simp) rfl)).trans (V3 c0 c1 c2 c3)
      have e4 : t 4 = .int .i64 a2 := (hv 4 (hd { on := 4, ground := .data } (by simp) rfl)).trans (V4 c0 c1 c2 c3)
      have e5 : t 5 = .string s3 := (hv 5 (hd { on := 5, ground := .data } (by simp) rfl)).trans (V5 c0 c1 c2 c3)
      have e6 : t 6 = .bool a4 := (hv 6 (hd { on := 6, ground := .data } (by simp) rfl)).trans (V6 c0 c1 c2 c3)
      have q9 : l.getD 14 false = false := by
        cases q : l.getD 14 false
        · rfl
        · rw [hS7 q] at hnl; cases hnl
      have hbw := HM.bel
      obtain ⟨pa8, pc8, E2, hM8⟩ := HM.pre1 (hd { on := 1, ground := .data } (by simp) rfl) q9
      obtain ⟨pa7, pc7, E3, hT8⟩ := HM.pre2 (hd { on := 3, ground := .data } (by simp) rfl) q9
      subst E2 E3
      have HV := (show Hid (Rg.Vals l (VV c0 c1 (.slice pa8 m0.length pc8) (.agg #[.string s1, .slice pa7 q1.length pc7])) t) from hv)
      have HQ := (show Hid (Sp10 w2 m0 s1 q1 mo So po l x c0 c1 (.slice pa8 m0.length pc8) (.agg #[.string s1, .slice pa7 q1.length pc7]) w') from HM)
      clear hv hd ho HM
      refine wpOp_step rfl fun K9 hK9 => ?_
      have HKK := (show Hid _ from hK9)
      clear hK9
      go_simp
      refine (sput_x _ _ m0 hM8 (by omega) s1 _ q1 hT8 (by omega) HB3.out (by omega) a2 s3 hT a4 HZ.out).mono ?_
      rintro e w9 ⟨va9, vc9, pa9, pc9, rfl, hM9, hT9, k9⟩
      refine HKK.out _ _ ⟨by simp [hsz], fun j => if j = 7 then (.tuple #[.slice va9 mo.length vc9, .agg #[.string So, .slice pa9 po.length pc9], .bool bo] : Value) else t j, x, .slice va9 mo.length vc9, .agg #[.string So, .slice pa9 po.length pc9], _, _, by simp [e1, e3, e4, e5, e6], vals_new HV.out 7 _ (V7 _ _ _ _).symm ?_, HQ.out.call q9 k9 hM9 hT9⟩
      intro j hj hl
      have hjn : j < 16 := by
        rcases Nat.lt_or_ge j l.size with q | q
        · omega
        · rw [Array.getD, dif_neg (by omega)] at hl; cases hl
      have hc : j = 0 ∨ j = 1 ∨ j = 2 ∨ j = 3 ∨ j = 4 ∨ j = 5 ∨ j = 6 ∨ j = 7 ∨ j = 8 ∨ j = 9 ∨ j = 10 ∨ j = 11 ∨ j = 12 ∨ j = 13 ∨ j = 14 ∨ j = 15 := by omega
      rcases hc with rfl | rfl | rfl | rfl | rfl | rfl | rfl | rfl | rfl | rfl | rfl | rfl | rfl | rfl | rfl | rfl
      · rw [V0, V0]
      · rw [V1, V1]
      · rw [V2, V2]
      · rw [V3, V3]
      · rw [V4, V4]
      · rw [V5, V5]
      · rw [V6, V6]
      · exact absurd rfl hj
      · rw [hD8 hl] at hnl; cases hnl
      · rw [hD9 hl] at hnl; cases hnl
      · rw [hD10 hl] at hnl; cases hnl
      · rw [hD11 hl] at hnl; cases hnl
      · rw [V12, V12]
      · rw [hD13 hl] at hnl; cases hnl
      · rw [hD14 hl] at hnl; cases hnl
      · rw [hD15 hl] at hnl; cases hnl
    · obtain rfl : _ = op := Option.some.inj (show some _ = some op from ho)
      have e7 : t 7 = .tuple #[c0, c1, .bool bo] := (hv 7 (hd { on := 7, ground := .data } (by simp) rfl)).trans (V7 c0 c1 c2 c3)
      obtain ⟨va9, vc9, pa9, pc9, E0, E1, _, _⟩ := HM.called (hd { on := 7, ground := .data } (by simp) rfl)
      subst E0 E1
      have HV := (show Hid (Rg.Vals l (VV (.slice va9 mo.length vc9) (.agg #[.string So, .slice pa9 po.length pc9]) c2 c3) t) from hv)
      have HQ := (show Hid (Sp10 w2 m0 s1 q1 mo So po l x (.slice va9 mo.length vc9) (.agg #[.string So, .slice pa9 po.length pc9]) c2 c3 w') from HM)
      clear hv hd ho HM
      refine wpOp_step rfl fun K9 hK9 => ?_
      have HKK := (show Hid _ from hK9)
      clear hK9
      rw [e7]
      go_simp
      exact HKK.out _ _ ⟨by simp [hsz], fun j => if j = 8 then (.tuple #[(.slice va9 mo.length vc9), (.agg #[.string So, .slice pa9 po.length pc9]), .bool bo] : Value) else t j, x, (.slice va9 mo.length vc9), (.agg #[.string So, .slice pa9 po.length pc9]), c2, c3, by simp [e7], HV.out.put 8 _ (V8 _ _ _ _).symm, HQ.out.other (by decide) (by decide) (by decide) (by decide) (by decide)⟩
    · obtain rfl : _ = op := Option.some.inj (show some _ = some op from ho)
      have e8 : t 8 = .tuple #[c0, c1, .bool bo] := (hv 8 (hd { on := 8, ground := .data } (by simp) rfl)).trans (V8 c0 c1 c2 c3)
      obtain ⟨va9, vc9, pa9, pc9, E0, E1, _, _⟩ := HM.called (hD8 (hd { on := 8, ground := .data } (by simp) rfl))
      subst E0 E1
      have HV := (show Hid (Rg.Vals l (VV (.slice va9 mo.length vc9) (.agg #[.string So, .slice pa9 po.length pc9]) c2 c3) t) from hv)
      have HQ := (show Hid (Sp10 w2 m0 s1 q1 mo So po l x (.slice va9 mo.length vc9) (.agg #[.string So, .slice pa9 po.length pc9]) c2 c3 w') from HM)
      clear hv hd ho HM
      refine wpOp_step rfl fun K9 hK9 => ?_
      have HKK := (show Hid _ from hK9)
      clear hK9
      rw [e8]
      go_simp
      exact HKK.out _ _ ⟨by simp [hsz], fun j => if j = 9 then ((.slice va9 mo.length vc9) : Value) else t j, x, (.slice va9 mo.length vc9), (.agg #[.string So, .slice pa9 po.length pc9]), c2, c3, by simp [e8], HV.out.put 9 _ (V9 _ _ _ _).symm, HQ.out.other (by decide) (by decide) (by decide) (by decide) (by decide)⟩
    · obtain rfl : _ = op := Option.some.inj (show some _ = some op from ho)
      have e8 : t 8 = .tuple #[c0, c1, .bool bo] := (hv 8 (hd { on := 8, ground := .data } (by simp) rfl)).trans (V8 c0 c1 c2 c3)
      obtain ⟨va9, vc9, pa9, pc9, E0, E1, _, _⟩ := HM.called (hD8 (hd { on := 8, ground := .data } (by simp) rfl))
      subst E0 E1
      have HV := (show Hid (Rg.Vals l (VV (.slice va9 mo.length vc9) (.agg #[.string So, .slice pa9 po.length pc9]) c2 c3) t) from hv)
      have HQ := (show Hid (Sp10 w2 m0 s1 q1 mo So po l x (.slice va9 mo.length vc9) (.agg #[.string So, .slice pa9 po.length pc9]) c2 c3 w') from HM)
      clear hv hd ho HM
      refine wpOp_step rfl fun K9 hK9 => ?_
      have HKK := (show Hid _ from hK9)
      clear hK9
      rw [e8]
      go_simp
      exact HKK.out _ _ ⟨by simp [hsz], fun j => if j = 10 then ((.agg #[.string So, .slice pa9 po.length pc9]) : Value) else t j, x, (.slice va9 mo.length vc9), (.agg #[.string So, .slice pa9 po.length pc9]), c2, c3, by simp [e8], HV.out.put 10 _ (V10 _ _ _ _).symm, HQ.out.other (by decide) (by decide) (by decide) (by decide) (by decide)⟩
    · obtain rfl : _ = op := Option.some.inj (show some _ = some op from ho)
      have e8 : t 8 = .tuple #[c0, c1, .bool bo] := (hv 8 (hd { on := 8, ground := .data } (by simp) rfl)).trans (V8 c0 c1 c2 c3)
      obtain ⟨va9, vc9, pa9, pc9, E0, E1, _, _⟩ := HM.called (hD8 (hd { on := 8, ground := .data } (by simp) rfl))
      subst E0 E1
      have HV := (show Hid (Rg.Vals l (VV (.slice va9 mo.length vc9) (.agg #[.string So, .slice pa9 po.length pc9]) c2 c3) t) from hv)
      have HQ := (show Hid (Sp10 w2 m0 s1 q1 mo So po l x (.slice va9 mo.length vc9) (.agg #[.string So, .slice pa9 po.length pc9]) c2 c3 w') from HM)
      clear hv hd ho HM
      refine wpOp_step rfl fun K9 hK9 => ?_
      have HKK := (show Hid _ from hK9)
      clear hK9
      rw [e8]
      go_simp
      exact HKK.out _ _ ⟨by simp [hsz], fun j => if j = 11 then (.bool bo : Value) else t j, x, (.slice va9 mo.length vc9), (.agg #[.string So, .slice pa9 po.length pc9]), c2, c3, by simp [e8], HV.out.put 11 _ (V11 _ _ _ _).symm, HQ.out.other (by decide) (by decide) (by decide) (by decide) (by decide)⟩
    · obtain rfl : _ = op := Option.some.inj (show some _ = some op from ho)
      have q9 : l.getD 14 false = false := by
        cases q : l.getD 14 false
        · rfl
        · rw [hS12 q] at hnl; cases hnl
      have HV := (show Hid (Rg.Vals l (VV c0 c1 c2 c3) t) from hv)
      have HQ := (show Hid (Sp10 w2 m0 s1 q1 mo So po l x c0 c1 c2 c3 w') from HM)
      clear hv hd ho HM
      refine wpOp_step rfl fun K9 hK9 => ?_
      have HKK := (show Hid _ from hK9)
      clear hK9
      go_simp
      exact HKK.out _ _ ⟨by simp [hsz], fun j => if j = 12 then (undef : Value) else t j, _, c0, c1, c2, c3, by simp, HV.out.put 12 _ (V12 _ _ _ _).symm, HQ.out.make (by omega) q9⟩
    · obtain rfl : _ = op := Option.some.inj (show some _ = some op from ho)
      have e9 : t 9 = c0 := (hv 9 (hd { on := 9, ground := .data } (by simp) rfl)).trans (V9 c0 c1 c2 c3)
      obtain ⟨va9, vc9, pa9, pc9, E0, E1, _, _⟩ := HM.called (hD9 (hd { on := 9, ground := .data } (by simp) rfl))
      subst E0 E1
      have HV := (show Hid (Rg.Vals l (VV (.slice va9 mo.length vc9) (.agg #[.string So, .slice pa9 po.length pc9]) c2 c3) t) from hv)
      have HQ := (show Hid (Sp10 w2 m0 s1 q1 mo So po l x (.slice va9 mo.length vc9) (.agg #[.string So, .slice pa9 po.length pc9]) c2 c3 w') from HM)
      clear hv hd ho HM
      refine wpOp_step rfl fun K9 hK9 => ?_
      have HKK := (show Hid _ from hK9)
      clear hK9
      rw [e9]
      go_simp
      exact HKK.out _ _ ⟨by simp [hsz], fun j => if j = 13 then ((.slice va9 mo.length vc9) : Value) else t j, x, (.slice va9 mo.length vc9), (.agg #[.string So, .slice pa9 po.length pc9]), c2, c3, by simp [e9], HV.out.put 13 _ (V13 _ _ _ _).symm, HQ.out.other (by decide) (by decide) (by decide) (by decide) (by decide)⟩
    · obtain rfl : _ = op := Option.some.inj (show some _ = some op from ho)
      have e10 : t 10 = c1 := (hv 10 (hd { on := 10, ground := .data } (by simp) rfl)).trans (V10 c0 c1 c2 c3)
      have q9 : l.getD 14 false = false := by
        cases q : l.getD 14 false
        · rfl
        · rw [q] at hnl; cases hnl
      obtain ⟨va9, vc9, pa9, pc9, E0, E1, _, _⟩ := HM.called (hD10 (hd { on := 10, ground := .data } (by simp) rfl))
      subst E0 E1
      obtain ⟨gg, rfl, hgg, m1, _⟩ := HM.made (hd { on := 12, ground := .data } (by simp) rfl)
      have m2 := m1 q9
      have zs0 : w'.cell? ⟨gg, 0, none⟩ = some (.string ⟨#[]⟩) := by unfold World.cell?; rw [m2]; rfl
      have zs1 : w'.cell? ⟨gg, 1, none⟩ = some (.slice none 0 0) := by unfold World.cell?; rw [m2]; rfl
      have zsf : ∀ j, w'.frozen? ⟨gg, j, none⟩ = false := fun j => by unfold World.frozen?; rw [m2]; simp
      have HM2 := (show Hid (w'.heap[gg]? = some (.cells #[.string ⟨#[]⟩, .slice none 0 0] 26 (0, 0))) from m2)
      clear m1 m2
      have HV := (show Hid (Rg.Vals l (VV (.slice va9 mo.length vc9) (.agg #[.string So, .slice pa9 po.length pc9]) c2 c3) t) from hv)
      have HQ := (show Hid (Sp10 w2 m0 s1 q1 mo So po l (.pointer (some ⟨gg, 0, none⟩)) (.slice va9 mo.length vc9) (.agg #[.string So, .slice pa9 po.length pc9]) c2 c3 w') from HM)
      clear hv hd ho HM
      refine wpOp_step rfl fun K9 hK9 => ?_
      have HKK := (show Hid _ from hK9)
      clear hK9
      go_simp
      exact HKK.out _ _ ⟨by simp [hsz], fun j => if j = 14 then (undef : Value) else t j, _, _, _, c2, c3, by simp [e10], HV.out.put 14 _ (V14 _ _ _ _).symm, HQ.out.put (by omega) rfl hgg HM2.out rfl⟩
    · obtain rfl : _ = op := Option.some.inj (show some _ = some op from ho)
      have e11 : t 11 = .bool bo := (hv 11 (hd { on := 11, ground := .data } (by simp) rfl)).trans (V11 c0 c1 c2 c3)
      obtain ⟨va9, vc9, pa9, pc9, E0, E1, _, _⟩ := HM.called (hD11 (hd { on := 11, ground := .data } (by simp) rfl))
      subst E0 E1
      have HV := (show Hid (Rg.Vals l (VV (.slice va9 mo.length vc9) (.agg #[.string So, .slice pa9 po.length pc9]) c2 c3) t) from hv)
      have HQ := (show Hid (Sp10 w2 m0 s1 q1 mo So po l x (.slice va9 mo.length vc9) (.agg #[.string So, .slice pa9 po.length pc9]) c2 c3 w') from HM)
      clear hv hd ho HM
      refine wpOp_step rfl fun K9 hK9 => ?_
      have HKK := (show Hid _ from hK9)
      clear hK9
      rw [e11]
      go_simp
      exact HKK.out _ _ ⟨by simp [hsz], fun j => if j = 15 then (.bool bo : Value) else t j, x, (.slice va9 mo.length vc9), (.agg #[.string So, .slice pa9 po.length pc9]), c2, c3, by simp [e11], HV.out.put 15 _ (V15 _ _ _ _).symm, HQ.out.other (by decide) (by decide) (by decide) (by decide) (by decide)⟩
  case fin =>
    rintro l a' r1 ⟨hsz, t, x, c0, c1, c2, c3, rfl, hv, HM⟩ hall
    have kR := HM.bel
    obtain ⟨Y, hxU, hUg, _, mU0⟩ := HM.made (hall 12 (by simp))
    obtain ⟨zp9, zq9, E1', mU⟩ := mU0 (hall 14 (by simp))
    obtain ⟨ya, yc, yp, yq, E0, E1, hM9, hT9⟩ := HM.called (hall 7 (by simp))
    obtain ⟨rfl, rfl⟩ : yp = zp9 ∧ yq = zq9 := by rw [E1] at E1'; simpa using E1'
    subst E0
    clear E1' mU0
    subst E1
    subst hxU
    have z13 := (hv 13 (hall 13 (by simp))).trans (V13 _ _ _ _)
    have z15 := (hv 15 (hall 15 (by simp))).trans (V15 _ _ _ _)
    rw [z13, z15]
    have cY0 : r1.cell? ⟨Y, 0, none⟩ = some (.string So) := by simp [World.cell?, mU]
    have cY1 : r1.cell? ⟨Y, 1, none⟩ = some (.slice yp po.length yq) := by simp [World.cell?, mU]
    have hY : Y < r1.heap.size := (Array.getElem?_eq_some_iff.1 mU).1
    have HMY := (show Hid (IsM r1 (.slice ya mo.length yc) mo) from hM9)
    have HTY := (show Hid (IsT r1 (.slice yp po.length yq) po) from hT9)
    have IHMY := (show Hid (In 0 r1.heap.size (.slice ya mo.length yc)) from in_M hM9)
    have IHTY := (show Hid (po ≠ [] → In 0 r1.heap.size (.slice yp po.length yq)) from in_T hT9)
    clear hM9 hT9 mU hv hall HM z13 z15 V0 V1 V2 V3 V4 V5 V6 V7 V8 V9 V10 V11 V12 V13 V14 V15
    replace cA0 := (kR.cell (p := ⟨B0, 0, none⟩) hB0).trans cA0
    replace cA1 := (kR.cell (p := ⟨B0, 1, none⟩) hB0).trans cA1
    replace hB0 : B0 < r1.heap.size := Nat.lt_of_lt_of_le hB0 kR.size
    replace HB := (show Hid (Below w.heap.size w r1) from HB.out.trans (kR.mono HB.out.size))
    clear kR
    have LW : w.heap.size ≤ r1.heap.size := HB.out.size
    have LY : Y < r1.heap.size := hY
    have LB : B0 < r1.heap.size := hB0
    have IHMYr := IHMY
    have hmo' : mo.length ≤ 1048576 := by omega
    have hpo' : po.length ≤ 1048576 := by omega
    go_wp2_with fail
    refine (ExM.toS_any _ a0 len0 cap0 m0 (HAM.out.below HB.out) hb0).mono ?_
    rintro e wX ⟨vX, rfl, hrX, kX⟩
    obtain ⟨xa, xc, rfl⟩ := row_slice hrX
    have BX := (show Hid (∀ k, (Value.slice xa m0.length xc).ownBlock = some k → r1.heap.size ≤ k ∧ k < wX.heap.size) from fun k e => hrX.lt k e)
    have zX : r1.heap.size ≤ wX.heap.size := kX.size
    have RX := (show Hid (wX.ownsRow r1.heap.size 83 3 (.slice xa m0.length xc) m0.length (cellsM m0)) from hrX)
    clear hrX
    replace cA0 := (kX.cell (p := ⟨B0, 0, none⟩) hB0).trans cA0
    replace cA1 := (kX.cell (p := ⟨B0, 1, none⟩) hB0).trans cA1
    replace cY0 := (kX.cell (p := ⟨Y, 0, none⟩) hY).trans cY0
    replace cY1 := (kX.cell (p := ⟨Y, 1, none⟩) hY).trans cY1
    replace hB0 : B0 < wX.heap.size := Nat.lt_of_lt_of_le hB0 kX.size
    replace hY : Y < wX.heap.size := Nat.lt_of_lt_of_le hY kX.size
    replace HMY := (show Hid (IsM wX (.slice ya mo.length yc) mo) from HMY.out.below kX)
    replace HTY := (show Hid (IsT wX (.slice yp po.length yq) po) from HTY.out.below kX)
    replace HB := (show Hid (Below w.heap.size w wX) from HB.out.trans (kX.mono HB.out.size))
    clear kX
    go_wp2_with fail
    refine (toStream_any _ s1 _ q1 (HAT.out.below HB.out) hb2).mono ?_
    rintro e wS ⟨vS, rfl, ⟨bS, hbS, hrS⟩, kS⟩
    obtain ⟨sa, sc, rfl⟩ := row_slice hrS
    have BS := (show Hid (∀ k, (Value.slice sa q1.length sc).ownBlock = some k → wX.heap.size ≤ k ∧ k < wS.heap.size) from fun k e => by have := hrS.lt k e; omega)
    have zS : wX.heap.size ≤ wS.heap.size := kS.size
    have RS := (show Hid (wS.ownsRow bS 79 2 (.slice sa q1.length sc) q1.length (cellsT q1)) from hrS)
    clear hrS hbS
    replace cA0 := (kS.cell (p := ⟨B0, 0, none⟩) hB0).trans cA0
    replace cA1 := (kS.cell (p := ⟨B0, 1, none⟩) hB0).trans cA1
    replace cY0 := (kS.cell (p := ⟨Y, 0, none⟩) hY).trans cY0
    replace cY1 := (kS.cell (p := ⟨Y, 1, none⟩) hY).trans cY1
    replace hB0 : B0 < wS.heap.size := Nat.lt_of_lt_of_le hB0 kS.size
    replace hY : Y < wS.heap.size := Nat.lt_of_lt_of_le hY kS.size
    replace HMY := (show Hid (IsM wS (.slice ya mo.length yc) mo) from HMY.out.below kS)
    replace HTY := (show Hid (IsT wS (.slice yp po.length yq) po) from HTY.out.below kS)
    replace RX := (show Hid ((wS).ownsRow r1.heap.size 83 3 (.slice xa m0.length xc) m0.length (cellsM m0)) from row_below RX.out kS)
    replace HB := (show Hid (Below w.heap.size w wS) from HB.out.trans (kS.mono HB.out.size))
    clear kS
    have bz : Below wS.heap.size wS (wS.alloc (.cells #[.string s1, .slice sa q1.length sc] 26)) := (Below.refl _ _).alloc (Nat.le_refl _) _
    have x0 : (wS.alloc (.cells #[.string s1, .slice sa q1.length sc] 26)).cell? ⟨wS.heap.size, 0, none⟩ = some (.string s1) := by simp
    have x1 : (wS.alloc (.cells #[.string s1, .slice sa q1.length sc] 26)).cell? ⟨wS.heap.size, 1, none⟩ = some (.slice sa q1.length sc) := by simp
    have hx : wS.heap.size < (wS.alloc (.cells #[.string s1, .slice sa q1.length sc] 26)).heap.size := by simp
    replace cA0 := (bz.cell (p := ⟨B0, 0, none⟩) hB0).trans cA0
    replace cA1 := (bz.cell (p := ⟨B0, 1, none⟩) hB0).trans cA1
    replace cY0 := (bz.cell (p := ⟨Y, 0, none⟩) hY).trans cY0
    replace cY1 := (bz.cell (p := ⟨Y, 1, none⟩) hY).trans cY1
    replace hB0 : B0 < (wS.alloc (.cells #[.string s1, .slice sa q1.length sc] 26)).heap.size := Nat.lt_of_lt_of_le hB0 bz.size
    replace hY : Y < (wS.alloc (.cells #[.string s1, .slice sa q1.length sc] 26)).heap.size := Nat.lt_of_lt_of_le hY bz.size
    replace HMY := (show Hid (IsM (wS.alloc (.cells #[.string s1, .slice sa q1.length sc] 26)) (.slice ya mo.length yc) mo) from HMY.out.below bz)
    replace HTY := (show Hid (IsT (wS.alloc (.cells #[.string s1, .slice sa q1.length sc] 26)) (.slice yp po.length yq) po) from HTY.out.below bz)
    replace RX := (show Hid (((wS.alloc (.cells #[.string s1, .slice sa q1.length sc] 26))).ownsRow r1.heap.size 83 3 (.slice xa m0.length xc) m0.length (cellsM m0)) from row_below RX.out bz)
    replace RS := (show Hid (((wS.alloc (.cells #[.string s1, .slice sa q1.length sc] 26))).ownsRow bS 79 2 (.slice sa q1.length sc) q1.length (cellsT q1)) from row_below RS.out bz)
    replace HB := (show Hid (Below w.heap.size w (wS.alloc (.cells #[.string s1, .slice sa q1.length sc] 26))) from HB.out.trans (bz.mono HB.out.size))
    clear bz
    go_wp2_with fail
    obtain ⟨D, hBe⟩ : ∃ D, wS.heap.size = D := ⟨_, rfl⟩
    have LD : wS.heap.size ≤ D := by omega
    have LD' : D ≤ wS.heap.size := by omega
    rw [hBe] at x0 x1 hx ⊢
    clear hBe
    generalize (wS.alloc (.cells #[.string s1, .slice sa q1.length sc] 26)) = uS at *
    have cD0 := x0
    have cD1 := x1
    have hD : D < uS.heap.size := hx
    have SD : D < uS.heap.size := hx
    clear x0 x1 hx
    refine (iput_x _ _ m0 (isM_of_row RX.out) s1 _ q1 (isT_of_row RS.out) a2 s3 a4 (HER.out.below HB.out) HZ.out).mono ?_
    rintro e wG ⟨ga, gc, gp, gq, rfl, hrG, hrH, hne, kG⟩
    have BG := (show Hid (∀ k, (Value.slice ga mo.length gc).ownBlock = some k → uS.heap.size ≤ k ∧ k < wG.heap.size) from fun k e => hrG.lt k e)
    have BH := (show Hid (∀ k, (Value.slice gp po.length gq).ownBlock = some k → uS.heap.size ≤ k ∧ k < wG.heap.size) from fun k e => hrH.lt k e)
    have zG : uS.heap.size ≤ wG.heap.size := kG.size
    have NE := (show Hid ((Value.slice ga mo.length gc).ownBlock = none ∨ (Value.slice ga mo.length gc).ownBlock ≠ (Value.slice gp po.length gq).ownBlock) from hne)
    have RG := (show Hid (wG.ownsRow uS.heap.size 83 3 (.slice ga mo.length gc) mo.length (cellsM mo)) from hrG)
    have RH := (show Hid (wG.ownsRow uS.heap.size 79 2 (.slice gp po.length gq) po.length (cellsT po)) from hrH)
    clear hrG hrH hne
    replace cA0 := (kG.cell (p := ⟨B0, 0, none⟩) hB0).trans cA0
    replace cA1 := (kG.cell (p := ⟨B0, 1, none⟩) hB0).trans cA1
    replace cY0 := (kG.cell (p := ⟨Y, 0, none⟩) hY).trans cY0
    replace cY1 := (kG.cell (p := ⟨Y, 1, none⟩) hY).trans cY1
    replace cD0 := (kG.cell (p := ⟨D, 0, none⟩) hD).trans cD0
    replace cD1 := (kG.cell (p := ⟨D, 1, none⟩) hD).trans cD1
    replace hB0 : B0 < wG.heap.size := Nat.lt_of_lt_of_le hB0 kG.size
    replace hD : D < wG.heap.size := Nat.lt_of_lt_of_le hD kG.size
    replace hY : Y < wG.heap.size := Nat.lt_of_lt_of_le hY kG.size
    replace HMY := (show Hid (IsM wG (.slice ya mo.length yc) mo) from HMY.out.below kG)
    replace HTY := (show Hid (IsT wG (.slice yp po.length yq) po) from HTY.out.below kG)
    replace RX := (show Hid ((wG).ownsRow r1.heap.size 83 3 (.slice xa m0.length xc) m0.length (cellsM m0)) from row_below RX.out kG)
    replace RS := (show Hid ((wG).ownsRow bS 79 2 (.slice sa q1.length sc) q1.length (cellsT q1)) from row_below RS.out kG)
    replace HB := (show Hid (Below w.heap.size w wG) from HB.out.trans (kG.mono HB.out.size))
    clear kG
    have bz : Below wG.heap.size wG (wG.alloc (.cells #[.string So, .slice gp po.length gq] 26)) := (Below.refl _ _).alloc (Nat.le_refl _) _
    have x0 : (wG.alloc (.cells #[.string So, .slice gp po.length gq] 26)).cell? ⟨wG.heap.size, 0, none⟩ = some (.string So) := by simp
    have x1 : (wG.alloc (.cells #[.string So, .slice gp po.length gq] 26)).cell? ⟨wG.heap.size, 1, none⟩ = some (.slice gp po.length gq) := by simp
    have hx : wG.heap.size < (wG.alloc (.cells #[.string So, .slice gp po.length gq] 26)).heap.size := by simp
    replace cA0 := (bz.cell (p := ⟨B0, 0, none⟩) hB0).trans cA0
    replace cA1 := (bz.cell (p := ⟨B0, 1, none⟩) hB0).trans cA1
    replace cY0 := (bz.cell (p := ⟨Y, 0, none⟩) hY).trans cY0
    replace cY1 := (bz.cell (p := ⟨Y, 1, none⟩) hY).trans cY1
    replace cD0 := (bz.cell (p := ⟨D, 0, none⟩) hD).trans cD0
    replace cD1 := (bz.cell (p := ⟨D, 1, none⟩) hD).trans cD1
    replace hB0 : B0 < (wG.alloc (.cells #[.string So, .slice gp po.length gq] 26)).heap.size := Nat.lt_of_lt_of_le hB0 bz.size
    replace hD : D < (wG.alloc (.cells #[.string So, .slice gp po.length gq] 26)).heap.size := Nat.lt_of_lt_of_le hD bz.size
    replace hY : Y < (wG.alloc (.cells #[.string So, .slice gp po.length gq] 26)).heap.size := Nat.lt_of_lt_of_le hY bz.size
    replace HMY := (show Hid (IsM (wG.alloc (.cells #[.string So, .slice gp po.length gq] 26)) (.slice ya mo.length yc) mo) from HMY.out.below bz)
    replace HTY := (show Hid (IsT (wG.alloc (.cells #[.string So, .slice gp po.length gq] 26)) (.slice yp po.length yq) po) from HTY.out.below bz)
    replace RX := (show Hid (((wG.alloc (.cells #[.string So, .slice gp po.length gq] 26))).ownsRow r1.heap.size 83 3 (.slice xa m0.length xc) m0.length (cellsM m0)) from row_below RX.out bz)
    replace RS := (show Hid (((wG.alloc (.cells #[.string So, .slice gp po.length gq] 26))).ownsRow bS 79 2 (.slice sa q1.length sc) q1.length (cellsT q1)) from row_below RS.out bz)
    replace RG := (show Hid (((wG.alloc (.cells #[.string So, .slice gp po.length gq] 26))).ownsRow uS.heap.size 83 3 (.slice ga mo.length gc) mo.length (cellsM mo)) from row_below RG.out bz)
    replace RH := (show Hid (((wG.alloc (.cells #[.string So, .slice gp po.length gq] 26))).ownsRow uS.heap.size 79 2 (.slice gp po.length gq) po.length (cellsT po)) from row_below RH.out bz)
    replace HB := (show Hid (Below w.heap.size w (wG.alloc (.cells #[.string So, .slice gp po.length gq] 26))) from HB.out.trans (bz.mono HB.out.size))
    clear bz
    go_wp2_with fail
    obtain ⟨G, hBe⟩ : ∃ G, wG.heap.size = G := ⟨_, rfl⟩
    have LG : wG.heap.size ≤ G := by omega
    have LG' : G ≤ wG.heap.size := by omega
    rw [hBe] at x0 x1 hx ⊢
    clear hBe
    generalize (wG.alloc (.cells #[.string So, .slice gp po.length gq] 26)) = uG at *
    have cG0 := x0
    have cG1 := x1
    have hG : G < uG.heap.size := hx
    have SG : G < uG.heap.size := hx
    clear x0 x1 hx
    refine (ExM.eqM_true _ mo hmo' _ _ (isM_of_row RG.out) HMY.out).mono ?_
    rintro e v1 ⟨rfl, k51⟩
    replace cA0 := (k51.cell (p := ⟨B0, 0, none⟩) hB0).trans cA0
    replace cA1 := (k51.cell (p := ⟨B0, 1, none⟩) hB0).trans cA1
    replace cY0 := (k51.cell (p := ⟨Y, 0, none⟩) hY).trans cY0
    replace cY1 := (k51.cell (p := ⟨Y, 1, none⟩) hY).trans cY1
    replace cD0 := (k51.cell (p := ⟨D, 0, none⟩) hD).trans cD0
    replace cD1 := (k51.cell (p := ⟨D, 1, none⟩) hD).trans cD1
    replace cG0 := (k51.cell (p := ⟨G, 0, none⟩) hG).trans cG0
    replace cG1 := (k51.cell (p := ⟨G, 1, none⟩) hG).trans cG1
    replace hB0 : B0 < v1.heap.size := Nat.lt_of_lt_of_le hB0 k51.size
    replace hD : D < v1.heap.size := Nat.lt_of_lt_of_le hD k51.size
    replace hG : G < v1.heap.size := Nat.lt_of_lt_of_le hG k51.size
    replace hY : Y < v1.heap.size := Nat.lt_of_lt_of_le hY k51.size
    replace HMY := (show Hid (IsM v1 (.slice ya mo.length yc) mo) from HMY.out.below k51)
    replace HTY := (show Hid (IsT v1 (.slice yp po.length yq) po) from HTY.out.below k51)
    replace RX := (show Hid ((v1).ownsRow r1.heap.size 83 3 (.slice xa m0.length xc) m0.length (cellsM m0)) from row_below RX.out k51)
    replace RS := (show Hid ((v1).ownsRow bS 79 2 (.slice sa q1.length sc) q1.length (cellsT q1)) from row_below RS.out k51)
    replace RG := (show Hid ((v1).ownsRow uS.heap.size 83 3 (.slice ga mo.length gc) mo.length (cellsM mo)) from row_below RG.out k51)
    replace RH := (show Hid ((v1).ownsRow uS.heap.size 79 2 (.slice gp po.length gq) po.length (cellsT po)) from row_below RH.out k51)
    replace HB := (show Hid (Below w.heap.size w v1) from HB.out.trans (k51.mono HB.out.size))
    clear k51
    go_wp2_with fail
    refine (eqStream_true _ So po hpo' _ _ (isT_of_row RH.out) HTY.out).mono ?_
    rintro e v2 ⟨rfl, k52⟩
    replace cA0 := (k52.cell (p := ⟨B0, 0, none⟩) hB0).trans cA0
    replace cA1 := (k52.cell (p := ⟨B0, 1, none⟩) hB0).trans cA1
    replace cY0 := (k52.cell (p := ⟨Y, 0, none⟩) hY).trans cY0
    replace cY1 := (k52.cell (p := ⟨Y, 1, none⟩) hY).trans cY1
    replace cD0 := (k52.cell (p := ⟨D, 0, none⟩) hD).trans cD0
    replace cD1 := (k52.cell (p := ⟨D, 1, none⟩) hD).trans cD1
    replace cG0 := (k52.cell (p := ⟨G, 0, none⟩) hG).trans cG0
    replace cG1 := (k52.cell (p := ⟨G, 1, none⟩) hG).trans cG1
    replace hB0 : B0 < v2.heap.size := Nat.lt_of_lt_of_le hB0 k52.size
    replace hD : D < v2.heap.size := Nat.lt_of_lt_of_le hD k52.size
    replace hG : G < v2.heap.size := Nat.lt_of_lt_of_le hG k52.size
    replace hY : Y < v2.heap.size := Nat.lt_of_lt_of_le hY k52.size
    replace HMY := (show Hid (IsM v2 (.slice ya mo.length yc) mo) from HMY.out.below k52)
    replace HTY := (show Hid (IsT v2 (.slice yp po.length yq) po) from HTY.out.below k52)
    replace RX := (show Hid ((v2).ownsRow r1.heap.size 83 3 (.slice xa m0.length xc) m0.length (cellsM m0)) from row_below RX.out k52)
    replace RS := (show Hid ((v2).ownsRow bS 79 2 (.slice sa q1.length sc) q1.length (cellsT q1)) from row_below RS.out k52)
    replace RG := (show Hid ((v2).ownsRow uS.heap.size 83 3 (.slice ga mo.length gc) mo.length (cellsM mo)) from row_below RG.out k52)
    replace RH := (show Hid ((v2).ownsRow uS.heap.size 79 2 (.slice gp po.length gq) po.length (cellsT po)) from row_below RH.out k52)
    replace HB := (show Hid (Below w.heap.size w v2) from HB.out.trans (k52.mono HB.out.size))
    clear k52
    go_wp2_with fail
    refine (ExM.toS_any _ a0 len0 cap0 m0 (HAM.out.below HB.out) hb0).mono ?_
    rintro e wP ⟨vP, rfl, hrP, kP⟩
    have MP := (show Hid (IsM wP vP m0) from isM_of_row hrP)
    clear hrP
    replace cA0 := (kP.cell (p := ⟨B0, 0, none⟩) hB0).trans cA0
    replace cA1 := (kP.cell (p := ⟨B0, 1, none⟩) hB0).trans cA1
    replace cY0 := (kP.cell (p := ⟨Y, 0, none⟩) hY).trans cY0
    replace cY1 := (kP.cell (p := ⟨Y, 1, none⟩) hY).trans cY1
    replace cD0 := (kP.cell (p := ⟨D, 0, none⟩) hD).trans cD0
    replace cD1 := (kP.cell (p := ⟨D, 1, none⟩) hD).trans cD1
    replace cG0 := (kP.cell (p := ⟨G, 0, none⟩) hG).trans cG0
    replace cG1 := (kP.cell (p := ⟨G, 1, none⟩) hG).trans cG1
    replace hB0 : B0 < wP.heap.size := Nat.lt_of_lt_of_le hB0 kP.size
    replace hD : D < wP.heap.size := Nat.lt_of_lt_of_le hD kP.size
    replace hG : G < wP.heap.size := Nat.lt_of_lt_of_le hG kP.size
    replace hY : Y < wP.heap.size := Nat.lt_of_lt_of_le hY kP.size
    replace HMY := (show Hid (IsM wP (.slice ya mo.length yc) mo) from HMY.out.below kP)
    replace HTY := (show Hid (IsT wP (.slice yp po.length yq) po) from HTY.out.below kP)
    replace RX := (show Hid ((wP).ownsRow r1.heap.size 83 3 (.slice xa m0.length xc) m0.length (cellsM m0)) from row_below RX.out kP)
    replace RS := (show Hid ((wP).ownsRow bS 79 2 (.slice sa q1.length sc) q1.length (cellsT q1)) from row_below RS.out kP)
    replace RG := (show Hid ((wP).ownsRow uS.heap.size 83 3 (.slice ga mo.length gc) mo.length (cellsM mo)) from row_below RG.out kP)
    replace RH := (show Hid ((wP).ownsRow uS.heap.size 79 2 (.slice gp po.length gq) po.length (cellsT po)) from row_below RH.out kP)
    replace HB := (show Hid (Below w.heap.size w wP) from HB.out.trans (kP.mono HB.out.size))
    clear kP
    go_wp2_with fail
    refine (ExM.eqM_true _ m0 hb0 _ _ (isM_of_row RX.out) MP.out).mono ?_
    rintro e v4 ⟨rfl, k54⟩
    replace cA0 := (k54.cell (p := ⟨B0, 0, none⟩) hB0).trans cA0
    replace cA1 := (k54.cell (p := ⟨B0, 1, none⟩) hB0).trans cA1
    replace cY0 := (k54.cell (p := ⟨Y, 0, none⟩) hY).trans cY0
    replace cY1 := (k54.cell (p := ⟨Y, 1, none⟩) hY).trans cY1
    replace cD0 := (k54.cell (p := ⟨D, 0, none⟩) hD).trans cD0
    replace cD1 := (k54.cell (p := ⟨D, 1, none⟩) hD).trans cD1
    replace cG0 := (k54.cell (p := ⟨G, 0, none⟩) hG).trans cG0
    replace cG1 := (k54.cell (p := ⟨G, 1, none⟩) hG).trans cG1
    replace hB0 : B0 < v4.heap.size := Nat.lt_of_lt_of_le hB0 k54.size
    replace hD : D < v4.heap.size := Nat.lt_of_lt_of_le hD k54.size
    replace hG : G < v4.heap.size := Nat.lt_of_lt_of_le hG k54.size
    replace hY : Y < v4.heap.size := Nat.lt_of_lt_of_le hY k54.size
    replace HMY := (show Hid (IsM v4 (.slice ya mo.length yc) mo) from HMY.out.below k54)
    replace HTY := (show Hid (IsT v4 (.slice yp po.length yq) po) from HTY.out.below k54)
    replace RX := (show Hid ((v4).ownsRow r1.heap.size 83 3 (.slice xa m0.length xc) m0.length (cellsM m0)) from row_below RX.out k54)
    replace RS := (show Hid ((v4).ownsRow bS 79 2 (.slice sa q1.length sc) q1.length (cellsT q1)) from row_below RS.out k54)
    replace RG := (show Hid ((v4).ownsRow uS.heap.size 83 3 (.slice ga mo.length gc) mo.length (cellsM mo)) from row_below RG.out k54)
    replace RH := (show Hid ((v4).ownsRow uS.heap.size 79 2 (.slice gp po.length gq) po.length (cellsT po)) from row_below RH.out k54)
    replace HB := (show Hid (Below w.heap.size w v4) from HB.out.trans (k54.mono HB.out.size))
    clear k54
    clear MP
    go_upto_region 18 with fail
    go_region_with (first
      | (go_at_call 18
         refine (toStream_any _ s1 _ q1 (by exact HAT.out.below ⟨HB.out.os, HB.out.tape, HB.out.output, HB.out.size, HB.out.block⟩) hb2).mono ?_
         rintro e wT ⟨vT, rfl, ⟨bT, _, hrT⟩, kT'⟩
         have kT : Below v4.heap.size v4 wT := ⟨kT'.os, kT'.tape, kT'.output, kT'.size, kT'.block⟩
         obtain ⟨ta9, tc9, rfl⟩ := row_slice hrT
         have MT := isT_of_row hrT
         have MS := isT_of_row (row_below RS.out kT)
         have dD0 := (kT.cell (p := ⟨D, 0, none⟩) hD).trans cD0
         have dD1 := (kT.cell (p := ⟨D, 1, none⟩) hD).trans cD1
         clear hrT kT')
      | (go_at_call 20
         refine (eqStream_true _ s1 q1 hb2 _ _ (by first | exact MS | exact MS.below (Below.refl _ _).drew | exact MS.below (Below.refl _ _).drew.drew | exact MS.below (Below.refl _ _).drew.drew.drew) (by first | exact MT | exact MT.below (Below.refl _ _).drew | exact MT.below (Below.refl _ _).drew.drew | exact MT.below (Below.refl _ _).drew.drew.drew)).mono ?_
         rintro e wE ⟨rfl, kE'⟩
         have kE : Below wT.heap.size wT wE := ⟨kE'.os, kE'.tape, kE'.output, kE'.size, kE'.block⟩
         clear kE'))
    all_goals
      have kR := kT.trans (kE.mono kT.size)
      clear MT MS dD0 dD1 kT kE
      replace cA0 := (kR.cell (p := ⟨B0, 0, none⟩) hB0).trans cA0
      replace cA1 := (kR.cell (p := ⟨B0, 1, none⟩) hB0).trans cA1
      replace cY0 := (kR.cell (p := ⟨Y, 0, none⟩) hY).trans cY0
      replace cY1 := (kR.cell (p := ⟨Y, 1, none⟩) hY).trans cY1
      replace cD0 := (kR.cell (p := ⟨D, 0, none⟩) hD).trans cD0
      replace cD1 := (kR.cell (p := ⟨D, 1, none⟩) hD).trans cD1
      replace cG0 := (kR.cell (p := ⟨G, 0, none⟩) hG).trans cG0
      replace cG1 := (kR.cell (p := ⟨G, 1, none⟩) hG).trans cG1
      replace hB0 : B0 < wE.heap.size := Nat.lt_of_lt_of_le hB0 kR.size
      replace hD : D < wE.heap.size := Nat.lt_of_lt_of_le hD kR.size
      replace hG : G < wE.heap.size := Nat.lt_of_lt_of_le hG kR.size
      replace hY : Y < wE.heap.size := Nat.lt_of_lt_of_le hY kR.size
      replace HMY := (show Hid (IsM wE (.slice ya mo.length yc) mo) from HMY.out.below kR)
      replace HTY := (show Hid (IsT wE (.slice yp po.length yq) po) from HTY.out.below kR)
      replace RX := (show Hid ((wE).ownsRow r1.heap.size 83 3 (.slice xa m0.length xc) m0.length (cellsM m0)) from row_below RX.out kR)
      replace RS := (show Hid ((wE).ownsRow bS 79 2 (.slice sa q1.length sc) q1.length (cellsT q1)) from row_below RS.out kR)
      replace RG := (show Hid ((wE).ownsRow uS.heap.size 83 3 (.slice ga mo.length gc) mo.length (cellsM mo)) from row_below RG.out kR)
      replace RH := (show Hid ((wE).ownsRow uS.heap.size 79 2 (.slice gp po.length gq) po.length (cellsT po)) from row_below RH.out kR)
      replace HB := (show Hid (Below w.heap.size w wE) from HB.out.trans (kR.mono HB.out.size))
      clear kR
      have hb1m : m0.length ≤ 1048576 := hb0
      obtain ⟨K1, hK1⟩ : ∃ K1 : Nat, 1 + m0.length * 3 = K1 := ⟨_, rfl⟩
      have HK1 := (show Hid (1 + m0.length * 3 = K1) from hK1)
      have bK1 : 1 ≤ K1 ∧ K1 ≤ 4000000 := by omega
      have cK1 : 1 ≤ K1 := bK1.1
      have dK1 : K1 ≤ 4000000 := bK1.2
      have nK1 : ¬ (K1 : Int) < 0 := by omega
      clear hK1 bK1
      obtain ⟨K2, hK2⟩ : ∃ K2 : Nat, K1 + q1.length * 2 = K2 := ⟨_, rfl⟩
      have HK2 := (show Hid (K1 + q1.length * 2 = K2) from hK2)
      have nK2 : ¬ (K2 : Int) < 0 := by omega
      clear hK2
      obtain ⟨K3, hK3⟩ : ∃ K3 : Nat, 1 + mo.length * 3 = K3 := ⟨_, rfl⟩
      have HK3 := (show Hid (1 + mo.length * 3 = K3) from hK3)
      have bK3 : 1 ≤ K3 ∧ K3 ≤ 4000000 := by omega
      have cK3 : 1 ≤ K3 := bK3.1
      have dK3 : K3 ≤ 4000000 := bK3.2
      have nK3 : ¬ (K3 : Int) < 0 := by omega
      clear hK3 bK3
      obtain ⟨K4, hK4⟩ : ∃ K4 : Nat, K3 + po.length * 2 = K4 := ⟨_, rfl⟩
      have HK4 := (show Hid (K3 + po.length * 2 = K4) from hK4)
      have nK4 : ¬ (K4 : Int) < 0 := by omega
      clear hK4
      go_wp2_with fail
      refine (ExM.mark_any _ _ _ _ m0.length _ RX.out hb0).mono ?_
      rintro e wM ⟨rfl, gM, _⟩
      rw [HK1.out]
      replace cA0 := cell_grown cA0 gM (fun r e => by have := BX.out r e; omega)
      replace cA1 := cell_grown cA1 gM (fun r e => by have := BX.out r e; omega)
      replace cY0 := cell_grown cY0 gM (fun r e => by have := BX.out r e; omega)
      replace cY1 := cell_grown cY1 gM (fun r e => by have := BX.out r e; omega)
      replace cD0 := cell_grown cD0 gM (fun r e => by have := BX.out r e; omega)
      replace cD1 := cell_grown cD1 gM (fun r e => by have := BX.out r e; omega)
      replace cG0 := cell_grown cG0 gM (fun r e => by have := BX.out r e; omega)
      replace cG1 := cell_grown cG1 gM (fun r e => by have := BX.out r e; omega)
      replace hB0 : B0 < wM.heap.size := Nat.lt_of_lt_of_le hB0 gM.size
      replace hD : D < wM.heap.size := Nat.lt_of_lt_of_le hD gM.size
      replace hG : G < wM.heap.size := Nat.lt_of_lt_of_le hG gM.size
      replace hY : Y < wM.heap.size := Nat.lt_of_lt_of_le hY gM.size
      replace HMY := (show Hid (IsM wM (.slice ya mo.length yc) mo) from isM_grown HMY.out IHMY.out gM (fun r e => by have := BX.out r e; omega))
      replace HTY := (show Hid (IsT wM (.slice yp po.length yq) po) from isT_grown HTY.out IHTY.out gM (fun r e => by have := BX.out r e; omega))
      replace RS := (show Hid ((wM).ownsRow bS 79 2 (.slice sa q1.length sc) q1.length (cellsT q1)) from RS.out.kept gM (apart BS.out BX.out (by omega)))
      replace RG := (show Hid ((wM).ownsRow uS.heap.size 83 3 (.slice ga mo.length gc) mo.length (cellsM mo)) from RG.out.kept gM (apart BG.out BX.out (by omega)))
      replace RH := (show Hid ((wM).ownsRow uS.heap.size 79 2 (.slice gp po.length gq) po.length (cellsT po)) from RH.out.kept gM (apart BH.out BX.out (by omega)))
      replace HB := (show Hid (Below w.heap.size w wM) from HB.out.grown gM HB.out.size (fun r e => by have := BX.out r e; omega))
      clear gM
      go_wp2_with fail
      refine (ExY.markS_any _ _ _ s1 sa q1.length sc _ RS.out hb2 K1 cK1 dK1).mono ?_
      rintro e wN ⟨rfl, gN, _⟩
      rw [HK2.out]
      replace cA0 := cell_grown cA0 gN (fun r e => by have := BS.out r e; omega)
      replace cA1 := cell_grown cA1 gN (fun r e => by have := BS.out r e; omega)
      replace cY0 := cell_grown cY0 gN (fun r e => by have := BS.out r e; omega)
      replace cY1 := cell_grown cY1 gN (fun r e => by have := BS.out r e; omega)
      replace cD0 := cell_grown cD0 gN (fun r e => by have := BS.out r e; omega)
      replace cD1 := cell_grown cD1 gN (fun r e => by have := BS.out r e; omega)
      replace cG0 := cell_grown cG0 gN (fun r e => by have := BS.out r e; omega)
      replace cG1 := cell_grown cG1 gN (fun r e => by have := BS.out r e; omega)
      replace hB0 : B0 < wN.heap.size := Nat.lt_of_lt_of_le hB0 gN.size
      replace hD : D < wN.heap.size := Nat.lt_of_lt_of_le hD gN.size
      replace hG : G < wN.heap.size := Nat.lt_of_lt_of_le hG gN.size
      replace hY : Y < wN.heap.size := Nat.lt_of_lt_of_le hY gN.size
      replace HMY := (show Hid (IsM wN (.slice ya mo.length yc) mo) from isM_grown HMY.out IHMY.out gN (fun r e => by have := BS.out r e; omega))
      replace HTY := (show Hid (IsT wN (.slice yp po.length yq) po) from isT_grown HTY.out IHTY.out gN (fun r e => by have := BS.out r e; omega))
      replace RG := (show Hid ((wN).ownsRow uS.heap.size 83 3 (.slice ga mo.length gc) mo.length (cellsM mo)) from RG.out.kept gN (apart BG.out BS.out (by omega)))
      replace RH := (show Hid ((wN).ownsRow uS.heap.size 79 2 (.slice gp po.length gq) po.length (cellsT po)) from RH.out.kept gN (apart BH.out BS.out (by omega)))
      replace HB := (show Hid (Below w.heap.size w wN) from HB.out.grown gN HB.out.size (fun r e => by have := BS.out r e; omega))
      clear gN
      go_wp2_with fail
      refine (ExM.eqM_true _ mo hmo' _ _ (isM_of_row RG.out) HMY.out).mono ?_
      rintro e v5 ⟨rfl, k55⟩
      replace cA0 := (k55.cell (p := ⟨B0, 0, none⟩) hB0).trans cA0
      replace cA1 := (k55.cell (p := ⟨B0, 1, none⟩) hB0).trans cA1
      replace cY0 := (k55.cell (p := ⟨Y, 0, none⟩) hY).trans cY0
      replace cY1 := (k55.cell (p := ⟨Y, 1, none⟩) hY).trans cY1
      replace cD0 := (k55.cell (p := ⟨D, 0, none⟩) hD).trans cD0
      replace cD1 := (k55.cell (p := ⟨D, 1, none⟩) hD).trans cD1
      replace cG0 := (k55.cell (p := ⟨G, 0, none⟩) hG).trans cG0
      replace cG1 := (k55.cell (p := ⟨G, 1, none⟩) hG).trans cG1
      replace hB0 : B0 < v5.heap.size := Nat.lt_of_lt_of_le hB0 k55.size
      replace hD : D < v5.heap.size := Nat.lt_of_lt_of_le hD k55.size
      replace hG : G < v5.heap.size := Nat.lt_of_lt_of_le hG k55.size
      replace hY : Y < v5.heap.size := Nat.lt_of_lt_of_le hY k55.size
      replace HMY := (show Hid (IsM v5 (.slice ya mo.length yc) mo) from HMY.out.below k55)
      replace HTY := (show Hid (IsT v5 (.slice yp po.length yq) po) from HTY.out.below k55)
      replace RG := (show Hid ((v5).ownsRow uS.heap.size 83 3 (.slice ga mo.length gc) mo.length (cellsM mo)) from row_below RG.out k55)
      replace RH := (show Hid ((v5).ownsRow uS.heap.size 79 2 (.slice gp po.length gq) po.length (cellsT po)) from row_below RH.out k55)
      replace HB := (show Hid (Below w.heap.size w v5) from HB.out.trans (k55.mono HB.out.size))
      clear k55
      go_wp2_with fail
      refine (eqStream_true _ So po hpo' _ _ (isT_of_row RH.out) HTY.out).mono ?_
      rintro e v6 ⟨rfl, k56⟩
      replace cA0 := (k56.cell (p := ⟨B0, 0, none⟩) hB0).trans cA0
      replace cA1 := (k56.cell (p := ⟨B0, 1, none⟩) hB0).trans cA1
      replace cY0 := (k56.cell (p := ⟨Y, 0, none⟩) hY).trans cY0
      replace cY1 := (k56.cell (p := ⟨Y, 1, none⟩) hY).trans cY1
      replace cD0 := (k56.cell (p := ⟨D, 0, none⟩) hD).trans cD0
      replace cD1 := (k56.cell (p := ⟨D, 1, none⟩) hD).trans cD1
      replace cG0 := (k56.cell (p := ⟨G, 0, none⟩) hG).trans cG0
      replace cG1 := (k56.cell (p := ⟨G, 1, none⟩) hG).trans cG1
      replace hB0 : B0 < v6.heap.size := Nat.lt_of_lt_of_le hB0 k56.size
      replace hD : D < v6.heap.size := Nat.lt_of_lt_of_le hD k56.size
      replace hG : G < v6.heap.size := Nat.lt_of_lt_of_le hG k56.size
      replace hY : Y < v6.heap.size := Nat.lt_of_lt_of_le hY k56.size
      replace HMY := (show Hid (IsM v6 (.slice ya mo.length yc) mo) from HMY.out.below k56)
      replace HTY := (show Hid (IsT v6 (.slice yp po.length yq) po) from HTY.out.below k56)
      replace RG := (show Hid ((v6).ownsRow uS.heap.size 83 3 (.slice ga mo.length gc) mo.length (cellsM mo)) from row_below RG.out k56)
      replace RH := (show Hid ((v6).ownsRow uS.heap.size 79 2 (.slice gp po.length gq) po.length (cellsT po)) from row_below RH.out k56)
      replace HB := (show Hid (Below w.heap.size w v6) from HB.out.trans (k56.mono HB.out.size))
      clear k56
      go_wp2_with fail
      refine (ExM.mark_any _ _ _ _ mo.length _ RG.out hmo').mono ?_
      rintro e wO ⟨rfl, gO, hMG⟩
      rw [HK3.out]
      replace cA0 := cell_grown cA0 gO (fun r e => by have := BG.out r e; omega)
      replace cA1 := cell_grown cA1 gO (fun r e => by have := BG.out r e; omega)
      replace cY0 := cell_grown cY0 gO (fun r e => by have := BG.out r e; omega)
      replace cY1 := cell_grown cY1 gO (fun r e => by have := BG.out r e; omega)
      replace cD0 := cell_grown cD0 gO (fun r e => by have := BG.out r e; omega)
      replace cD1 := cell_grown cD1 gO (fun r e => by have := BG.out r e; omega)
      replace cG0 := cell_grown cG0 gO (fun r e => by have := BG.out r e; omega)
      replace cG1 := cell_grown cG1 gO (fun r e => by have := BG.out r e; omega)
      replace hB0 : B0 < wO.heap.size := Nat.lt_of_lt_of_le hB0 gO.size
      replace hD : D < wO.heap.size := Nat.lt_of_lt_of_le hD gO.size
      replace hG : G < wO.heap.size := Nat.lt_of_lt_of_le hG gO.size
      replace hY : Y < wO.heap.size := Nat.lt_of_lt_of_le hY gO.size
      replace HMY := (show Hid (IsM wO (.slice ya mo.length yc) mo) from isM_grown HMY.out IHMY.out gO (fun r e => by have := BG.out r e; omega))
      replace HTY := (show Hid (IsT wO (.slice yp po.length yq) po) from isT_grown HTY.out IHTY.out gO (fun r e => by have := BG.out r e; omega))
      replace RH := (show Hid ((wO).ownsRow uS.heap.size 79 2 (.slice gp po.length gq) po.length (cellsT po)) from RH.out.kept gO (apart2 NE.out))
      replace HB := (show Hid (Below w.heap.size w wO) from HB.out.grown gO HB.out.size (fun r e => by have := BG.out r e; omega))
      clear gO
      go_wp2_with fail
      refine (ExY.markS_any _ _ _ So gp po.length gq _ RH.out hpo' K3 cK3 dK3).mono ?_
      rintro e wQ ⟨rfl, gQ, hMH⟩
      rw [HK4.out]
      have VG := (show Hid (ExM.MarksV wQ (.slice ga mo.length gc) mo.length) from marksV_grown hMG gQ NE.out)
      have VH := (show Hid (ExY.MarksS wQ (.slice gp po.length gq) po.length K3) from hMH)
      clear hMG hMH
      replace cA0 := cell_grown cA0 gQ (fun r e => by have := BH.out r e; omega)
      replace cA1 := cell_grown cA1 gQ (fun r e => by have := BH.out r e; omega)
      replace cY0 := cell_grown cY0 gQ (fun r e => by have := BH.out r e; omega)
      replace cY1 := cell_grown cY1 gQ (fun r e => by have := BH.out r e; omega)
      replace cD0 := cell_grown cD0 gQ (fun r e => by have := BH.out r e; omega)
      replace cD1 := cell_grown cD1 gQ (fun r e => by have := BH.out r e; omega)
      replace cG0 := cell_grown cG0 gQ (fun r e => by have := BH.out r e; omega)
      replace cG1 := cell_grown cG1 gQ (fun r e => by have := BH.out r e; omega)
      replace hB0 : B0 < wQ.heap.size := Nat.lt_of_lt_of_le hB0 gQ.size
      replace hD : D < wQ.heap.size := Nat.lt_of_lt_of_le hD gQ.size
      replace hG : G < wQ.heap.size := Nat.lt_of_lt_of_le hG gQ.size
      replace hY : Y < wQ.heap.size := Nat.lt_of_lt_of_le hY gQ.size
      replace HMY := (show Hid (IsM wQ (.slice ya mo.length yc) mo) from isM_grown HMY.out IHMY.out gQ (fun r e => by have := BH.out r e; omega))
      replace HTY := (show Hid (IsT wQ (.slice yp po.length yq) po) from isT_grown HTY.out IHTY.out gQ (fun r e => by have := BH.out r e; omega))
      replace HB := (show Hid (Below w.heap.size w wQ) from HB.out.grown gQ HB.out.size (fun r e => by have := BH.out r e; omega))
      clear gQ
      go_wp2_with fail
      refine (ExM.held_any _ _ mo.length VG.out hmo').mono ?_
      rintro e wU ⟨rfl, rfl⟩
      rw [HK3.out]
      go_wp2_with fail
      refine (ExY.heldS_any _ So gp po.length gq hpo' K3 cK3 dK3 VH.out).mono ?_
      rintro e v7 ⟨rfl, k57⟩
      rw [HK4.out]
      replace cA0 := (k57.cell (p := ⟨B0, 0, none⟩) hB0).trans cA0
      replace cA1 := (k57.cell (p := ⟨B0, 1, none⟩) hB0).trans cA1
      replace cY0 := (k57.cell (p := ⟨Y, 0, none⟩) hY).trans cY0
      replace cY1 := (k57.cell (p := ⟨Y, 1, none⟩) hY).trans cY1
      replace cD0 := (k57.cell (p := ⟨D, 0, none⟩) hD).trans cD0
      replace cD1 := (k57.cell (p := ⟨D, 1, none⟩) hD).trans cD1
      replace cG0 := (k57.cell (p := ⟨G, 0, none⟩) hG).trans cG0
      replace cG1 := (k57.cell (p := ⟨G, 1, none⟩) hG).trans cG1
      replace hB0 : B0 < v7.heap.size := Nat.lt_of_lt_of_le hB0 k57.size
      replace hD : D < v7.heap.size := Nat.lt_of_lt_of_le hD k57.size
      replace hG : G < v7.heap.size := Nat.lt_of_lt_of_le hG k57.size
      replace hY : Y < v7.heap.size := Nat.lt_of_lt_of_le hY k57.size
      replace HMY := (show Hid (IsM v7 (.slice ya mo.length yc) mo) from HMY.out.below k57)
      replace HTY := (show Hid (IsT v7 (.slice yp po.length yq) po) from HTY.out.below k57)
      replace VG := (show Hid (ExM.MarksV v7 (.slice ga mo.length gc) mo.length) from VG.out.below k57)
      replace VH := (show Hid (ExY.MarksS v7 (.slice gp po.length gq) po.length K3) from VH.out.below k57)
      replace HB := (show Hid (Below w.heap.size w v7) from HB.out.trans (k57.mono HB.out.size))
      clear k57
      have hmix : Tryz.prog.follows .mixedOrders = true := by kernel_rfl
      obtain ⟨VV, hVV⟩ : ∃ VV : Value → Value → Value → Value → Nat → Value, VV = fun c0 c1 c2 c3 j => [(.slice a0 len0 cap0 : Value), c2, .agg #[.string s1, .slice a1 q1.length cq], c3, .int .i64 a2, .string s3, .bool a4, .tuple #[c0, c1, .bool bo], .tuple #[c0, c1, .bool bo], c0, c1, .bool bo, undef, c0, undef, .bool bo].getD j undef := ⟨_, rfl⟩
      have V0 : ∀ c0 c1 c2 c3, VV c0 c1 c2 c3 0 = .slice a0 len0 cap0 := fun _ _ _ _ => by rw [hVV]; rfl
      have V1 : ∀ c0 c1 c2 c3, VV c0 c1 c2 c3 1 = c2 := fun _ _ _ _ => by rw [hVV]; rfl
      have V2 : ∀ c0 c1 c2 c3, VV c0 c1 c2 c3 2 = .agg #[.string s1, .slice a1 q1.length cq] := fun _ _ _ _ => by rw [hVV]; rfl
      have V3 : ∀ c0 c1 c2 c3, VV c0 c1 c2 c3 3 = c3 := fun _ _ _ _ => by rw [hVV]; rfl
      have V4 : ∀ c0 c1 c2 c3, VV c0 c1 c2 c3 4 = .int .i64 a2 := fun _ _ _ _ => by rw [hVV]; rfl
      have V5 : ∀ c0 c1 c2 c3, VV c0 c1 c2 c3 5 = .string s3 := fun _ _ _ _ => by rw [hVV]; rfl
      have V6 : ∀ c0 c1 c2 c3, VV c0 c1 c2 c3 6 = .bool a4 := fun _ _ _ _ => by rw [hVV]; rfl
      have V7 : ∀ c0 c1 c2 c3, VV c0 c1 c2 c3 7 = .tuple #[c0, c1, .bool bo] := fun _ _ _ _ => by rw [hVV]; rfl
      have V8 : ∀ c0 c1 c2 c3, VV c0 c1 c2 c3 8 = .tuple #[c0, c1, .bool bo] := fun _ _ _ _ => by rw [hVV]; rfl
      have V9 : ∀ c0 c1 c2 c3, VV c0 c1 c2 c3 9 = c0 := fun _ _ _ _ => by rw [hVV]; rfl
      have V10 : ∀ c0 c1 c2 c3, VV c0 c1 c2 c3 10 = c1 := fun _ _ _ _ => by rw [hVV]; rfl
      have V11 : ∀ c0 c1 c2 c3, VV c0 c1 c2 c3 11 = .bool bo := fun _ _ _ _ => by rw [hVV]; rfl
      have V12 : ∀ c0 c1 c2 c3, VV c0 c1 c2 c3 12 = undef := fun _ _ _ _ => by rw [hVV]; rfl
      have V13 : ∀ c0 c1 c2 c3, VV c0 c1 c2 c3 13 = c0 := fun _ _ _ _ => by rw [hVV]; rfl
      have V14 : ∀ c0 c1 c2 c3, VV c0 c1 c2 c3 14 = undef := fun _ _ _ _ => by rw [hVV]; rfl
      have V15 : ∀ c0 c1 c2 c3, VV c0 c1 c2 c3 15 = .bool bo := fun _ _ _ _ => by rw [hVV]; rfl
      clear hVV
      go_upto_region 37 with fail
      refine wp_region_any hmix ?_
      refine Ri.any_inv (I := fun l a' w' => l.size = 16 ∧ ∃ (t2 : Nat → Value) (x c0 c1 c2 c3 : Value), a' = { tmps := #[(Value.slice a0 len0 cap0 : Value), Value.agg #[Value.string s1, Value.slice a1 q1.length cq], Value.int IntKind.i64 a2, Value.string s3, Value.bool a4, undef, Value.pointer (some { block := B0, off := 0 }), undef, undef, undef, Value.bool false, Value.int IntKind.i64 L9, Value.slice ya mo.length yc, Value.pointer (some { block := Y, off := 0 }), Value.bool bo, Value.slice xa m0.length xc, Value.pointer (some { block := D, off := 0 }), Value.slice ga mo.length gc, Value.pointer (some { block := G, off := 0 }), Value.bool bo, Value.int IntKind.i64 ↑K2, Value.int IntKind.i64 ↑K4, Value.int IntKind.i64 ↑K4, t2 13, x, t2 15, Value.string s3, Value.int IntKind.i64 ↑s3.size, Value.bool false, Value.slice a0 len0 cap0, Value.int IntKind.i64 1048576, Value.int IntKind.i64 L8, Value.int IntKind.i64 L8, Value.bool (decide (L8 < 0)), Value.agg #[Value.string s1, Value.slice a1 q1.length cq], Value.int IntKind.i64 L8, Value.int IntKind.i64 L9, Value.int IntKind.i64 L9, Value.bool (decide (L9 < 0)), t 8, t 0, t 1, t 2, t 3, t 4, t 5, t 6, t 7, t 9, t 10, t 11, Value.slice a0 len0 cap0, Value.slice xa m0.length xc, Value.agg #[Value.string s1, Value.slice a1 q1.length cq], Value.agg #[Value.string s1, Value.slice sa q1.length sc], Value.tuple #[Value.slice ga mo.length gc, Value.agg #[Value.string So, Value.slice gp po.length gq], Value.bool bo], Value.slice xa m0.length xc, Value.agg #[Value.string s1, Value.slice sa q1.length sc], Value.int IntKind.i64 a2, Value.string s3, Value.bool a4, Value.tuple #[Value.slice ga mo.length gc, Value.agg #[Value.string So, Value.slice gp po.length gq], Value.bool bo], Value.slice ga mo.length gc, Value.agg #[Value.string So, Value.slice gp po.length gq], Value.bool bo, Value.slice ga mo.length gc, Value.slice ya mo.length yc, Value.bool true, Value.bool false, Value.bool false, Value.agg #[Value.string So, Value.slice gp po.length gq], Value.agg #[Value.string So, Value.slice yp po.length yq], Value.bool true, Value.bool false, Value.bool false, Value.bool false, Value.bool bo, Value.bool bo, Value.bool false, Value.bool false, Value.slice xa m0.length xc, Value.slice a0 len0 cap0, vP, Value.bool true, Value.bool false, Value.agg #[Value.string s1, Value.slice sa q1.length sc], Value.agg #[Value.string s1, Value.slice a1 q1.length cq], Value.agg #[Value.string s1, Value.slice ta9 q1.length tc9], Value.bool true, Value.bool false, Value.slice xa m0.length xc, Value.int IntKind.i64 1, Value.int IntKind.i64 ↑K1, Value.agg #[Value.string s1, Value.slice sa q1.length sc], Value.int IntKind.i64 ↑K1, Value.int IntKind.i64 ↑K2, Value.int IntKind.i64 ↑K2, Value.bool (decide (↑K2 < 0)), Value.bool (decide (↑K2 < 0)), Value.slice ga mo.length gc, Value.slice ya mo.length yc, Value.bool true, Value.bool false, Value.bool (decide (↑K2 < 0)), Value.bool (decide (↑K2 < 0)), Value.agg #[Value.string So, Value.slice gp po.length gq], Value.agg #[Value.string So, Value.slice yp po.length yq], Value.bool true, Value.bool false, Value.bool (decide (↑K2 < 0)), Value.bool (decide (↑K2 < 0)), Value.bool bo, Value.bool bo, Value.bool false, Value.bool (decide (↑K2 < 0)), Value.slice ga mo.length gc, Value.int IntKind.i64 1, Value.int IntKind.i64 ↑K3, Value.agg #[Value.string So, Value.slice gp po.length gq], Value.int IntKind.i64 ↑K3, Value.int IntKind.i64 ↑K4, Value.slice ga mo.length gc, Value.int IntKind.i64 1, Value.int IntKind.i64 ↑K3, Value.int IntKind.i64 ↑K3, Value.bool (decide (↑K3 < 0)), Value.agg #[Value.string So, Value.slice gp po.length gq], Value.int IntKind.i64 ↑K3, Value.int IntKind.i64 ↑K4, Value.int IntKind.i64 ↑K4, Value.bool (decide (↑K4 < 0)), Value.int IntKind.i64 ↑K4, Value.int IntKind.i64 ↑K4, Value.bool false, t2 8, t2 0, t2 1, t2 2, t2 3, t2 4, t2 5, t2 6, t2 7, t2 9, t2 10, t2 11, undef, undef, undef, undef, undef, undef, undef, undef, undef, undef, undef, undef, undef, undef, undef, undef, undef, undef, undef, undef, undef, undef, undef, undef, undef, undef, undef, undef], defers := [] } ∧ Rg.Vals l (VV c0 c1 c2 c3) t2 ∧ Sp10 v7 m0 s1 q1 mo So po l x c0 c1 c2 c3 w') ?sz ?low ?step ?fin _ _ _ _ ?start (Ri.closed_none _ _ _) (Rg.left_all _)
      case sz => exact fun l a' w' h => h.1
      case start => exact ⟨by simp, fun j => ([undef, undef, undef, undef, undef, undef, undef, undef, undef, undef, undef, undef, undef, undef, undef, undef] : List Value).getD j undef, undef, undef, undef, undef, undef, rfl, Rg.vals_none _ _ _, Sp10.start _ (Below.refl _ _).drew⟩
      case low => exact Ri.low_of (by kernel_rfl)
      case step =>
        rintro l a' w' i ⟨hsz, t2, x, c0, c1, c2, c3, rfl, hv, HM⟩ hcl hi
        obtain ⟨h0, op, ho, hd⟩ := mem_ready.1 hi
        have hin : i < 16 := (Array.getElem?_eq_some_iff.1 ho).1
        have hnl := Rg.not_listed h0
        have hS7 : l.getD 14 false = true → l.getD 7 false = true := fun h => Ri.reach_sound hcl 10 14 7 (by kernel_rfl) h
        have hS12 : l.getD 14 false = true → l.getD 12 false = true := fun h => Ri.reach_sound hcl 10 14 12 (by kernel_rfl) h
        have hS1 : l.getD 14 false = true → l.getD 1 false = true := fun h => Ri.reach_sound hcl 10 14 1 (by kernel_rfl) h
        have hS3 : l.getD 14 false = true → l.getD 3 false = true := fun h => Ri.reach_sound hcl 10 14 3 (by kernel_rfl) h
        have hD8 : l.getD 8 false = true → l.getD 7 false = true := fun h => Ri.reach_sound hcl 10 8 7 (by kernel_rfl) h
        have hD9 : l.getD 9 false = true → l.getD 7 false = true := fun h => Ri.reach_sound hcl 10 9 7 (by kernel_rfl) h
        have hD10 : l.getD 10 false = true → l.getD 7 false = true := fun h => Ri.reach_sound hcl 10 10 7 (by kernel_rfl) h
        have hD11 : l.getD 11 false = true → l.getD 7 false = true := fun h => Ri.reach_sound hcl 10 11 7 (by kernel_rfl) h
        have hD13 : l.getD 13 false = true → l.getD 7 false = true := fun h => Ri.reach_sound hcl 10 13 7 (by kernel_rfl) h
        have hD14 : l.getD 14 false = true → l.getD 7 false = true := fun h => Ri.reach_sound hcl 10 14 7 (by kernel_rfl) h
        have hD15 : l.getD 15 false = true → l.getD 7 false = true := fun h => Ri.reach_sound hcl 10 15 7 (by kernel_rfl) h
        clear h0 hi hcl
        have hc : i = 0 ∨ i = 1 ∨ i = 2 ∨ i = 3 ∨ i = 4 ∨ i = 5 ∨ i = 6 ∨ i = 7 ∨ i = 8 ∨ i = 9 ∨ i = 10 ∨ i = 11 ∨ i = 12 ∨ i = 13 ∨ i = 14 ∨ i = 15 := by omega
        rcases hc with rfl | rfl | rfl | rfl | rfl | rfl | rfl | rfl | rfl | rfl | rfl | rfl | rfl | rfl | rfl | rfl
        · obtain rfl : _ = op := Option.some.inj (show some _ = some op from ho)
          have HV := (show Hid (Rg.Vals l (VV c0 c1 c2 c3) t2) from hv)
          have HQ := (show Hid (Sp10 v7 m0 s1 q1 mo So po l x c0 c1 c2 c3 w') from HM)
          clear hv hd ho HM
          refine wpOp_step rfl fun K9 hK9 => ?_
          have HKK := (show Hid _ from hK9)
          clear hK9
          go_simp
          exact HKK.out _ _ ⟨by simp [hsz], fun j => if j = 0 then (.slice a0 len0 cap0 : Value) else t2 j, x, c0, c1, c2, c3, by simp, HV.out.put 0 _ (V0 _ _ _ _).symm, HQ.out.other (by decide) (by decide) (by decide) (by decide) (by decide)⟩
        · obtain rfl : _ = op := Option.some.inj (show some _ = some op from ho)
          have e0 : t2 0 = .slice a0 len0 cap0 := (hv 0 (hd { on := 0, ground := .data } (by simp) rfl)).trans (V0 c0 c1 c2 c3)
          have q9 : l.getD 14 false = false := by
            cases q : l.getD 14 false
            · rfl
            · rw [hS1 q] at hnl; cases hnl
          have hbw := HM.bel
          have HV := (show Hid (Rg.Vals l (VV c0 c1 c2 c3) t2) from hv)
          have HQ := (show Hid (Sp10 v7 m0 s1 q1 mo So po l x c0 c1 c2 c3 w') from HM)
          clear hv hd ho HM
          refine wpOp_step rfl fun K9 hK9 => ?_
          have HKK := (show Hid _ from hK9)
          clear hK9
          go_simp
          refine (ExM.toS_any _ a0 len0 cap0 m0 (HAM.out.below (HB.out.trans (hbw.mono HB.out.size))) hb0).mono ?_
          rintro e w9 ⟨v9, rfl, hr9, k9⟩
          have h9 := isM_of_row hr9
          obtain ⟨a9, c9, rfl⟩ := isM_slice h9
          refine HKK.out _ _ ⟨by simp [hsz], fun j => if j = 1 then ((.slice a9 m0.length c9) : Value) else t2 j, x, c0, c1, (.slice a9 m0.length c9), c3, by simp [e0], vals_new HV.out 1 _ (V1 _ _ _ _).symm ?_, HQ.out.pairs q9 k9 h9⟩
          intro j hj hl
          have hjn : j < 16 := by
            rcases Nat.lt_or_ge j l.size with q | q
            · omega
            · rw [Array.getD, dif_neg (by omega)] at hl; cases hl
          have hc : j = 0 ∨ j = 1 ∨ j = 2 ∨ j = 3 ∨ j = 4 ∨ j = 5 ∨ j = 6 ∨ j = 7 ∨ j = 8 ∨ j = 9 ∨ j = 10 ∨ j = 11 ∨ j = 12 ∨ j = 13 ∨ j = 14 ∨ j = 15 := by omega
          rcases hc with rfl | rfl | rfl | rfl | rfl | rfl | rfl | rfl | rfl | rfl | rfl | rfl | rfl | rfl | rfl | rfl
          · rw [V0, V0]
          · exact absurd rfl hj
          · rw [V2, V2]
          · rw [V3, V3]
          · rw [V4, V4]
          · rw [V5, V5]
          · rw [V6, V6]
          · rw [V7, V7]
          · rw [V8, V8]
          · rw [V9, V9]
          · rw [V10, V10]
          · rw [V11, V11]
          · rw [V12, V12]
          · rw [V13, V13]
          · rw [V14, V14]
          · rw [V15, V15]
        · obtain rfl : _ = op := Option.some.inj (show some _ = some op from ho)
          have HW := (show Hid (Below v7.heap.size v7 w') from HM.bel)
          have y0 : w'.cell? ⟨B0, 0, none⟩ = some (.string s1) := (HW.out.cell (p := ⟨B0, 0, none⟩) hB0).trans cA0
          have y1 : w'.cell? ⟨B0, 1, none⟩ = some (.slice a1 q1.length cq) := (HW.out.cell (p := ⟨B0, 1, none⟩) hB0).trans cA1
          have HV := (show Hid (Rg.Vals l (VV c0 c1 c2 c3) t2) from hv)
          have HQ := (show Hid (Sp10 v7 m0 s1 q1 mo So po l x c0 c1 c2 c3 w') from HM)
          clear hv hd ho HM
          refine wpOp_step rfl fun K9 hK9 => ?_
          have HKK := (show Hid _ from hK9)
          clear hK9
          go_simp
          exact HKK.out _ _ ⟨by simp [hsz], fun j => if j = 2 then (.agg #[.string s1, .slice a1 q1.length cq] : Value) else t2 j, x, c0, c1, c2, c3, by simp, HV.out.put 2 _ (V2 _ _ _ _).symm, HQ.out.other (by decide) (by decide) (by decide) (by decide) (by decide)⟩
        · obtain rfl : _ = op := Option.some.inj (show some _ = some op from ho)
          have e2 : t2 2 = .agg #[.string s1, .slice a1 q1.length cq] := (hv 2 (hd { on := 2, ground := .data } (by simp) rfl)).trans (V2 c0 c1 c2 c3)
          have q9 : l.getD 14 false = false := by
            cases q : l.getD 14 false
            · rfl
            · rw [hS3 q] at hnl; cases hnl
          have hbw := HM.bel
          have HV := (show Hid (Rg.Vals l (VV c0 c1 c2 c3) t2) from hv)
          have HQ := (show Hid (Sp10 v7 m0 s1 q1 mo So po l x c0 c1 c2 c3 w') from HM)
          clear hv hd ho HM
          refine wpOp_step rfl fun K9 hK9 => ?_
          have HKK := (show Hid _ from hK9)
          clear hK9
          go_simp
          refine (toStream_any _ s1 _ q1 (HAT.out.below (HB.out.trans (hbw.mono HB.out.size))) hb2).mono ?_
          rintro e w9 ⟨v9, rfl, ⟨b9, _, hr9⟩, k9⟩
          have h9 := isT_of_row hr9
          obtain ⟨a9, c9, rfl⟩ := row_slice hr9
          refine HKK.out _ _ ⟨by simp [hsz], fun j => if j = 3 then ((.agg #[.string s1, .slice a9 q1.length c9]) : Value) else t2 j, x, c0, c1, c2, (.agg #[.string s1, .slice a9 q1.length c9]), by simp [e2], vals_new HV.out 3 _ (V3 _ _ _ _).symm ?_, HQ.out.stream q9 k9 h9⟩
          intro j hj hl
          have hjn : j < 16 := by
            rcases Nat.lt_or_ge j l.size with q | q
            · omega
            · rw [Array.getD, dif_neg (by omega)] at hl; cases hl
          have hc : j = 0 ∨ j = 1 ∨ j = 2 ∨ j = 3 ∨ j = 4 ∨ j = 5 ∨ j = 6 ∨ j = 7 ∨ j = 8 ∨ j = 9 ∨ j = 10 ∨ j = 11 ∨ j = 12 ∨ j = 13 ∨ j = 14 ∨ j = 15 := by omega
          rcases hc with rfl | rfl | rfl | rfl | rfl | rfl | rfl | rfl | rfl | rfl | rfl | rfl | rfl | rfl | rfl | rfl
          · rw [V0, V0]
          · rw [V1, V1]
          · rw [V2, V2]
          · exact absurd rfl hj
          · rw [V4, V4]
          · rw [V5, V5]
          · rw [V6, V6]
          · rw [V7, V7]
          · rw [V8, V8]
          · rw [V9, V9]
          · rw [V10, V10]
          · rw [V11, V11]
          · rw [V12, V12]
          · rw [V13, V13]
          · rw [V14, V14]
          · rw [V15, V15]
        · obtain rfl : _ = op := Option.some.inj (show some _ = some op from ho)
          have HV := (show Hid (Rg.Vals l (VV c0 c1 c2 c3) t2) from hv)
          have HQ := (show Hid (Sp10 v7 m0 s1 q1 mo So po l x c0 c1 c2 c3 w') from HM)
          clear hv hd ho HM
          refine wpOp_step rfl fun K9 hK9 => ?_
          have HKK := (show Hid _ from hK9)
          clear hK9
          go_simp
          exact HKK.out _ _ ⟨by simp [hsz], fun j => if j = 4 then (.int .i64 a2 : Value) else t2 j, x, c0, c1, c2, c3, by simp, HV.out.put 4 _ (V4 _ _ _ _).symm, HQ.out.other (by decide) (by decide) (by decide) (by decide) (by decide)⟩
        · obtain rfl : _ = op := Option.some.inj (show some _ = some op from ho)
          have HV := (show Hid (Rg.Vals l (VV c0 c1 c2 c3) t2) from hv)
          have HQ := (show Hid (Sp10 v7 m0 s1 q1 mo So po l x c0 c1 c2 c3 w') from HM)
          clear hv hd ho HM
          refine wpOp_step rfl fun K9 hK9 => ?_
          have HKK := (show Hid _ from hK9)
          clear hK9
          go_simp
          exact HKK.out _ _ ⟨by simp [hsz], fun j => if j = 5 then (.string s3 : Value) else t2 j, x, c0, c1, c2, c3, by simp, HV.out.put 5 _ (V5 _ _ _ _).symm, HQ.out.other (by decide) (by decide) (by decide) (by decide) (by decide)⟩
        · obtain rfl : _ = op := Option.some.inj (show some _ = some op from ho)
          have HV := (show Hid (Rg.Vals l (VV c0 c1 c2 c3) t2) from hv)
          have HQ := (show Hid (Sp10 v7 m0 s1 q1 mo So po l x c0 c1 c2 c3 w') from HM)
          clear hv hd ho HM
          refine wpOp_step rfl fun K9 hK9 => ?_
          have HKK := (show Hid _ from hK9)
          clear hK9
          go_simp
          exact HKK.out _ _ ⟨by simp [hsz], fun j => if j = 6 then (.bool a4 : Value) else t2 j, x, c0, c1, c2, c3, by simp, HV.out.put 6 _ (V6 _ _ _ _).symm, HQ.out.other (by decide) (by decide) (by decide) (by decide) (by decide)⟩
        · obtain rfl : _ = op := Option.some.inj (show some _ = some op from ho)
          have e1 : t2 1 = c2 := (hv 1 (hd { on := 1, ground := .data } (by simp) rfl)).trans (V1 c0 c1 c2 c3)
          have e3 : t2 3 = c3 := (hv 3 (hd { on := 3, ground := .data } (by simp) rfl)).trans (V3 c0 c1 c2 c3)
          have e4 : t2 4 = .int .i64 a2 := (hv 4 (hd { on := 4, ground := .data } (by simp) rfl)).trans (V4 c0 c1 c2 c3)
          have e5 : t2 5 = .string s3 := (hv 5 (hd { on := 5, ground := .data } (by simp) rfl)).trans (V5 c0 c1 c2 c3)
          have e6 : t2 6 = .bool a4 := (hv 6 (hd { on := 6, ground := .data } (by simp) rfl)).trans (V6 c0 c1 c2 c3)
          have q9 : l.getD 14 false = false := by
            cases q : l.getD 14 false
            · rfl
            · rw [hS7 q] at hnl; cases hnl
          have hbw := HM.bel
          obtain ⟨pa8, pc8, E2, hM8⟩ := HM.pre1 (hd { on := 1, ground := .data } (by simp) rfl) q9
          obtain ⟨pa7, pc7, E3, hT8⟩ := HM.pre2 (hd { on := 3, ground := .data } (by simp) rfl) q9
          subst E2 E3
          have HV := (show Hid (Rg.Vals l (VV c0 c1 (.slice pa8 m0.length pc8) (.agg #[.string s1, .slice pa7 q1.length pc7])) t2) from hv)
          have HQ := (show Hid (Sp10 v7 m0 s1 q1 mo So po l x c0 c1 (.slice pa8 m0.length pc8) (.agg #[.string s1, .slice pa7 q1.length pc7]) w') from HM)
          clear hv hd ho HM
          refine wpOp_step rfl fun K9 hK9 => ?_
          have HKK := (show Hid _ from hK9)
          clear hK9
          go_simp
          refine (iput_s _ _ m0 hM8 s1 _ q1 hT8 a2 s3 a4 (HER.out.below (HB.out.trans (hbw.mono HB.out.size))) HZ.out).mono ?_
          rintro e w9 ⟨va9, vc9, pa9, pc9, rfl, hM9, hT9, k9⟩
          refine HKK.out _ _ ⟨by simp [hsz], fun j => if j = 7 then (.tuple #[.slice va9 mo.length vc9, .agg #[.string So, .slice pa9 po.length pc9], .bool bo] : Value) else t2 j, x, .slice va9 mo.length vc9, .agg #[.string So, .slice pa9 po.length pc9], _, _, by simp [e1, e3, e4, e5, e6], vals_new HV.out 7 _ (V7 _ _ _ _).symm ?_, HQ.out.call q9 k9 hM9 hT9⟩
          intro j hj hl
          have hjn : j < 16 := by
            rcases Nat.lt_or_ge j l.size with q | q
            · omega
            · rw [Array.getD, dif_neg (by omega)] at hl; cases hl
          have hc : j = 0 ∨ j = 1 ∨ j = 2 ∨ j = 3 ∨ j = 4 ∨ j = 5 ∨ j = 6 ∨ j = 7 ∨ j = 8 ∨ j = 9 ∨ j = 10 ∨ j = 11 ∨ j = 12 ∨ j = 13 ∨ j = 14 ∨ j = 15 := by omega
          rcases hc with rfl | rfl | rfl | rfl | rfl | rfl | rfl | rfl | rfl | rfl | rfl | rfl | rfl | rfl | rfl | rfl
          · rw [V0, V0]
          · rw [V1, V1]
          · rw [V2, V2]
          · rw [V3, V3]
          · rw [V4, V4]
          · rw [V5, V5]
          · rw [V6, V6]
          · exact absurd rfl hj
          · rw [hD8 hl] at hnl; cases hnl
          · rw [hD9 hl] at hnl; cases hnl
          · rw [hD10 hl] at hnl; cases hnl
          · rw [hD11 hl] at hnl; cases hnl
          · rw [V12, V12]
          · rw [hD13 hl] at hnl; cases hnl
          · rw [hD14 hl] at hnl; cases hnl
          · rw [hD15 hl] at hnl; cases hnl
        · obtain rfl : _ = op := Option.some.inj (show some _ = some op from ho)
          have e7 : t2 7 = .tuple #[c0, c1, .bool bo] := (hv 7 (hd { on := 7, ground := .data } (by simp) rfl)).trans (V7 c0 c1 c2 c3)
          obtain ⟨va9, vc9, pa9, pc9, E0, E1, _, _⟩ := HM.called (hd { on := 7, ground := .data } (by simp) rfl)
          subst E0 E1
          have HV := (show Hid (Rg.Vals l (VV (.slice va9 mo.length vc9) (.agg #[.string So, .slice pa9 po.length pc9]) c2 c3) t2) from hv)
          have HQ := (show Hid (Sp10 v7 m0 s1 q1 mo So po l x (.slice va9 mo.length vc9) (.agg #[.string So, .slice pa9 po.length pc9]) c2 c3 w') from HM)
          clear hv hd ho HM
          refine wpOp_step rfl fun K9 hK9 => ?_
          have HKK := (show Hid _ from hK9)
          clear hK9
          rw [e7]
          go_simp
          exact HKK.out _ _ ⟨by simp [hsz], fun j => if j = 8 then (.tuple #[(.slice va9 mo.length vc9), (.agg #[.string So, .slice pa9 po.length pc9]), .bool bo] : Value) else t2 j, x, (.slice va9 mo.length vc9), (.agg #[.string So, .slice pa9 po.length pc9]), c2, c3, by simp [e7], HV.out.put 8 _ (V8 _ _ _ _).symm, HQ.out.other (by decide) (by decide) (by decide) (by decide) (by decide)⟩
        · obtain rfl : _ = op := Option.some.inj (show some _ = some op from ho)
          have e8 : t2 8 = .tuple #[c0, c1, .bool bo] := (hv 8 (hd { on := 8, ground := .data } (by simp) rfl)).trans (V8 c0 c1 c2 c3)
          obtain ⟨va9, vc9, pa9, pc9, E0, E1, _, _⟩ := HM.called (hD8 (hd { on := 8, ground := .data } (by simp) rfl))
          subst E0 E1
          have HV := (show Hid (Rg.Vals l (VV (.slice va9 mo.length vc9) (.agg #[.string So, .slice pa9 po.length pc9]) c2 c3) t2) from hv)
          have HQ := (show Hid (Sp10 v7 m0 s1 q1 mo So po l x (.slice va9 mo.length vc9) (.agg #[.string So, .slice pa9 po.length pc9]) c2 c3 w') from HM)
          clear hv hd ho HM
          refine wpOp_step rfl fun K9 hK9 => ?_
          have HKK := (show Hid _ from hK9)
          clear hK9
          rw [e8]
          go_simp
          exact HKK.out _ _ ⟨by simp [hsz], fun j => if j = 9 then ((.slice va9 mo.length vc9) : Value) else t2 j, x, (.slice va9 mo.length vc9), (.agg #[.string So, .slice pa9 po.length pc9]), c2, c3, by simp [e8], HV.out.put 9 _ (V9 _ _ _ _).symm, HQ.out.other (by decide) (by decide) (by decide) (by decide) (by decide)⟩
        · obtain rfl : _ = op := Option.some.inj (show some _ = some op from ho)
          have e8 : t2 8 = .tuple #[c0, c1, .bool bo] := (hv 8 (hd { on := 8, ground := .data } (by simp) rfl)).trans (V8 c0 c1 c2 c3)
          obtain ⟨va9, vc9, pa9, pc9, E0, E1, _, _⟩ := HM.called (hD8 (hd { on := 8, ground := .data } (by simp) rfl))
          subst E0 E1
          have HV := (show Hid (Rg.Vals l (VV (.slice va9 mo.length vc9) (.agg #[.string So, .slice pa9 po.length pc9]) c2 c3) t2) from hv)
          have HQ := (show Hid (Sp10 v7 m0 s1 q1 mo So po l x (.slice va9 mo.length vc9) (.agg #[.string So, .slice pa9 po.length pc9]) c2 c3 w') from HM)
          clear hv hd ho HM
          refine wpOp_step rfl fun K9 hK9 => ?_
          have HKK := (show Hid _ from hK9)
          clear hK9
          rw [e8]
          go_simp
          exact HKK.out _ _ ⟨by simp [hsz], fun j => if j = 10 then ((.agg #[.string So, .slice pa9 po.length pc9]) : Value) else t2 j, x, (.slice va9 mo.length vc9), (.agg #[.string So, .slice pa9 po.length pc9]), c2, c3, by simp [e8], HV.out.put 10 _ (V10 _ _ _ _).symm, HQ.out.other (by decide) (by decide) (by decide) (by decide) (by decide)⟩
        · obtain rfl : _ = op := Option.some.inj (show some _ = some op from ho)
          have e8 : t2 8 = .tuple #[c0, c1, .bool bo] := (hv 8 (hd { on := 8, ground := .data } (by simp) rfl)).trans (V8 c0 c1 c2 c3)
          obtain ⟨va9, vc9, pa9, pc9, E0, E1, _, _⟩ := HM.called (hD8 (hd { on := 8, ground := .data } (by simp) rfl))
          subst E0 E1
          have HV := (show Hid (Rg.Vals l (VV (.slice va9 mo.length vc9) (.agg #[.string So, .slice pa9 po.length pc9]) c2 c3) t2) from hv)
          have HQ := (show Hid (Sp10 v7 m0 s1 q1 mo So po l x (.slice va9 mo.length vc9) (.agg #[.string So, .slice pa9 po.length pc9]) c2 c3 w') from HM)
          clear hv hd ho HM
          refine wpOp_step rfl fun K9 hK9 => ?_
          have HKK := (show Hid _ from hK9)
          clear hK9
          rw [e8]
          go_simp
          exact HKK.out _ _ ⟨by simp [hsz], fun j => if j = 11 then (.bool bo : Value) else t2 j, x, (.slice va9 mo.length vc9), (.agg #[.string So, .slice pa9 po.length pc9]), c2, c3, by simp [e8], HV.out.put 11 _ (V11 _ _ _ _).symm, HQ.out.other (by decide) (by decide) (by decide) (by decide) (by decide)⟩
        · obtain rfl : _ = op := Option.some.inj (show some _ = some op from ho)
          have q9 : l.getD 14 false = false := by
            cases q : l.getD 14 false
            · rfl
            · rw [hS12 q] at hnl; cases hnl
          have HV := (show Hid (Rg.Vals l (VV c0 c1 c2 c3) t2) from hv)
          have HQ := (show Hid (Sp10 v7 m0 s1 q1 mo So po l x c0 c1 c2 c3 w') from HM)
          clear hv hd ho HM
          refine wpOp_step rfl fun K9 hK9 => ?_
          have HKK := (show Hid _ from hK9)
          clear hK9
          go_simp
          exact HKK.out _ _ ⟨by simp [hsz], fun j => if j = 12 then (undef : Value) else t2 j, _, c0, c1, c2, c3, by simp, HV.out.put 12 _ (V12 _ _ _ _).symm, HQ.out.make (by omega) q9⟩
        · obtain rfl : _ = op := Option.some.inj (show some _ = some op from ho)
          have e9 : t2 9 = c0 := (hv 9 (hd { on := 9, ground := .data } (by simp) rfl)).trans (V9 c0 c1 c2 c3)
          obtain ⟨va9, vc9, pa9, pc9, E0, E1, _, _⟩ := HM.called (hD9 (hd { on := 9, ground := .data } (by simp) rfl))
          subst E0 E1
          have HV := (show Hid (Rg.Vals l (VV (.slice va9 mo.length vc9) (.agg #[.string So, .slice pa9 po.length pc9]) c2 c3) t2) from hv)
          have HQ := (show Hid (Sp10 v7 m0 s1 q1 mo So po l x (.slice va9 mo.length vc9) (.agg #[.string So, .slice pa9 po.length pc9]) c2 c3 w') from HM)
          clear hv hd ho HM
          refine wpOp_step rfl fun K9 hK9 => ?_
          have HKK := (show Hid _ from hK9)
          clear hK9
          rw [e9]
          go_simp
          exact HKK.out _ _ ⟨by simp [hsz], fun j => if j = 13 then ((.slice va9 mo.length vc9) : Value) else t2 j, x, (.slice va9 mo.length vc9), (.agg #[.string So, .slice pa9 po.length pc9]), c2, c3, by simp [e9], HV.out.put 13 _ (V13 _ _ _ _).symm, HQ.out.other (by decide) (by decide) (by decide) (by decide) (by decide)⟩
        · obtain rfl : _ = op := Option.some.inj (show some _ = some op from ho)
          have e10 : t2 10 = c1 := (hv 10 (hd { on := 10, ground := .data } (by simp) rfl)).trans (V10 c0 c1 c2 c3)
          have q9 : l.getD 14 false = false := by
            cases q : l.getD 14 false
            · rfl
            · rw [q] at hnl; cases hnl
          obtain ⟨va9, vc9, pa9, pc9, E0, E1, _, _⟩ := HM.called (hD10 (hd { on := 10, ground := .data } (by simp) rfl))
          subst E0 E1
          obtain ⟨gg, rfl, hgg, m1, _⟩ := HM.made (hd { on := 12, ground := .data } (by simp) rfl)
          have m2 := m1 q9
          have zs0 : w'.cell? ⟨gg, 0, none⟩ = some (.string ⟨#[]⟩) := by unfold World.cell?; rw [m2]; rfl
          have zs1 : w'.cell? ⟨gg, 1, none⟩ = some (.slice none 0 0) := by unfold World.cell?; rw [m2]; rfl
          have zsf : ∀ j, w'.frozen? ⟨gg, j, none⟩ = false := fun j => by unfold World.frozen?; rw [m2]; simp
          have HM2 := (show Hid (w'.heap[gg]? = some (.cells #[.string ⟨#[]⟩, .slice none 0 0] 26 (0, 0))) from m2)
          clear m1 m2
          have HV := (show Hid (Rg.Vals l (VV (.slice va9 mo.length vc9) (.agg #[.string So, .slice pa9 po.length pc9]) c2 c3) t2) from hv)
          have HQ := (show Hid (Sp10 v7 m0 s1 q1 mo So po l (.pointer (some ⟨gg, 0, none⟩)) (.slice va9 mo.length vc9) (.agg #[.string So, .slice pa9 po.length pc9]) c2 c3 w') from HM)
          clear hv hd ho HM
          refine wpOp_step rfl fun K9 hK9 => ?_
          have HKK := (show Hid _ from hK9)
          clear hK9
          go_simp
          exact HKK.out _ _ ⟨by simp [hsz], fun j => if j = 14 then (undef : Value) else t2 j, _, _, _, c2, c3, by simp [e10], HV.out.put 14 _ (V14 _ _ _ _).symm, HQ.out.put (by omega) rfl hgg HM2.out rfl⟩
        · obtain rfl : _ = op := Option.some.inj (show some _ = some op from ho)
          have e11 : t2 11 = .bool bo := (hv 11 (hd { on := 11, ground := .data } (by simp) rfl)).trans (V11 c0 c1 c2 c3)
          obtain ⟨va9, vc9, pa9, pc9, E0, E1, _, _⟩ := HM.called (hD11 (hd { on := 11, ground := .data } (by simp) rfl))
          subst E0 E1
          have HV := (show Hid (Rg.Vals l (VV (.slice va9 mo.length vc9) (.agg #[.string So, .slice pa9 po.length pc9]) c2 c3) t2) from hv)
          have HQ := (show Hid (Sp10 v7 m0 s1 q1 mo So po l x (.slice va9 mo.length vc9) (.agg #[.string So, .slice pa9 po.length pc9]) c2 c3 w') from HM)
          clear hv hd ho HM
          refine wpOp_step rfl fun K9 hK9 => ?_
          have HKK := (show Hid _ from hK9)
          clear hK9
          rw [e11]
          go_simp
          exact HKK.out _ _ ⟨by simp [hsz], fun j => if j = 15 then (.bool bo : Value) else t2 j, x, (.slice va9 mo.length vc9), (.agg #[.string So, .slice pa9 po.length pc9]), c2, c3, by simp [e11], HV.out.put 15 _ (V15 _ _ _ _).symm, HQ.out.other (by decide) (by decide) (by decide) (by decide) (by decide)⟩
      case fin =>
        rintro l a' r2 ⟨hsz, t2, x, c0, c1, c2, c3, rfl, hv, HM⟩ hall
        have kR := HM.bel
        obtain ⟨H, hxU, hUg, _, mU0⟩ := HM.made (hall 12 (by simp))
        obtain ⟨zp9, zq9, E1', mU⟩ := mU0 (hall 14 (by simp))
        obtain ⟨ha, hc, hp, hq, E0, E1, hM9, hT9⟩ := HM.called (hall 7 (by simp))
        obtain ⟨rfl, rfl⟩ : hp = zp9 ∧ hq = zq9 := by rw [E1] at E1'; simpa using E1'
        subst E0
        clear E1' mU0
        subst E1
        subst hxU
        have z13 := (hv 13 (hall 13 (by simp))).trans (V13 _ _ _ _)
        have z15 := (hv 15 (hall 15 (by simp))).trans (V15 _ _ _ _)
        rw [z13, z15]
        have cH0 : r2.cell? ⟨H, 0, none⟩ = some (.string So) := by simp [World.cell?, mU]
        have cH1 : r2.cell? ⟨H, 1, none⟩ = some (.slice hp po.length hq) := by simp [World.cell?, mU]
        have hH : H < r2.heap.size := (Array.getElem?_eq_some_iff.1 mU).1
        have HMH := (show Hid (IsM r2 (.slice ha mo.length hc) mo) from hM9)
        have HTH := (show Hid (IsT r2 (.slice hp po.length hq) po) from hT9)
        have IHMH := (show Hid (In 0 r2.heap.size (.slice ha mo.length hc)) from in_M hM9)
        have IHTH := (show Hid (po ≠ [] → In 0 r2.heap.size (.slice hp po.length hq)) from in_T hT9)
        clear hM9 hT9 mU hv hall HM z13 z15 V0 V1 V2 V3 V4 V5 V6 V7 V8 V9 V10 V11 V12 V13 V14 V15
        replace cA0 := (kR.cell (p := ⟨B0, 0, none⟩) hB0).trans cA0
        replace cA1 := (kR.cell (p := ⟨B0, 1, none⟩) hB0).trans cA1
        replace cY0 := (kR.cell (p := ⟨Y, 0, none⟩) hY).trans cY0
        replace cY1 := (kR.cell (p := ⟨Y, 1, none⟩) hY).trans cY1
        replace cD0 := (kR.cell (p := ⟨D, 0, none⟩) hD).trans cD0
        replace cD1 := (kR.cell (p := ⟨D, 1, none⟩) hD).trans cD1
        replace cG0 := (kR.cell (p := ⟨G, 0, none⟩) hG).trans cG0
        replace cG1 := (kR.cell (p := ⟨G, 1, none⟩) hG).trans cG1
        replace hB0 : B0 < r2.heap.size := Nat.lt_of_lt_of_le hB0 kR.size
        replace hD : D < r2.heap.size := Nat.lt_of_lt_of_le hD kR.size
        replace hG : G < r2.heap.size := Nat.lt_of_lt_of_le hG kR.size
        replace hY : Y < r2.heap.size := Nat.lt_of_lt_of_le hY kR.size
        replace HMY := (show Hid (IsM r2 (.slice ya mo.length yc) mo) from HMY.out.below kR)
        replace HTY := (show Hid (IsT r2 (.slice yp po.length yq) po) from HTY.out.below kR)
        replace VG := (show Hid (ExM.MarksV r2 (.slice ga mo.length gc) mo.length) from VG.out.below kR)
        replace VH := (show Hid (ExY.MarksS r2 (.slice gp po.length gq) po.length K3) from VH.out.below kR)
        replace HB := (show Hid (Below w.heap.size w r2) from HB.out.trans (kR.mono HB.out.size))
        clear kR
        go_wp2_with fail
        refine (ExM.eqM_true _ mo hmo' _ _ HMH.out HMY.out).mono ?_
        rintro e v8 ⟨rfl, k58⟩
        replace cA0 := (k58.cell (p := ⟨B0, 0, none⟩) hB0).trans cA0
        replace cA1 := (k58.cell (p := ⟨B0, 1, none⟩) hB0).trans cA1
        replace cY0 := (k58.cell (p := ⟨Y, 0, none⟩) hY).trans cY0
        replace cY1 := (k58.cell (p := ⟨Y, 1, none⟩) hY).trans cY1
        replace cD0 := (k58.cell (p := ⟨D, 0, none⟩) hD).trans cD0
        replace cD1 := (k58.cell (p := ⟨D, 1, none⟩) hD).trans cD1
        replace cG0 := (k58.cell (p := ⟨G, 0, none⟩) hG).trans cG0
        replace cG1 := (k58.cell (p := ⟨G, 1, none⟩) hG).trans cG1
        replace cH0 := (k58.cell (p := ⟨H, 0, none⟩) hH).trans cH0
        replace cH1 := (k58.cell (p := ⟨H, 1, none⟩) hH).trans cH1
        replace hB0 : B0 < v8.heap.size := Nat.lt_of_lt_of_le hB0 k58.size
        replace hD : D < v8.heap.size := Nat.lt_of_lt_of_le hD k58.size
        replace hG : G < v8.heap.size := Nat.lt_of_lt_of_le hG k58.size
        replace hH : H < v8.heap.size := Nat.lt_of_lt_of_le hH k58.size
        replace hY : Y < v8.heap.size := Nat.lt_of_lt_of_le hY k58.size
        replace HMY := (show Hid (IsM v8 (.slice ya mo.length yc) mo) from HMY.out.below k58)
        replace HTY := (show Hid (IsT v8 (.slice yp po.length yq) po) from HTY.out.below k58)
        replace VG := (show Hid (ExM.MarksV v8 (.slice ga mo.length gc) mo.length) from VG.out.below k58)
        replace VH := (show Hid (ExY.MarksS v8 (.slice gp po.length gq) po.length K3) from VH.out.below k58)
        replace HMH := (show Hid (IsM v8 (.slice ha mo.length hc) mo) from HMH.out.below k58)
        replace HTH := (show Hid (IsT v8 (.slice hp po.length hq) po) from HTH.out.below k58)
        replace HB := (show Hid (Below w.heap.size w v8) from HB.out.trans (k58.mono HB.out.size))
        clear k58
        go_wp2_with fail
        refine (eqStream_true _ So po hpo' _ _ HTH.out HTY.out).mono ?_
        rintro e v9 ⟨rfl, k59⟩
        replace cA0 := (k59.cell (p := ⟨B0, 0, none⟩) hB0).trans cA0
        replace cA1 := (k59.cell (p := ⟨B0, 1, none⟩) hB0).trans cA1
        replace cY0 := (k59.cell (p := ⟨Y, 0, none⟩) hY).trans cY0
        replace cY1 := (k59.cell (p := ⟨Y, 1, none⟩) hY).trans cY1
        replace cD0 := (k59.cell (p := ⟨D, 0, none⟩) hD).trans cD0
        replace cD1 := (k59.cell (p := ⟨D, 1, none⟩) hD).trans cD1
        replace cG0 := (k59.cell (p := ⟨G, 0, none⟩) hG).trans cG0
        replace cG1 := (k59.cell (p := ⟨G, 1, none⟩) hG).trans cG1
        replace cH0 := (k59.cell (p := ⟨H, 0, none⟩) hH).trans cH0
        replace cH1 := (k59.cell (p := ⟨H, 1, none⟩) hH).trans cH1
        replace hB0 : B0 < v9.heap.size := Nat.lt_of_lt_of_le hB0 k59.size
        replace hD : D < v9.heap.size := Nat.lt_of_lt_of_le hD k59.size
        replace hG : G < v9.heap.size := Nat.lt_of_lt_of_le hG k59.size
        replace hH : H < v9.heap.size := Nat.lt_of_lt_of_le hH k59.size
        replace hY : Y < v9.heap.size := Nat.lt_of_lt_of_le hY k59.size
        replace HMY := (show Hid (IsM v9 (.slice ya mo.length yc) mo) from HMY.out.below k59)
        replace HTY := (show Hid (IsT v9 (.slice yp po.length yq) po) from HTY.out.below k59)
        replace VG := (show Hid (ExM.MarksV v9 (.slice ga mo.length gc) mo.length) from VG.out.below k59)
        replace VH := (show Hid (ExY.MarksS v9 (.slice gp po.length gq) po.length K3) from VH.out.below k59)
        replace HMH := (show Hid (IsM v9 (.slice ha mo.length hc) mo) from HMH.out.below k59)
        replace HTH := (show Hid (IsT v9 (.slice hp po.length hq) po) from HTH.out.below k59)
        replace HB := (show Hid (Below w.heap.size w v9) from HB.out.trans (k59.mono HB.out.size))
        clear k59
        go_wp2_with fail
        refine (ExM.held_any _ _ mo.length VG.out hmo').mono ?_
        rintro e wV ⟨rfl, rfl⟩
        rw [HK3.out]
        go_wp2_with fail
        refine (ExY.heldS_any _ So gp po.length gq hpo' K3 cK3 dK3 VH.out).mono ?_
        rintro e v10 ⟨rfl, k60⟩
        rw [HK4.out]
        replace cA0 := (k60.cell (p := ⟨B0, 0, none⟩) hB0).trans cA0
        replace cA1 := (k60.cell (p := ⟨B0, 1, none⟩) hB0).trans cA1
        replace cY0 := (k60.cell (p := ⟨Y, 0, none⟩) hY).trans cY0
        replace cY1 := (k60.cell (p := ⟨Y, 1, none⟩) hY).trans cY1
        replace cD0 := (k60.cell (p := ⟨D, 0, none⟩) hD).trans cD0
        replace cD1 := (k60.cell (p := ⟨D, 1, none⟩) hD).trans cD1
        replace cG0 := (k60.cell (p := ⟨G, 0, none⟩) hG).trans cG0
        replace cG1 := (k60.cell (p := ⟨G, 1, none⟩) hG).trans cG1
        replace cH0 := (k60.cell (p := ⟨H, 0, none⟩) hH).trans cH0
        replace cH1 := (k60.cell (p := ⟨H, 1, none⟩) hH).trans cH1
        replace hB0 : B0 < v10.heap.size := Nat.lt_of_lt_of_le hB0 k60.size
        replace hD : D < v10.heap.size := Nat.lt_of_lt_of_le hD k60.size
        replace hG : G < v10.heap.size := Nat.lt_of_lt_of_le hG k60.size
        replace hH : H < v10.heap.size := Nat.lt_of_lt_of_le hH k60.size
        replace hY : Y < v10.heap.size := Nat.lt_of_lt_of_le hY k60.size
        replace HMY := (show Hid (IsM v10 (.slice ya mo.length yc) mo) from HMY.out.below k60)
        replace HTY := (show Hid (IsT v10 (.slice yp po.length yq) po) from HTY.out.below k60)
        replace VG := (show Hid (ExM.MarksV v10 (.slice ga mo.length gc) mo.length) from VG.out.below k60)
        replace VH := (show Hid (ExY.MarksS v10 (.slice gp po.length gq) po.length K3) from VH.out.below k60)
        replace HMH := (show Hid (IsM v10 (.slice ha mo.length hc) mo) from HMH.out.below k60)
        replace HTH := (show Hid (IsT v10 (.slice hp po.length hq) po) from HTH.out.below k60)
        replace HB := (show Hid (Below w.heap.size w v10) from HB.out.trans (k60.mono HB.out.size))
        clear k60
        go_wp2
        go_ret
        exact ⟨rfl, HB.out⟩
end Go.Proofs.YtdggchcapjidjabGreatDoor.XStreamPut

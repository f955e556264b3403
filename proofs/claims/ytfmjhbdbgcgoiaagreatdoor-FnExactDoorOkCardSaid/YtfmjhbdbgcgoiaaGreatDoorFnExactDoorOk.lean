/- The walk of the exact law on DoorOk: it answers true. -/
import Derived.Test.YtfmjhbdbgcgoiaaGreatDoorExO
import Derived.Test.YtfmjhbdbgcgoiaaGreatDoorDrS
import Derived.Test.YtfmjhbdbgcgoiaaGreatDoorDrN
import Derived.Test.YtfmjhbdbgcgoiaaGreatDoorLaid
namespace Go.Proofs.YtfmjhbdbgcgoiaaGreatDoor.XDoorOk
open Go.RowKit Go.Proofs.YtfmjhbdbgcgoiaaGreatDoor.Kit Go.Proofs.YtfmjhbdbgcgoiaaGreatDoor.App Go.Proofs.YtfmjhbdbgcgoiaaGreatDoor.St Go.Proofs.YtfmjhbdbgcgoiaaGreatDoor.Mm Go.Proofs.YtfmjhbdbgcgoiaaGreatDoor.ExT Go.Proofs.YtfmjhbdbgcgoiaaGreatDoor.ExM Go.Proofs.YtfmjhbdbgcgoiaaGreatDoor.ExD Go.Proofs.YtfmjhbdbgcgoiaaGreatDoor.Dr Go.Proofs.YtfmjhbdbgcgoiaaGreatDoor.DrP
open Go.Proofs.YtfmjhbdbgcgoiaaGreatDoor.Read (Errs)
set_option linter.unusedVariables false
set_option linter.unusedSimpArgs false

set_option maxRecDepth 8000 in
set_option maxHeartbeats 1000000 in
theorem long (ma : Option Addr) (ml mc : Nat) (m : List (Int × Int × Int)) (fv : Value) (rs : List RF) (w : World) (hA : ArgD w ma ml mc m fv rs) (h : ¬ ((m.length + bulkQ rs : Nat) : Int) ≤ 1048576) :
    Calls Tryz.prog 3 #[.agg #[.slice ma ml mc, fv]] w fun e w' => e = .returned (.bool true) ∧ Below w.heap.size w w' := by
  have bA : Below w.heap.size w (w.alloc (.cells #[.slice ma ml mc, fv] 25)) := (Below.refl _ _).alloc (Nat.le_refl _) _
  have hz : leftZ 1048576 (m.length + bulkQ rs) = -1 := if_neg h
  obtain ⟨fa, fc, rfl, -⟩ := id hA.hf.at_
  go_enter Tryz.func3, Tryz.ntmps3
  go_wp2_with fail
  refine (szDoor_any ma ml mc m _ rs _ (hA.below bA)).mono ?_
  rintro e w1 ⟨rfl, k1⟩
  rw [hz]
  go_wp2
  go_ret
  exact ⟨rfl, bA.trans (k1.mono (by simp))⟩

set_option maxRecDepth 8000 in
set_option maxHeartbeats 8000000 in
theorem short (ma : Option Addr) (ml mc : Nat) (m : List (Int × Int × Int)) (fv : Value) (rs : List RF) (w : World) (hA : ArgD w ma ml mc m fv rs) (h : ((m.length + bulkQ rs : Nat) : Int) ≤ 1048576) (herr : Errs w) :
    Calls Tryz.prog 3 #[.agg #[.slice ma ml mc, fv]] w fun e w' => e = .returned (.bool true) ∧ Below w.heap.size w w' := by
  have bA : Below w.heap.size w (w.alloc (.cells #[.slice ma ml mc, fv] 25)) := (Below.refl _ _).alloc (Nat.le_refl _) _
  have hz : leftZ 1048576 (m.length + bulkQ rs) = 1048576 - ((m.length + bulkQ rs : Nat) : Int) := if_pos h
  have h0 : 0 ≤ 1048576 - ((m.length + bulkQ rs : Nat) : Int) := by omega
  have hml : m.length ≤ 1048576 := by omega
  have hbq : bulkQ rs ≤ 1048576 := by omega
  have hrl : rs.length ≤ 1048576 := by unfold bulkQ at hbq; omega
  have hbr : ∀ r ∈ rs, bulkF r ≤ 1048576 := fun r hr => by have := bulkG_mem hr; unfold bulkQ at hbq; omega
  have hsm : ∀ r ∈ rs, r.up.length ≤ 1048576 ∧ r.dn.length ≤ 1048576 := fun r hr => by have := hbr r hr; unfold bulkF bulkS bulkT at this; omega
  have hszA : ∀ qs : List RF, qs.map RF.mean = rs.map RF.mean → ∀ r ∈ qs, r.us.size ≤ 1073741824 ∧ (∀ p ∈ r.up, p.2.size ≤ 1073741824) ∧ r.ds.size ≤ 1073741824 ∧ ∀ p ∈ r.dn, p.2.size ≤ 1073741824 := fun qs hq r hr => by
    obtain ⟨i, hi⟩ := List.mem_iff_getElem?.1 hr
    obtain ⟨r', hr', hm⟩ := mean_at hq hi
    have hb := hbr r' (List.mem_of_getElem? hr')
    simp only [RF.mean, Prod.mk.injEq] at hm
    obtain ⟨_, _, ⟨e1, e2⟩, e3, e4⟩ := hm
    unfold bulkF bulkS bulkT at hb
    rw [e1, e2, e3, e4] at hb
    exact ⟨by omega, fun p hp => by have := txtT_mem hp; omega, by omega, fun p hp => by have := txtT_mem hp; omega⟩
  obtain ⟨fa, fc, rfl, -⟩ := id hA.hf.at_
  have hlt : w.heap.size < (w.alloc (.cells #[.slice ma ml mc, .slice fa rs.length fc] 25)).heap.size := by simp
  have a0 : (w.alloc (.cells #[.slice ma ml mc, .slice fa rs.length fc] 25)).cell? ⟨w.heap.size, 0, none⟩ = some (.slice ma ml mc) := by simp [go_sem]
  have a1 : (w.alloc (.cells #[.slice ma ml mc, .slice fa rs.length fc] 25)).cell? ⟨w.heap.size, 1, none⟩ = some (.slice fa rs.length fc) := by simp [go_sem]
  go_enter Tryz.func3, Tryz.ntmps3
  go_wp2_with fail
  refine (szDoor_any ma ml mc m _ rs _ (hA.below bA)).mono ?_
  rintro e w1 ⟨rfl, k1⟩
  rw [hz]
  have e0 := (k1.cell (p := ⟨w.heap.size, 0, none⟩) hlt).trans a0
  have e1 := (k1.cell (p := ⟨w.heap.size, 1, none⟩) hlt).trans a1
  have b1 := bA.trans (k1.mono (by simp))
  have l1 := Nat.lt_of_lt_of_le hlt k1.size
  clear a0 a1 k1 bA hz hlt
  generalize hL : 1048576 - ((m.length + bulkQ rs : Nat) : Int) = L at h0
  have HL := (show Hid _ from hL)
  clear hL h
  go_wp2_with fail
  refine (toDoor_any ma ml mc m _ rs _ (hA.below b1) hml hrl hsm).mono ?_
  rintro e w2 ⟨mv2, fv2, rfl, ⟨qs2, ho2, hm2, hl2⟩, k2⟩
  have f0 := (k2.cell (p := ⟨w.heap.size, 0, none⟩) l1).trans e0
  have f1 := (k2.cell (p := ⟨w.heap.size, 1, none⟩) l1).trans e1
  have b2 := b1.trans (k2.mono b1.size)
  have l2 := Nat.lt_of_lt_of_le l1 k2.size
  have hM2 := ho2.isM
  have hF2 := ho2.isF
  have hlq2 : qs2.length ≤ 1073741824 := by omega
  clear hl2
  obtain ⟨ob, HO⟩ : ∃ ob, Hid (doorB m qs2 = ob) := ⟨_, rfl⟩
  have HM2 := (show Hid (qs2.map RF.mean = rs.map RF.mean) from hm2)
  clear e0 e1 k2 ho2 hm2
  go_wp2_with fail
  refine (DrS.sdoor_any m _ _ qs2 _ hM2 hF2 (by omega) hlq2 (hszA qs2 HM2.out)).mono ?_
  rintro e w3 ⟨rfl, k3⟩
  rw [HO.out]
  have g0 := (k3.cell (p := ⟨w.heap.size, 0, none⟩) l2).trans f0
  have g1 := (k3.cell (p := ⟨w.heap.size, 1, none⟩) l2).trans f1
  have b3 := b2.trans (k3.mono b2.size)
  have l3 := Nat.lt_of_lt_of_le l2 k3.size
  clear f0 f1 k3 hM2 hF2
  go_wp2_with fail
  refine (toDoor_any ma ml mc m _ rs _ (hA.below b3) hml hrl hsm).mono ?_
  rintro e w4 ⟨mv4, fv4, rfl, ⟨qs4, ho4, hm4, hl4⟩, k4⟩
  have m0 := (k4.cell (p := ⟨w.heap.size, 0, none⟩) l3).trans g0
  have m1 := (k4.cell (p := ⟨w.heap.size, 1, none⟩) l3).trans g1
  have b4 := b3.trans (k4.mono b3.size)
  have l4 := Nat.lt_of_lt_of_le l3 k4.size
  have hM4 := ho4.isM
  have hF4 := ho4.isF
  have hlq4 : qs4.length ≤ 1048576 := by omega
  clear hl4
  have HM4 := (show Hid (qs4.map RF.mean = rs.map RF.mean) from hm4)
  obtain ⟨va4, vc4, rfl⟩ := isM_slice hM4
  obtain ⟨fa4, fc4, rfl, -⟩ := id hF4.at_
  clear g0 g1 k4 ho4 hm4
  have bx : Below w4.heap.size w4 (w4.alloc (.cells #[.slice va4 m.length vc4, .slice fa4 qs4.length fc4] 31)) := (Below.refl _ _).alloc (Nat.le_refl _) _
  have hM4' := hM4.below bx
  have hF4' := hF4.below bx
  have herr4 := (herr.below b4).below bx
  go_wp2_with fail
  refine (DrI.doorOk_any m _ _ qs4 _ hM4' hF4' (by omega) (by omega) herr4).mono ?_
  rintro e w5 ⟨rfl, k5⟩
  have hob : doorB m qs4 = ob := by rw [← HO.out]; exact doorB_mean m (HM4.out.trans HM2.out.symm)
  rw [hob]
  have hM5 := hM4'.below k5
  have hF5 := hF4'.below k5
  have z5 := k5.size
  simp at z5
  have c5 := keepc k5 w4.heap.size (by simp)
  have n0 : w5.cell? ⟨w4.heap.size, 0, none⟩ = some (.slice va4 m.length vc4) := by rw [c5 0]; simp [go_sem]
  have n1 : w5.cell? ⟨w4.heap.size, 1, none⟩ = some (.slice fa4 qs4.length fc4) := by rw [c5 1]; simp [go_sem]
  have q0 := (k5.cell (p := ⟨w.heap.size, 0, none⟩) (by simp; omega)).trans ((bx.cell (p := ⟨w.heap.size, 0, none⟩) l4).trans m0)
  have q1 := (k5.cell (p := ⟨w.heap.size, 1, none⟩) (by simp; omega)).trans ((bx.cell (p := ⟨w.heap.size, 1, none⟩) l4).trans m1)
  have b5 := (b4.trans (bx.mono b4.size)).trans (k5.mono (by have := b4.size; simp; omega))
  have l5 : w4.heap.size < w5.heap.size := by omega
  clear k5 c5 bx hM4 hF4 hM4' hF4' m0 m1 herr4
  have hA5 := hA.below b5
  go_wp2_with fail
  go_region_with (first
    | (go_at_call 9; refine (toDoor_any ma ml mc m _ rs _ (by first | exact hA5 | exact hA5.below (Below.refl _ _).drew | exact hA5.below (Below.refl _ _).drew.drew | exact hA5.below (Below.refl _ _).drew.drew.drew) hml hrl hsm).mono ?_; rintro e w6 ⟨mv6, fv6, rfl, ⟨qs6, ho6, hm6, -⟩, k6⟩; have hM6 := ho6.isM; have hF6 := ho6.isF; obtain ⟨va6, vc6, rfl⟩ := isM_slice hM6; obtain ⟨fa6, fc6, rfl, -⟩ := id hF6.at_; have bb : Below w5.heap.size w5 w6 := (by first | exact k6 | exact (Below.refl _ w5).drew.trans k6 | exact (Below.refl _ w5).drew.drew.trans k6 | exact (Below.refl _ w5).drew.drew.drew.trans k6); have o0 := (bb.cell (p := ⟨w4.heap.size, 0, none⟩) l5).trans n0; have o1 := (bb.cell (p := ⟨w4.heap.size, 1, none⟩) l5).trans n1; have hM56 := hM5.below bb; have hF56 := hF5.below bb)
    | (go_at_call 11; refine (eqDoor_true m _ _ _ _ qs4 qs6 _ hml hlq4 (fun r hr => sm_of hsm HM4.out r hr) (HM4.out.trans hm6.symm) (by first | exact hM56 | exact hM56.below (Below.refl _ _).drew | exact hM56.below (Below.refl _ _).drew.drew | exact hM56.below (Below.refl _ _).drew.drew.drew) (by first | exact hM6 | exact hM6.below (Below.refl _ _).drew | exact hM6.below (Below.refl _ _).drew.drew | exact hM6.below (Below.refl _ _).drew.drew.drew) (by first | exact hF56 | exact hF56.below (Below.refl _ _).drew | exact hF56.below (Below.refl _ _).drew.drew | exact hF56.below (Below.refl _ _).drew.drew.drew) (by first | exact hF6 | exact hF6.below (Below.refl _ _).drew | exact hF6.below (Below.refl _ _).drew.drew | exact hF6.below (Below.refl _ _).drew.drew.drew)).mono ?_; rintro e w7 ⟨rfl, k7⟩; have bc : Below w6.heap.size w6 w7 := (by first | exact k7 | exact (Below.refl _ w6).drew.trans k7 | exact (Below.refl _ w6).drew.drew.trans k7 | exact (Below.refl _ w6).drew.drew.drew.trans k7)))
  all_goals
    go_wp2
    go_ret
    have b7 := (b5.trans (bb.mono b5.size)).trans (bc.mono (Nat.le_trans b5.size bb.size))
    first | exact ⟨rfl, b7⟩ | exact ⟨rfl, b7.drew⟩ | exact ⟨rfl, b7.drew.drew⟩ | exact ⟨rfl, b7.drew.drew.drew⟩
end Go.Proofs.YtfmjhbdbgcgoiaaGreatDoor.XDoorOk

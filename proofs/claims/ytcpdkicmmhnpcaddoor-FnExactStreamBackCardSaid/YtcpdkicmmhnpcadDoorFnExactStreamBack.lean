/- The walk of the exact law on StreamBack: it answers true. -/
import Derived.Test.YtcpdkicmmhnpcadDoorExT
import Derived.Test.YtcpdkicmmhnpcadDoorStE
import Derived.Test.YtcpdkicmmhnpcadDoorSsC
import Derived.Test.YtcpdkicmmhnpcadDoorLaid
namespace Go.Proofs.YtcpdkicmmhnpcadDoor.XStreamBack
open Go.RowKit Go.Proofs.YtcpdkicmmhnpcadDoor.Kit Go.Proofs.YtcpdkicmmhnpcadDoor.App Go.Proofs.YtcpdkicmmhnpcadDoor.Tx Go.Proofs.YtcpdkicmmhnpcadDoor.St Go.Proofs.YtcpdkicmmhnpcadDoor.StS Go.Proofs.YtcpdkicmmhnpcadDoor.ExT
open Go.Proofs.YtcpdkicmmhnpcadDoor.Read (Errs)
set_option linter.unusedVariables false
set_option linter.unusedSimpArgs false

set_option maxRecDepth 8000 in
set_option maxHeartbeats 1000000 in
theorem long (s : ByteArray) (v : Value) (ps : List (Int × ByteArray)) (n : Int) (w : World) (hA : ArgS w s v ps) (h : ¬ (bulkS s ps : Int) ≤ 1048576) :
    Calls Tryd.prog 3 #[.agg #[.string s, v], .int .i64 n] w fun e w' => e = .returned (.bool true) ∧ Below w.heap.size w w' := by
  have bA : Below w.heap.size w (w.alloc (.cells #[.string s, v] 24)) := (Below.refl _ _).alloc (Nat.le_refl _) _
  have hA1 := hA.alloc (.cells #[.string s, v] 24)
  have hz : leftZ 1048576 (bulkS s ps) = -1 := if_neg h
  obtain ⟨a, cap, rfl, _⟩ := hA.hT
  go_enter Tryd.func3, Tryd.ntmps3
  go_wp2_with fail
  refine (szStream_any s _ ps 1048576 (by omega) _ hA1).mono ?_
  rintro e w1 ⟨rfl, k1⟩
  rw [hz]
  go_wp2
  go_ret
  exact ⟨rfl, bA.trans (k1.mono (by simp))⟩

set_option maxRecDepth 8000 in
set_option maxHeartbeats 8000000 in
theorem short (s : ByteArray) (v : Value) (ps : List (Int × ByteArray)) (n : Int) (w : World) (hA : ArgS w s v ps) (h : (bulkS s ps : Int) ≤ 1048576) (herr : Errs w) :
    Calls Tryd.prog 3 #[.agg #[.string s, v], .int .i64 n] w fun e w' => e = .returned (.bool true) ∧ Below w.heap.size w w' := by
  have bA : Below w.heap.size w (w.alloc (.cells #[.string s, v] 24)) := (Below.refl _ _).alloc (Nat.le_refl _) _
  have hA1 := hA.alloc (.cells #[.string s, v] 24)
  have hz : leftZ 1048576 (bulkS s ps) = 1048576 - ((bulkS s ps : Nat) : Int) := if_pos h
  have h0 : 0 ≤ 1048576 - ((bulkS s ps : Nat) : Int) := by omega
  have hs : s.size ≤ 1073741824 := by unfold bulkS at h; omega
  have hl : ps.length ≤ 1048576 := by unfold bulkS bulkT at h; omega
  have hps : ∀ p ∈ ps, p.2.size ≤ 1073741824 := fun p hp => by have := txtT_mem hp; unfold bulkS bulkT at h; omega
  obtain ⟨ob, HO⟩ : ∃ ob, Hid (backZ s ps n = ob) := ⟨_, rfl⟩
  have hT0 := hA.hT
  obtain ⟨a, cap, rfl, _⟩ := hA.hT
  go_enter Tryd.func3, Tryd.ntmps3
  go_wp2_with fail
  refine (szStream_any s _ ps 1048576 (by omega) _ hA1).mono ?_
  rintro e w1 ⟨rfl, k1⟩
  rw [hz]
  have c1 := keepc k1 w.heap.size (by simp)
  have e0 : w1.cell? ⟨w.heap.size, 0, none⟩ = some (.string s) := by rw [c1 0]; simp [go_sem]
  have e1 : w1.cell? ⟨w.heap.size, 1, none⟩ = some (.slice a ps.length cap) := by rw [c1 1]; simp [go_sem]
  have b1 := bA.trans (k1.mono (by simp))
  have l1 : w.heap.size < w1.heap.size := by have := k1.size; simp at this; omega
  clear c1 k1 hA1 bA hz
  generalize hL : 1048576 - ((bulkS s ps : Nat) : Int) = L at h0
  go_wp2_with fail
  refine (toStream_any _ s _ ps (hT0.below b1) hl).mono ?_
  rintro e w2 ⟨v2, rfl, ⟨base2, _, hr2⟩, k2⟩
  have hv2 := isT_of_row hr2
  have f0 := (k2.cell (p := ⟨w.heap.size, 0, none⟩) l1).trans e0
  have f1 := (k2.cell (p := ⟨w.heap.size, 1, none⟩) l1).trans e1
  have b2 := b1.trans (k2.mono b1.size)
  have l2 := Nat.lt_of_lt_of_le l1 k2.size
  clear hr2 k2 e0 e1
  go_wp2_with fail
  refine (sback_any s _ ps n _ hv2 hs hps).mono ?_
  rintro e w3 ⟨rfl, k3⟩
  rw [HO.out]
  have g0 := (k3.cell (p := ⟨w.heap.size, 0, none⟩) l2).trans f0
  have g1 := (k3.cell (p := ⟨w.heap.size, 1, none⟩) l2).trans f1
  have b3 := b2.trans (k3.mono b2.size)
  have l3 := Nat.lt_of_lt_of_le l2 k3.size
  clear k3 f0 f1 hv2
  go_wp2_with fail
  refine (toStream_any _ s _ ps (hT0.below b3) hl).mono ?_
  rintro e w4 ⟨v4, rfl, ⟨base4, _, hr4⟩, k4⟩
  have hv4 := isT_of_row hr4
  have m0 := (k4.cell (p := ⟨w.heap.size, 0, none⟩) l3).trans g0
  have m1 := (k4.cell (p := ⟨w.heap.size, 1, none⟩) l3).trans g1
  have b4 := b3.trans (k4.mono b3.size)
  have l4 := Nat.lt_of_lt_of_le l3 k4.size
  clear hr4 k4 g0 g1
  obtain ⟨a4, cap4, rfl, _⟩ := id hv4
  have bx : Below w4.heap.size w4 (w4.alloc (.cells #[.string s, .slice a4 ps.length cap4] 29)) := (Below.refl _ _).alloc (Nat.le_refl _) _
  have hv4' := hv4.below bx
  have herr4 := (herr.below b4).below bx
  go_wp2_with fail
  refine (back_stream s _ ps n _ hv4' herr4).mono ?_
  rintro e w5 ⟨rfl, k5⟩
  rw [HO.out]
  have hv5 := hv4'.below k5
  have z5 := k5.size
  simp at z5
  have c5 := keepc k5 w4.heap.size (by simp)
  have n0 : w5.cell? ⟨w4.heap.size, 0, none⟩ = some (.string s) := by rw [c5 0]; simp [go_sem]
  have n1 : w5.cell? ⟨w4.heap.size, 1, none⟩ = some (.slice a4 ps.length cap4) := by rw [c5 1]; simp [go_sem]
  have q0 := (k5.cell (p := ⟨w.heap.size, 0, none⟩) (by simp; omega)).trans ((bx.cell (p := ⟨w.heap.size, 0, none⟩) l4).trans m0)
  have q1 := (k5.cell (p := ⟨w.heap.size, 1, none⟩) (by simp; omega)).trans ((bx.cell (p := ⟨w.heap.size, 1, none⟩) l4).trans m1)
  have b5 := (b4.trans (bx.mono b4.size)).trans (k5.mono (by have := b4.size; simp; omega))
  have l5 : w4.heap.size < w5.heap.size := by omega
  clear k5 c5 bx hv4 hv4' m0 m1 herr4
  have hT5 := hT0.below b5
  go_wp2_with fail
  go_region_with (first
    | (go_at_call 6; refine (toStream_any _ s _ ps (by first | exact hT5 | exact hT5.below (Below.refl _ _).drew | exact hT5.below (Below.refl _ _).drew.drew | exact hT5.below (Below.refl _ _).drew.drew.drew) hl).mono ?_; rintro e w6 ⟨v6, rfl, ⟨base6, _, hr6⟩, k6⟩; obtain ⟨a6, cap6, rfl, _⟩ := isT_of_row hr6; have hv6 := isT_of_row hr6; have bb : Below w5.heap.size w5 w6 := (by first | exact k6 | exact (Below.refl _ w5).drew.trans k6 | exact (Below.refl _ w5).drew.drew.trans k6 | exact (Below.refl _ w5).drew.drew.drew.trans k6); have o0 := (bb.cell (p := ⟨w4.heap.size, 0, none⟩) l5).trans n0; have o1 := (bb.cell (p := ⟨w4.heap.size, 1, none⟩) l5).trans n1; have hv56 := hv5.below bb)
    | (go_at_call 8; refine (eqStream_true _ s ps hl _ _ (by first | exact hv56 | exact hv56.below (Below.refl _ _).drew | exact hv56.below (Below.refl _ _).drew.drew | exact hv56.below (Below.refl _ _).drew.drew.drew) (by first | exact hv6 | exact hv6.below (Below.refl _ _).drew | exact hv6.below (Below.refl _ _).drew.drew | exact hv6.below (Below.refl _ _).drew.drew.drew)).mono ?_; rintro e w7 ⟨rfl, k7⟩; have bc : Below w6.heap.size w6 w7 := (by first | exact k7 | exact (Below.refl _ w6).drew.trans k7 | exact (Below.refl _ w6).drew.drew.trans k7 | exact (Below.refl _ w6).drew.drew.drew.trans k7)))
  all_goals
    go_wp2
    go_ret
    have b7 := (b5.trans (bb.mono b5.size)).trans (bc.mono (Nat.le_trans b5.size bb.size))
    first | exact ⟨rfl, b7⟩ | exact ⟨rfl, b7.drew⟩ | exact ⟨rfl, b7.drew.drew⟩ | exact ⟨rfl, b7.drew.drew.drew⟩
end Go.Proofs.YtcpdkicmmhnpcadDoor.XStreamBack

/- Walks: what is ok, by the model. -/
import Derived.Test.YtfmjhbdbgcgoiaaGreatDoorRows
import Derived.Test.YtfmjhbdbgcgoiaaGreatDoorTxts
import Derived.WalkKit
import Derived.ProofKit
import Derived.WalkLawsBesides
import Derived.WalkSpells
import Derived.Below
import Derived.LoopN
namespace Go.Proofs.YtfmjhbdbgcgoiaaGreatDoor.TxW
open Go.RowKit Go.Proofs.YtfmjhbdbgcgoiaaGreatDoor.Kit Go.Proofs.YtfmjhbdbgcgoiaaGreatDoor.Tx

theorem nat_eq (c : UInt8) (n : Nat) (h : c.toNat = n) (hn : n < 256) : c = n.toUInt8 := by
  apply UInt8.toNat_inj.1; simp [h, Nat.toUInt8]; omega

set_option maxHeartbeats 1000000 in
theorem sbyte_any (c : UInt8) (w : World) :
    Calls Tryz.prog 94 #[.int .u8 (c.toNat : Int)] w fun e w' => e = .returned (.bool (byteB c)) ∧ w' = w := by
  have hc : c.toNat < 256 := c.toNat_lt
  have hb : byteB c = decide (97 ≤ c.toNat ∧ c.toNat ≤ 122 ∨ 48 ≤ c.toNat ∧ c.toNat ≤ 57 ∨ c.toNat = 64 ∨ c.toNat = 58 ∨ c.toNat = 59) := rfl
  generalize byteB c = bb at hb ⊢
  generalize c.toNat = n at *
  by_cases h1 : 97 ≤ n
  · have g1 : (97 : Int) ≤ n := by omega
    have b4 : ((n : Int) == 64) = false := by simp; omega
    have b5 : ((n : Int) == 58) = false := by simp; omega
    have b6 : ((n : Int) == 59) = false := by simp; omega
    have g3 : (48 : Int) ≤ n := by omega
    have g4 : (57 : Int) < n := by omega
    by_cases h2 : n ≤ 122
    · have g2 : (n : Int) ≤ 122 := by omega
      obtain rfl : bb = true := by rw [hb]; simp; omega
      clear hb
      go_enter Tryz.func94, Tryz.ntmps94
      go_wp2
      go_ret
      refine ⟨congrArg (fun b => Ending.returned (Value.bool b)) ?_, rfl⟩
      first | rfl | (simp; omega)
    · have g2 : (122 : Int) < n := by omega
      obtain rfl : bb = false := by rw [hb]; simp; omega
      clear hb
      go_enter Tryz.func94, Tryz.ntmps94
      go_wp2
      go_ret
      refine ⟨congrArg (fun b => Ending.returned (Value.bool b)) ?_, rfl⟩
      first | rfl | (simp; omega)
  · have g1 : (n : Int) < 97 := by omega
    by_cases h3 : 48 ≤ n
    · have g3 : (48 : Int) ≤ n := by omega
      by_cases h4 : n ≤ 57
      · have g4 : (n : Int) ≤ 57 := by omega
        obtain rfl : bb = true := by rw [hb]; simp; omega
        clear hb
        go_enter Tryz.func94, Tryz.ntmps94
        go_wp2
        go_ret
        refine ⟨congrArg (fun b => Ending.returned (Value.bool b)) ?_, rfl⟩
        first | rfl | (simp; omega)
      · have g4 : (57 : Int) < n := by omega
        cases b4 : ((n : Int) == 64) <;> cases b5 : ((n : Int) == 58) <;> cases b6 : ((n : Int) == 59)
        all_goals
          have hb2 : bb = (((n : Int) == 64) || ((n : Int) == 58) || ((n : Int) == 59)) := by
            rw [hb, Bool.eq_iff_iff]; simp; omega
          rw [b4, b5, b6] at hb2
          first
          | (obtain rfl : bb = true := hb2)
          | (obtain rfl : bb = false := hb2)
          clear hb
          go_enter Tryz.func94, Tryz.ntmps94
          go_wp2
          go_ret
          refine ⟨congrArg (fun b => Ending.returned (Value.bool b)) ?_, rfl⟩
          first | rfl | (simp; omega)
    · have g3 : (n : Int) < 48 := by omega
      have b4 : ((n : Int) == 64) = false := by simp; omega
      have b5 : ((n : Int) == 58) = false := by simp; omega
      have b6 : ((n : Int) == 59) = false := by simp; omega
      obtain rfl : bb = false := by rw [hb]; simp; omega
      clear hb
      go_enter Tryz.func94, Tryz.ntmps94
      go_wp2
      go_ret
      refine ⟨congrArg (fun b => Ending.returned (Value.bool b)) ?_, rfl⟩
      first | rfl | (simp; omega)

set_option maxHeartbeats 1000000 in
theorem sok_any (s : ByteArray) (hsz : s.size ≤ maxLen) (w : World) :
    Calls Tryz.prog 58 #[.string s] w fun e w' => e = .returned (.bool (okB s.data.toList)) ∧ w' = w := by
  have hs := lenL s
  unfold maxLen at hsz
  go_enter Tryz.func58, Tryz.ntmps58
  go_wp2
  go_loop [3] (fun i => ∃ k : Nat, k ≤ s.size ∧ i = .int .i64 k ∧ (s.data.toList.take k).all byteB = true) (fun i => s.size - (intOf i).toNat)
  case atStart => exact ⟨0, Nat.zero_le _, rfl, rfl⟩
  case round =>
    obtain ⟨k, hk, rfl, hall⟩ := hrel
    by_cases hlt : k < s.size
    · have hlt' : (k : Int) < s.size := by omega
      cases hb : byteB (s.data[k]'hlt)
      · have hr := ok_bad s.data.toList k (by rw [lenL]; exact hlt) hb
        go_wp2_with fail
        refine (sbyte_any _ _).mono ?_
        rintro e w1 ⟨rfl, rfl⟩
        first | rw [hb] | rw [show byteB (s[k]'hlt) = _ from hb]
        go_wp2
        go_ret
        exact ⟨by first | rfl | (rw [hr]; rfl), rfl⟩
      · have hn : (s.data.toList.take (k + 1)).all byteB = true := by
          have h0 := all_take s.data.toList k (by rw [lenL]; exact hlt)
          rw [hall] at h0
          exact h0.trans hb
        go_wp2_with fail
        refine (sbyte_any _ _).mono ?_
        rintro e w1 ⟨rfl, rfl⟩
        first | rw [hb] | rw [show byteB (s[k]'hlt) = _ from hb]
        go_wp2
        go_round
        case rel => exact ⟨k + 1, by omega, by go_num, hn⟩
        case measure => simp [intOf]; omega
    · have hge : (s.size : Int) ≤ k := by omega
      have hr : okB s.data.toList = decide ((s.size : Int) ≤ 40) := by
        rw [List.take_of_length_le (by omega)] at hall
        unfold okB
        rw [hall, Bool.and_true, lenL, Bool.eq_iff_iff]; simp; omega
      go_wp2
      go_ret
      exact ⟨by first | rfl | (rw [hr]; rfl), rfl⟩
end Go.Proofs.YtfmjhbdbgcgoiaaGreatDoor.TxW

/- Walks: what may become a name, by the model. -/
namespace Go.Proofs.YtfmjhbdbgcgoiaaGreatDoor.TxW
open Go.RowKit Go.Proofs.YtfmjhbdbgcgoiaaGreatDoor.Kit Go.Proofs.YtfmjhbdbgcgoiaaGreatDoor.Tx

/-- what a byte is as a figure -/
def digC (c : UInt8) : Int := if c.toNat < 48 ∨ 57 < c.toNat then -1 else (c.toNat : Int) - 48

set_option maxHeartbeats 400000 in
theorem digC_any (c : UInt8) (w : World) :
    Calls Tryz.prog 148 #[.int .u8 (c.toNat : Int)] w fun e w' => e = .returned (.int .i64 (digC c)) ∧ w' = w := by
  have hc : c.toNat < 256 := c.toNat_lt
  by_cases h1 : c.toNat < 48
  · have e0 : digC c = -1 := by unfold digC; rw [if_pos (by omega)]
    rw [e0]
    have hi : (c.toNat : Int) < 48 := by omega
    go_enter Tryz.func148, Tryz.ntmps148
    go_wp2
    go_ret
    exact ⟨rfl, rfl⟩
  · by_cases h2 : 57 < c.toNat
    · have e0 : digC c = -1 := by unfold digC; rw [if_pos (by omega)]
      rw [e0]
      have hi : 48 ≤ (c.toNat : Int) := by omega
      have hj : 57 < (c.toNat : Int) := by omega
      go_enter Tryz.func148, Tryz.ntmps148
      go_wp2
      go_ret
      exact ⟨rfl, rfl⟩
    · have e0 : digC c = (c.toNat : Int) - 48 := by unfold digC; rw [if_neg (by omega)]
      rw [e0]
      have hi : 48 ≤ (c.toNat : Int) := by omega
      have hj : (c.toNat : Int) ≤ 57 := by omega
      go_enter Tryz.func148, Tryz.ntmps148
      go_wp2
      go_ret
      exact ⟨rfl, rfl⟩

/-- does a number lie between two -/
def btB (n low high : Int) : Bool := decide (low ≤ n) && decide (n ≤ high)
set_option maxHeartbeats 400000 in
theorem bt_any (n low high : Int) (w : World) :
    Calls Tryz.prog 55 #[.int .i64 n, .int .i64 low, .int .i64 high] w fun e w' => e = .returned (.bool (btB n low high)) ∧ w' = w := by
  by_cases h1 : low ≤ n
  · by_cases h2 : n ≤ high
    all_goals
      go_enter Tryz.func55, Tryz.ntmps55
      go_wp2
      go_ret
      exact ⟨by simp [btB, h1, h2], rfl⟩
  · go_enter Tryz.func55, Tryz.ntmps55
    go_wp2
    go_ret
    exact ⟨by simp [btB]; omega, rfl⟩

theorem beg_none (s : ByteArray) (h : btB (s.size : Int) 1 5 = false) : begB s.data.toList = false := by
  simp only [btB, Bool.and_eq_false_iff, decide_eq_false_iff_not] at h
  simp only [begB, lenL, decide_eq_false_iff_not]; omega

theorem getL (s : ByteArray) (i : Nat) (h : i < s.size) : s.data.toList.getD i 0 = s.data[i]'h := by
  rw [List.getD_eq_getElem?_getD, List.getElem?_eq_getElem (by rw [lenL]; exact h)]; rfl
end Go.Proofs.YtfmjhbdbgcgoiaaGreatDoor.TxW

/- Walks: what may become a name, by the model, way by way. -/
namespace Go.Proofs.YtfmjhbdbgcgoiaaGreatDoor.TxW
open Go.RowKit Go.Proofs.YtfmjhbdbgcgoiaaGreatDoor.Kit Go.Proofs.YtfmjhbdbgcgoiaaGreatDoor.Tx
set_option linter.unusedVariables false

set_option maxHeartbeats 2000000 in
theorem bg_size (s : ByteArray) (w : World) (hn : btB (s.size : Int) 1 5 = false) :
    Calls Tryz.prog 131 #[.string s] w fun e w' => e = .returned (.bool false) ∧ Below w.heap.size w w' := by
  go_enter Tryz.func131, Tryz.ntmps131
  go_wp2_with (first | (go_at_call 55; refine (bt_any _ _ _ _).mono ?_; rintro e w1 ⟨rfl, rfl⟩) | (go_at_call 148; refine (digC_any _ _).mono ?_; rintro e w1 ⟨rfl, rfl⟩))
  go_ret
  refine ⟨congrArg (fun b => Ending.returned (Value.bool b)) ?_, Below.refl _ _⟩
  first | rfl | (simp; omega)

set_option maxHeartbeats 2000000 in
theorem bg_0 (s : ByteArray) (w : World) (hn : btB (s.size : Int) 1 5 = true) (h0 : 0 < s.size) (a0 : ¬ ((s[0]'h0).toNat : Int) = 64) :
    Calls Tryz.prog 131 #[.string s] w fun e w' => e = .returned (.bool false) ∧ Below w.heap.size w w' := by
  go_enter Tryz.func131, Tryz.ntmps131
  go_wp2_with (first | (go_at_call 55; refine (bt_any _ _ _ _).mono ?_; rintro e w1 ⟨rfl, rfl⟩) | (go_at_call 148; refine (digC_any _ _).mono ?_; rintro e w1 ⟨rfl, rfl⟩))
  go_ret
  refine ⟨congrArg (fun b => Ending.returned (Value.bool b)) ?_, Below.refl _ _⟩
  first | rfl | (simp; omega)

set_option maxHeartbeats 2000000 in
theorem bg_1 (s : ByteArray) (w : World) (hn : btB (s.size : Int) 1 5 = true) (h0 : 0 < s.size) (a0 : ((s[0]'h0).toNat : Int) = 64) (g1 : (1 : Int) < s.size) (h1 : 1 < s.size) (a1 : digC (s[1]'h1) < 1) :
    Calls Tryz.prog 131 #[.string s] w fun e w' => e = .returned (.bool false) ∧ Below w.heap.size w w' := by
  go_enter Tryz.func131, Tryz.ntmps131
  go_wp2_with (first | (go_at_call 55; refine (bt_any _ _ _ _).mono ?_; rintro e w1 ⟨rfl, rfl⟩) | (go_at_call 148; refine (digC_any _ _).mono ?_; rintro e w1 ⟨rfl, rfl⟩))
  go_ret
  refine ⟨congrArg (fun b => Ending.returned (Value.bool b)) ?_, Below.refl _ _⟩
  first | rfl | (simp; omega)

set_option maxHeartbeats 2000000 in
theorem bg_2 (s : ByteArray) (w : World) (hn : btB (s.size : Int) 1 5 = true) (h0 : 0 < s.size) (a0 : ((s[0]'h0).toNat : Int) = 64) (g1 : (1 : Int) < s.size) (h1 : 1 < s.size) (a1 : 1 ≤ digC (s[1]'h1)) (g2 : (2 : Int) < s.size) (h2 : 2 < s.size) (a2 : ¬ ((s[2]'h2).toNat : Int) = 58) :
    Calls Tryz.prog 131 #[.string s] w fun e w' => e = .returned (.bool false) ∧ Below w.heap.size w w' := by
  go_enter Tryz.func131, Tryz.ntmps131
  go_wp2_with (first | (go_at_call 55; refine (bt_any _ _ _ _).mono ?_; rintro e w1 ⟨rfl, rfl⟩) | (go_at_call 148; refine (digC_any _ _).mono ?_; rintro e w1 ⟨rfl, rfl⟩))
  go_ret
  refine ⟨congrArg (fun b => Ending.returned (Value.bool b)) ?_, Below.refl _ _⟩
  first | rfl | (simp; omega)

set_option maxHeartbeats 2000000 in
theorem bg_3 (s : ByteArray) (w : World) (hn : btB (s.size : Int) 1 5 = true) (h0 : 0 < s.size) (a0 : ((s[0]'h0).toNat : Int) = 64) (g1 : (1 : Int) < s.size) (h1 : 1 < s.size) (a1 : 1 ≤ digC (s[1]'h1)) (g2 : (2 : Int) < s.size) (h2 : 2 < s.size) (a2 : ((s[2]'h2).toNat : Int) = 58) (g3 : (3 : Int) < s.size) (h3 : 3 < s.size) (a3 : digC (s[3]'h3) < 1) :
    Calls Tryz.prog 131 #[.string s] w fun e w' => e = .returned (.bool false) ∧ Below w.heap.size w w' := by
  go_enter Tryz.func131, Tryz.ntmps131
  go_wp2_with (first | (go_at_call 55; refine (bt_any _ _ _ _).mono ?_; rintro e w1 ⟨rfl, rfl⟩) | (go_at_call 148; refine (digC_any _ _).mono ?_; rintro e w1 ⟨rfl, rfl⟩))
  go_ret
  refine ⟨congrArg (fun b => Ending.returned (Value.bool b)) ?_, Below.refl _ _⟩
  first | rfl | (simp; omega)

set_option maxHeartbeats 2000000 in
theorem bg_4 (s : ByteArray) (w : World) (hn : btB (s.size : Int) 1 5 = true) (h0 : 0 < s.size) (a0 : ((s[0]'h0).toNat : Int) = 64) (g1 : (1 : Int) < s.size) (h1 : 1 < s.size) (a1 : 1 ≤ digC (s[1]'h1)) (g2 : (2 : Int) < s.size) (h2 : 2 < s.size) (a2 : ((s[2]'h2).toNat : Int) = 58) (g3 : (3 : Int) < s.size) (h3 : 3 < s.size) (a3 : 1 ≤ digC (s[3]'h3)) (g5 : (5 : Int) ≤ s.size) (g4 : (4 : Int) < s.size) (h4 : 4 < s.size) (a4 : digC (s[4]'h4) < 0) :
    Calls Tryz.prog 131 #[.string s] w fun e w' => e = .returned (.bool false) ∧ Below w.heap.size w w' := by
  go_enter Tryz.func131, Tryz.ntmps131
  go_wp2_with (first | (go_at_call 55; refine (bt_any _ _ _ _).mono ?_; rintro e w1 ⟨rfl, rfl⟩) | (go_at_call 148; refine (digC_any _ _).mono ?_; rintro e w1 ⟨rfl, rfl⟩))
  go_ret
  refine ⟨congrArg (fun b => Ending.returned (Value.bool b)) ?_, Below.refl _ _⟩
  first | rfl | (simp; omega)

set_option maxHeartbeats 2000000 in
theorem by_5 (s : ByteArray) (w : World) (hn : btB (s.size : Int) 1 5 = true) (h0 : 0 < s.size) (a0 : ((s[0]'h0).toNat : Int) = 64) (g1 : (1 : Int) < s.size) (h1 : 1 < s.size) (a1 : 1 ≤ digC (s[1]'h1)) (g2 : (2 : Int) < s.size) (h2 : 2 < s.size) (a2 : ((s[2]'h2).toNat : Int) = 58) (g3 : (3 : Int) < s.size) (h3 : 3 < s.size) (a3 : 1 ≤ digC (s[3]'h3)) (g5 : (5 : Int) ≤ s.size) (g4 : (4 : Int) < s.size) (h4 : 4 < s.size) (a4 : 0 ≤ digC (s[4]'h4)) :
    Calls Tryz.prog 131 #[.string s] w fun e w' => e = .returned (.bool true) ∧ Below w.heap.size w w' := by
  go_enter Tryz.func131, Tryz.ntmps131
  go_wp2_with (first | (go_at_call 55; refine (bt_any _ _ _ _).mono ?_; rintro e w1 ⟨rfl, rfl⟩) | (go_at_call 148; refine (digC_any _ _).mono ?_; rintro e w1 ⟨rfl, rfl⟩))
  go_ret
  refine ⟨congrArg (fun b => Ending.returned (Value.bool b)) ?_, Below.refl _ _⟩
  first | rfl | (simp; omega)

set_option maxHeartbeats 2000000 in
theorem by_4 (s : ByteArray) (w : World) (hn : btB (s.size : Int) 1 5 = true) (h0 : 0 < s.size) (a0 : ((s[0]'h0).toNat : Int) = 64) (g1 : (1 : Int) < s.size) (h1 : 1 < s.size) (a1 : 1 ≤ digC (s[1]'h1)) (g2 : (2 : Int) < s.size) (h2 : 2 < s.size) (a2 : ((s[2]'h2).toNat : Int) = 58) (g3 : (3 : Int) < s.size) (h3 : 3 < s.size) (a3 : 1 ≤ digC (s[3]'h3)) (g5 : (s.size : Int) < 5)  :
    Calls Tryz.prog 131 #[.string s] w fun e w' => e = .returned (.bool true) ∧ Below w.heap.size w w' := by
  go_enter Tryz.func131, Tryz.ntmps131
  go_wp2_with (first | (go_at_call 55; refine (bt_any _ _ _ _).mono ?_; rintro e w1 ⟨rfl, rfl⟩) | (go_at_call 148; refine (digC_any _ _).mono ?_; rintro e w1 ⟨rfl, rfl⟩))
  go_ret
  refine ⟨congrArg (fun b => Ending.returned (Value.bool b)) ?_, Below.refl _ _⟩
  first | rfl | (simp; omega)

set_option maxHeartbeats 2000000 in
theorem by_3 (s : ByteArray) (w : World) (hn : btB (s.size : Int) 1 5 = true) (h0 : 0 < s.size) (a0 : ((s[0]'h0).toNat : Int) = 64) (g1 : (1 : Int) < s.size) (h1 : 1 < s.size) (a1 : 1 ≤ digC (s[1]'h1)) (g2 : (2 : Int) < s.size) (h2 : 2 < s.size) (a2 : ((s[2]'h2).toNat : Int) = 58) (g3 : (s.size : Int) ≤ 3) (g5 : (s.size : Int) < 5)  :
    Calls Tryz.prog 131 #[.string s] w fun e w' => e = .returned (.bool true) ∧ Below w.heap.size w w' := by
  go_enter Tryz.func131, Tryz.ntmps131
  go_wp2_with (first | (go_at_call 55; refine (bt_any _ _ _ _).mono ?_; rintro e w1 ⟨rfl, rfl⟩) | (go_at_call 148; refine (digC_any _ _).mono ?_; rintro e w1 ⟨rfl, rfl⟩))
  go_ret
  refine ⟨congrArg (fun b => Ending.returned (Value.bool b)) ?_, Below.refl _ _⟩
  first | rfl | (simp; omega)

set_option maxHeartbeats 2000000 in
theorem by_2 (s : ByteArray) (w : World) (hn : btB (s.size : Int) 1 5 = true) (h0 : 0 < s.size) (a0 : ((s[0]'h0).toNat : Int) = 64) (g1 : (1 : Int) < s.size) (h1 : 1 < s.size) (a1 : 1 ≤ digC (s[1]'h1)) (g2 : (s.size : Int) ≤ 2) (g3 : (s.size : Int) ≤ 3) (g5 : (s.size : Int) < 5)  :
    Calls Tryz.prog 131 #[.string s] w fun e w' => e = .returned (.bool true) ∧ Below w.heap.size w w' := by
  go_enter Tryz.func131, Tryz.ntmps131
  go_wp2_with (first | (go_at_call 55; refine (bt_any _ _ _ _).mono ?_; rintro e w1 ⟨rfl, rfl⟩) | (go_at_call 148; refine (digC_any _ _).mono ?_; rintro e w1 ⟨rfl, rfl⟩))
  go_ret
  refine ⟨congrArg (fun b => Ending.returned (Value.bool b)) ?_, Below.refl _ _⟩
  first | rfl | (simp; omega)

set_option maxHeartbeats 2000000 in
theorem by_1 (s : ByteArray) (w : World) (hn : btB (s.size : Int) 1 5 = true) (h0 : 0 < s.size) (a0 : ((s[0]'h0).toNat : Int) = 64) (g1 : (s.size : Int) ≤ 1) (g2 : (s.size : Int) ≤ 2) (g3 : (s.size : Int) ≤ 3) (g5 : (s.size : Int) < 5)  :
    Calls Tryz.prog 131 #[.string s] w fun e w' => e = .returned (.bool true) ∧ Below w.heap.size w w' := by
  go_enter Tryz.func131, Tryz.ntmps131
  go_wp2_with (first | (go_at_call 55; refine (bt_any _ _ _ _).mono ?_; rintro e w1 ⟨rfl, rfl⟩) | (go_at_call 148; refine (digC_any _ _).mono ?_; rintro e w1 ⟨rfl, rfl⟩))
  go_ret
  refine ⟨congrArg (fun b => Ending.returned (Value.bool b)) ?_, Below.refl _ _⟩
  first | rfl | (simp; omega)


theorem dig1 (c : UInt8) : 1 ≤ digC c ↔ 49 ≤ c.toNat ∧ c.toNat ≤ 57 := by
  unfold digC; split <;> omega
theorem dig0 (c : UInt8) : 0 ≤ digC c ↔ 48 ≤ c.toNat ∧ c.toNat ≤ 57 := by
  unfold digC; split <;> omega

theorem begins_any (s : ByteArray) (w : World) :
    Calls Tryz.prog 131 #[.string s] w fun e w' => e = .returned (.bool (begB s.data.toList)) ∧ Below w.heap.size w w' := by
  cases hn : btB (s.size : Int) 1 5
  · rw [beg_none s hn]; exact bg_size s w hn
  have hb := hn
  simp only [btB, Bool.and_eq_true, decide_eq_true_eq] at hb
  have h0 : 0 < s.size := by omega
  have e0 := getL s 0 h0
  have bd : begB s.data.toList = decide ((s.data.toList.getD 0 0).toNat = 64 ∧ (1 < s.size → 49 ≤ (s.data.toList.getD 1 0).toNat ∧ (s.data.toList.getD 1 0).toNat ≤ 57) ∧ (2 < s.size → (s.data.toList.getD 2 0).toNat = 58)
    ∧ (3 < s.size → 49 ≤ (s.data.toList.getD 3 0).toNat ∧ (s.data.toList.getD 3 0).toNat ≤ 57) ∧ (4 < s.size → 48 ≤ (s.data.toList.getD 4 0).toNat ∧ (s.data.toList.getD 4 0).toNat ≤ 57)) := by
    unfold begB
    rw [lenL, decide_eq_decide]
    omega
  rw [bd]
  by_cases a0 : ((s[0]'h0).toNat : Int) = 64
  case neg =>
    rw [e0, decide_eq_false (fun h => a0 (by have := h.1; exact_mod_cast this))]
    exact bg_0 s w hn h0 a0
  have a0' : (s.data[0]'h0).toNat = 64 := by have : (s[0]'h0).toNat = 64 := by omega
                                             exact this
  by_cases g1 : (1 : Int) < s.size
  case neg =>
    rw [e0, a0', decide_eq_true (by omega)]
    exact by_1 s w hn h0 a0 (by omega) (by omega) (by omega) (by omega)
  have h1 : 1 < s.size := by omega
  have e1 := getL s 1 h1
  by_cases a1 : 1 ≤ digC (s[1]'h1)
  case neg =>
    have : ¬ (49 ≤ (s.data[1]'h1).toNat ∧ (s.data[1]'h1).toNat ≤ 57) := fun h => a1 ((dig1 _).2 h)
    rw [e0, e1, a0', decide_eq_false (by omega)]
    exact bg_1 s w hn h0 a0 g1 h1 (by omega)
  have a1' : 49 ≤ (s.data[1]'h1).toNat ∧ (s.data[1]'h1).toNat ≤ 57 := (dig1 _).1 a1
  by_cases g2 : (2 : Int) < s.size
  case neg =>
    rw [e0, e1, a0', decide_eq_true (by omega)]
    exact by_2 s w hn h0 a0 g1 h1 a1 (by omega) (by omega) (by omega)
  have h2 : 2 < s.size := by omega
  have e2 := getL s 2 h2
  by_cases a2 : ((s[2]'h2).toNat : Int) = 58
  case neg =>
    have : ¬ (s.data[2]'h2).toNat = 58 := fun h => a2 (by have h' : (s[2]'h2).toNat = 58 := h
                                                          omega)
    rw [e0, e1, e2, a0', decide_eq_false (by omega)]
    exact bg_2 s w hn h0 a0 g1 h1 a1 g2 h2 a2
  have a2' : (s.data[2]'h2).toNat = 58 := by have : (s[2]'h2).toNat = 58 := by omega
                                             exact this
  by_cases g3 : (3 : Int) < s.size
  case neg =>
    rw [e0, e1, e2, a0', decide_eq_true (by omega)]
    exact by_3 s w hn h0 a0 g1 h1 a1 g2 h2 a2 (by omega) (by omega)
  have h3 : 3 < s.size := by omega
  have e3 := getL s 3 h3
  by_cases a3 : 1 ≤ digC (s[3]'h3)
  case neg =>
    have : ¬ (49 ≤ (s.data[3]'h3).toNat ∧ (s.data[3]'h3).toNat ≤ 57) := fun h => a3 ((dig1 _).2 h)
    rw [e0, e1, e2, e3, a0', decide_eq_false (by omega)]
    exact bg_3 s w hn h0 a0 g1 h1 a1 g2 h2 a2 g3 h3 (by omega)
  have a3' : 49 ≤ (s.data[3]'h3).toNat ∧ (s.data[3]'h3).toNat ≤ 57 := (dig1 _).1 a3
  by_cases g4 : (4 : Int) < s.size
  case neg =>
    rw [e0, e1, e2, e3, a0', decide_eq_true (by omega)]
    exact by_4 s w hn h0 a0 g1 h1 a1 g2 h2 a2 g3 h3 a3 (by omega)
  have h4 : 4 < s.size := by omega
  have e4 := getL s 4 h4
  by_cases a4 : 0 ≤ digC (s[4]'h4)
  case neg =>
    have : ¬ (48 ≤ (s.data[4]'h4).toNat ∧ (s.data[4]'h4).toNat ≤ 57) := fun h => a4 ((dig0 _).2 h)
    rw [e0, e1, e2, e3, e4, a0', decide_eq_false (by omega)]
    exact bg_4 s w hn h0 a0 g1 h1 a1 g2 h2 a2 g3 h3 a3 (by omega) g4 h4 (by omega)
  have a4' : 48 ≤ (s.data[4]'h4).toNat ∧ (s.data[4]'h4).toNat ≤ 57 := (dig0 _).1 a4
  rw [e0, e1, e2, e3, e4, a0', decide_eq_true (by omega)]
  exact by_5 s w hn h0 a0 g1 h1 a1 g2 h2 a2 g3 h3 a3 (by omega) g4 h4 a4
end Go.Proofs.YtfmjhbdbgcgoiaaGreatDoor.TxW

/- Walks: what is held, by the model. -/
namespace Go.Proofs.YtfmjhbdbgcgoiaaGreatDoor.TxW
open Go.RowKit Go.Proofs.YtfmjhbdbgcgoiaaGreatDoor.Kit Go.Proofs.YtfmjhbdbgcgoiaaGreatDoor.Tx

theorem ext_list (s : ByteArray) (a : Nat) : (s.extract a s.size).data.toList = s.data.toList.drop a := by
  rw [ByteArray.data_extract, Array.toList_extract, List.extract_eq_take_drop]
  exact List.take_of_length_le (by rw [List.length_drop, lenL]; exact Nat.le_refl _)

set_option maxHeartbeats 2000000 in
theorem lheld_any (s : ByteArray) (hsz : s.size ≤ maxLen) (w : World) :
    Calls Tryz.prog 114 #[.string s] w fun e w' => e = .returned (.int .i64 (heldN s.data.toList : Nat)) ∧ Below w.heap.size w w' := by
  have hs := lenL s
  unfold maxLen at hsz
  have hl5 := heldN_le s.data.toList
  have hll := heldN_len s.data.toList
  go_enter Tryz.func114, Tryz.ntmps114
  go_wp2
  all_goals
    go_loopw [3] (fun i wr => ∃ k : Nat, k ≤ 5 ∧ k ≤ s.size ∧ i = .int .i64 k ∧ heldN s.data.toList ≤ k ∧ Below w.heap.size w wr) (fun i wr => (intOf i).toNat)
    case atStart => first | exact ⟨s.size, by omega, Nat.le_refl _, rfl, by omega, Below.refl _ _⟩ | exact ⟨5, Nat.le_refl _, by omega, rfl, by omega, Below.refl _ _⟩
    case round =>
      obtain ⟨k, hk5, hk, rfl, hle, hbel⟩ := hrel
      by_cases h0 : 0 < k
      · have h0' : (0 : Int) < k := by omega
        have hbe := beg_held s.data.toList k h0 hk5 (by omega)
        have hx := ext_list s (s.size - k)
        have hi : ((s.size : Int) - (k : Int)) = ((s.size - k : Nat) : Int) := by omega
        go_wp2_with fail
        refine (begins_any _ _).mono ?_
        rintro e w2 ⟨rfl, k2⟩
        rw [hx]
        cases hb : begB (s.data.toList.drop (s.size - k))
        · have hne : heldN s.data.toList ≠ k := fun h => by
            rw [← hs] at hb
            rw [hbe.2 h] at hb; cases hb
          go_wp2
          go_roundw
          case rel => exact ⟨k - 1, by omega, by omega, by go_num, by omega, hbel.trans (k2.mono hbel.size)⟩
          case measure => simp [intOf]; omega
        · have e : heldN s.data.toList = k := by
            rw [← hs] at hb
            exact hbe.1 hb
          go_wp2
          go_ret
          exact ⟨by rw [e]; rfl, hbel.trans (k2.mono hbel.size)⟩
      · have h0' : (k : Int) ≤ 0 := by omega
        have e : heldN s.data.toList = 0 := by omega
        go_wp2
        go_ret
        exact ⟨by rw [e]; rfl, hbel⟩
end Go.Proofs.YtfmjhbdbgcgoiaaGreatDoor.TxW

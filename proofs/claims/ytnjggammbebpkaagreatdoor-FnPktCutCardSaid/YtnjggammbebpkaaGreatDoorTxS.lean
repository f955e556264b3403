/- Walks: what is ok, by the model. -/
import Derived.Test.YtnjggammbebpkaaGreatDoorRows
import Derived.Test.YtnjggammbebpkaaGreatDoorTx
import Derived.WalkKit
import Derived.ProofKit
import Derived.WalkLawsBesides
import Derived.WalkSpells
import Derived.Below
namespace Go.Proofs.YtnjggammbebpkaaGreatDoor.TxW
open Go.RowKit Go.Proofs.YtnjggammbebpkaaGreatDoor.Kit Go.Proofs.YtnjggammbebpkaaGreatDoor.Tx

theorem nat_eq (c : UInt8) (n : Nat) (h : c.toNat = n) (hn : n < 256) : c = n.toUInt8 := by
  apply UInt8.toNat_inj.1; simp [h, Nat.toUInt8]; omega

set_option maxHeartbeats 1000000 in
theorem sbyte_any (c : UInt8) (w : World) :
    Calls Tryz.prog 53 #[.int .u8 (c.toNat : Int)] w fun e w' => e = .returned (.bool (byteB c)) ∧ w' = w := by
  have hc : c.toNat < 256 := c.toNat_lt
  have hb : byteB c = decide (97 ≤ c.toNat ∧ c.toNat ≤ 122 ∨ 48 ≤ c.toNat ∧ c.toNat ≤ 57 ∨ c.toNat = 64 ∨ c.toNat = 58 ∨ c.toNat = 59) := rfl
  generalize byteB c = bb at hb ⊢
  generalize c.toNat = n at *
  by_cases h1 : 97 ≤ n
  · have g1 : (97 : Int) ≤ n := by omega
    have b4 : ((n : Int) == 64) = false := by simp; omega
    have b5 : ((n : Int) == 58) = false := by simp; omega
    have b6 : ((n : Int) == 59) = false := by simp; omega
    have g3 : (48 : Int) ≤ n := by omega
    have g4 : (57 : Int) < n := by omega
    by_cases h2 : n ≤ 122
    · have g2 : (n : Int) ≤ 122 := by omega
      obtain rfl : bb = true := by rw [hb]; simp; omega
      clear hb
      go_enter Tryz.func53, Tryz.ntmps53
      go_wp2
      go_ret
      refine ⟨congrArg (fun b => Ending.returned (Value.bool b)) ?_, rfl⟩
      first | rfl | (simp; omega)
    · have g2 : (122 : Int) < n := by omega
      obtain rfl : bb = false := by rw [hb]; simp; omega
      clear hb
      go_enter Tryz.func53, Tryz.ntmps53
      go_wp2
      go_ret
      refine ⟨congrArg (fun b => Ending.returned (Value.bool b)) ?_, rfl⟩
      first | rfl | (simp; omega)
  · have g1 : (n : Int) < 97 := by omega
    by_cases h3 : 48 ≤ n
    · have g3 : (48 : Int) ≤ n := by omega
      by_cases h4 : n ≤ 57
      · have g4 : (n : Int) ≤ 57 := by omega
        obtain rfl : bb = true := by rw [hb]; simp; omega
        clear hb
        go_enter Tryz.func53, Tryz.ntmps53
        go_wp2
        go_ret
        refine ⟨congrArg (fun b => Ending.returned (Value.bool b)) ?_, rfl⟩
        first | rfl | (simp; omega)
      · have g4 : (57 : Int) < n := by omega
        cases b4 : ((n : Int) == 64) <;> cases b5 : ((n : Int) == 58) <;> cases b6 : ((n : Int) == 59)
        all_goals
          have hb2 : bb = (((n : Int) == 64) || ((n : Int) == 58) || ((n : Int) == 59)) := by
            rw [hb, Bool.eq_iff_iff]; simp; omega
          rw [b4, b5, b6] at hb2
          first
          | (obtain rfl : bb = true := hb2)
          | (obtain rfl : bb = false := hb2)
          clear hb
          go_enter Tryz.func53, Tryz.ntmps53
          go_wp2
          go_ret
          refine ⟨congrArg (fun b => Ending.returned (Value.bool b)) ?_, rfl⟩
          first | rfl | (simp; omega)
    · have g3 : (n : Int) < 48 := by omega
      have b4 : ((n : Int) == 64) = false := by simp; omega
      have b5 : ((n : Int) == 58) = false := by simp; omega
      have b6 : ((n : Int) == 59) = false := by simp; omega
      obtain rfl : bb = false := by rw [hb]; simp; omega
      clear hb
      go_enter Tryz.func53, Tryz.ntmps53
      go_wp2
      go_ret
      refine ⟨congrArg (fun b => Ending.returned (Value.bool b)) ?_, rfl⟩
      first | rfl | (simp; omega)

set_option maxHeartbeats 1000000 in
theorem sok_any (s : ByteArray) (hsz : s.size ≤ maxLen) (w : World) :
    Calls Tryz.prog 39 #[.string s] w fun e w' => e = .returned (.bool (okB s.data.toList)) ∧ w' = w := by
  have hs := lenL s
  unfold maxLen at hsz
  go_enter Tryz.func39, Tryz.ntmps39
  go_wp2
  go_loop [3] (fun i => ∃ k : Nat, k ≤ s.size ∧ i = .int .i64 k ∧ (s.data.toList.take k).all byteB = true) (fun i => s.size - (intOf i).toNat)
  case atStart => exact ⟨0, Nat.zero_le _, rfl, rfl⟩
  case round =>
    obtain ⟨k, hk, rfl, hall⟩ := hrel
    by_cases hlt : k < s.size
    · have hlt' : (k : Int) < s.size := by omega
      cases hb : byteB (s.data[k]'hlt)
      · have hr := ok_bad s.data.toList k (by rw [lenL]; exact hlt) hb
        go_wp2_with fail
        refine (sbyte_any _ _).mono ?_
        rintro e w1 ⟨rfl, rfl⟩
        first | rw [hb] | rw [show byteB (s[k]'hlt) = _ from hb]
        go_wp2
        go_ret
        exact ⟨by first | rfl | (rw [hr]; rfl), rfl⟩
      · have hn : (s.data.toList.take (k + 1)).all byteB = true := by
          have h0 := all_take s.data.toList k (by rw [lenL]; exact hlt)
          rw [hall] at h0
          exact h0.trans hb
        go_wp2_with fail
        refine (sbyte_any _ _).mono ?_
        rintro e w1 ⟨rfl, rfl⟩
        first | rw [hb] | rw [show byteB (s[k]'hlt) = _ from hb]
        go_wp2
        go_round
        case rel => exact ⟨k + 1, by omega, by go_num, hn⟩
        case measure => simp [intOf]; omega
    · have hge : (s.size : Int) ≤ k := by omega
      have hr : okB s.data.toList = decide ((s.size : Int) ≤ 40) := by
        rw [List.take_of_length_le (by omega)] at hall
        unfold okB
        rw [hall, Bool.and_true, lenL, Bool.eq_iff_iff]; simp; omega
      go_wp2
      go_ret
      exact ⟨by first | rfl | (rw [hr]; rfl), rfl⟩
end Go.Proofs.YtnjggammbebpkaaGreatDoor.TxW

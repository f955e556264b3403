/- Walks: what is ok, what is held, by the program. -/
import Derived.Test.YtnjggammbebpkaaGreatDoorRows
import Derived.Test.YtnjggammbebpkaaGreatDoorTxK
import Derived.WalkKit
import Derived.ProofKit
import Derived.WalkLawsBesides
import Derived.WalkSpells
import Derived.Below
namespace Go.Proofs.YtnjggammbebpkaaGreatDoor.TxW
open Go.RowKit Go.Proofs.YtnjggammbebpkaaGreatDoor.Kit Go.Proofs.YtnjggammbebpkaaGreatDoor.Tx

theorem kind_ok (c : UInt8) : (kindN c.toNat = 0) ↔ byteB c = false := by
  unfold kindN byteB
  constructor
  · intro h
    simp only [decide_eq_false_iff_not]
    repeat' split at h
    all_goals first | omega | cases h
  · intro h
    simp only [decide_eq_false_iff_not] at h
    repeat' split
    all_goals omega

set_option maxHeartbeats 1000000 in
theorem ok_any (s : ByteArray) (w : World) :
    Calls Tryz.prog 45 #[.string s] w fun e w' => e = .returned (.bool (okB s.data.toList)) ∧ w' = w := by
  by_cases hl : 40 < s.size
  · have hl' : (40 : Int) < s.size := by omega
    have hr := ok_long s hl
    go_enter Tryz.func45, Tryz.ntmps45
    go_wp2
    all_goals first | (exfalso; omega) | skip
    go_ret
    exact ⟨by first | rfl | (rw [hr]; rfl), rfl⟩
  · have hl' : (s.size : Int) ≤ 40 := by omega
    have hs := lenL s
    go_enter Tryz.func45, Tryz.ntmps45
    go_wp2
    go_loop [9] (fun i => ∃ k : Nat, k ≤ s.size ∧ i = .int .i64 k ∧ (s.data.toList.take k).all byteB = true) (fun i => s.size - (intOf i).toNat)
    case atStart => exact ⟨0, Nat.zero_le _, rfl, rfl⟩
    case round =>
      obtain ⟨k, hk, rfl, hall⟩ := hrel
      by_cases hlt : k < s.size
      · have hlt' : (k : Int) < s.size := by omega
        have hc : (s.data[k]'hlt).toNat < 256 := UInt8.toNat_lt _
        cases hb : byteB (s.data[k]'hlt)
        · have hz := (kind_ok _).2 hb
          have hr := ok_bad s.data.toList k (by rw [lenL]; exact hlt) hb
          go_wp2_with fail
          refine (kind_any _ hc _).mono ?_
          rintro e w1 ⟨rfl, rfl⟩
          rw [hz]
          go_wp2
          go_ret
          exact ⟨by first | rfl | (rw [hr]; rfl), rfl⟩
        · have hz : ¬ kindN (s.data[k]'hlt).toNat = 0 := fun h => by rw [(kind_ok _).1 h] at hb; cases hb
          have hz' : (((kindN (s.data[k]'hlt).toNat : Nat) : Int) == 0) = false := by simpa using hz
          have hn : (s.data.toList.take (k + 1)).all byteB = true := by
            have h0 := all_take s.data.toList k (by rw [lenL]; exact hlt)
            rw [hall] at h0
            exact h0.trans hb
          go_wp2_with fail
          refine (kind_any _ hc _).mono ?_
          rintro e w1 ⟨rfl, rfl⟩
          go_wp2
          go_round
          case rel => exact ⟨k + 1, by omega, by go_num, hn⟩
          case measure => simp [intOf]; omega
      · have hge : (s.size : Int) ≤ k := by omega
        have hr : okB s.data.toList = true := by
          refine ok_good _ (by omega) ?_
          rw [List.take_of_length_le (by omega)] at hall
          exact hall
        go_wp2
        go_ret
        exact ⟨by first | rfl | (rw [hr]; rfl), rfl⟩

end Go.Proofs.YtnjggammbebpkaaGreatDoor.TxW

/- Walks: what is ok, what is held, by the program. -/
import Derived.Test.YtnjggammbebpkaaGreatDoorRows
import Derived.Test.YtnjggammbebpkaaGreatDoorTx
import Derived.WalkKit
import Derived.ProofKit
import Derived.WalkLawsBesides
import Derived.WalkSpells
import Derived.Below
namespace Go.Proofs.YtnjggammbebpkaaGreatDoor.TxW
open Go.RowKit Go.Proofs.YtnjggammbebpkaaGreatDoor.Kit Go.Proofs.YtnjggammbebpkaaGreatDoor.Tx

/-- what a byte is to a name -/
def kindN (c : Nat) : Nat :=
  if c = 64 then 1 else if c = 48 then 2 else if 49 ≤ c ∧ c ≤ 57 then 3 else if c = 58 then 4 else if c = 59 ∨ 97 ≤ c ∧ c ≤ 122 then 5 else 0

set_option maxHeartbeats 1000000 in
theorem kind_any (c : Nat) (hc : c < 256) (w : World) :
    Calls Tryz.prog 58 #[.int .u8 (c : Int)] w fun e w' => e = .returned (.int .i64 (kindN c : Nat)) ∧ w' = w := by
  by_cases h1 : c = 64
  · subst h1
    go_enter Tryz.func58, Tryz.ntmps58
    go_wp2
    go_ret
    exact ⟨rfl, rfl⟩
  by_cases h2 : c = 48
  · subst h2
    go_enter Tryz.func58, Tryz.ntmps58
    go_wp2
    go_ret
    exact ⟨rfl, rfl⟩
  by_cases h4 : c = 58
  · subst h4
    go_enter Tryz.func58, Tryz.ntmps58
    go_wp2
    go_ret
    exact ⟨rfl, rfl⟩
  by_cases h5 : c = 59
  · subst h5
    go_enter Tryz.func58, Tryz.ntmps58
    go_wp2
    go_ret
    exact ⟨rfl, rfl⟩
  have b1 : ((c : Int) == 64) = false := by simp; omega
  have b2 : ((c : Int) == 48) = false := by simp; omega
  have b4 : ((c : Int) == 58) = false := by simp; omega
  have b5 : ((c : Int) == 59) = false := by simp; omega
  have e : kindN c = if 49 ≤ c ∧ c ≤ 57 then 3 else if 97 ≤ c ∧ c ≤ 122 then 5 else 0 := by
    unfold kindN; repeat' split
    all_goals omega
  rw [e]
  by_cases h6 : 49 ≤ c
  · by_cases h7 : c ≤ 57
    · rw [if_pos ⟨h6, h7⟩]
      have g6 : (49 : Int) ≤ c := by omega
      have g7 : (c : Int) ≤ 57 := by omega
      go_enter Tryz.func58, Tryz.ntmps58
      go_wp2
      go_ret
      exact ⟨rfl, rfl⟩
    · rw [if_neg (by omega)]
      have g6 : (49 : Int) ≤ c := by omega
      have g7 : (57 : Int) < c := by omega
      by_cases h8 : 97 ≤ c
      · by_cases h9 : c ≤ 122
        · rw [if_pos ⟨h8, h9⟩]
          have g8 : (97 : Int) ≤ c := by omega
          have g9 : (c : Int) ≤ 122 := by omega
          go_enter Tryz.func58, Tryz.ntmps58
          go_wp2
          go_ret
          exact ⟨rfl, rfl⟩
        · rw [if_neg (by omega)]
          have g8 : (97 : Int) ≤ c := by omega
          have g9 : (122 : Int) < c := by omega
          go_enter Tryz.func58, Tryz.ntmps58
          go_wp2
          go_ret
          exact ⟨rfl, rfl⟩
      · rw [if_neg (by omega)]
        have g8 : (c : Int) < 97 := by omega
        go_enter Tryz.func58, Tryz.ntmps58
        go_wp2
        go_ret
        exact ⟨rfl, rfl⟩
  · rw [if_neg (by omega), if_neg (by omega)]
    have g6 : (c : Int) < 49 := by omega
    have g8 : (c : Int) < 97 := by omega
    go_enter Tryz.func58, Tryz.ntmps58
    go_wp2
    go_ret
    exact ⟨rfl, rfl⟩

end Go.Proofs.YtnjggammbebpkaaGreatDoor.TxW

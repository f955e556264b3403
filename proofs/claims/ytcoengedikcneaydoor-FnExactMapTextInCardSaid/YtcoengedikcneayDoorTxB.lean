/- Walks: what may become a name, by the model. -/
import Derived.Test.YtcoengedikcneayDoorTxS
import Derived.LoopN
namespace Go.Proofs.YtcoengedikcneayDoor.TxW
open Go.RowKit Go.Proofs.YtcoengedikcneayDoor.Kit Go.Proofs.YtcoengedikcneayDoor.Tx

/-- what a byte is as a figure -/
def digC (c : UInt8) : Int := if c.toNat < 48 ∨ 57 < c.toNat then -1 else (c.toNat : Int) - 48

set_option maxHeartbeats 400000 in
theorem digC_any (c : UInt8) (w : World) :
    Calls Tryd.prog 48 #[.int .u8 (c.toNat : Int)] w fun e w' => e = .returned (.int .i64 (digC c)) ∧ w' = w := by
  have hc : c.toNat < 256 := c.toNat_lt
  by_cases h1 : c.toNat < 48
  · have e0 : digC c = -1 := by unfold digC; rw [if_pos (by omega)]
    rw [e0]
    have hi : (c.toNat : Int) < 48 := by omega
    go_enter Tryd.func48, Tryd.ntmps48
    go_wp2
    go_ret
    exact ⟨rfl, rfl⟩
  · by_cases h2 : 57 < c.toNat
    · have e0 : digC c = -1 := by unfold digC; rw [if_pos (by omega)]
      rw [e0]
      have hi : 48 ≤ (c.toNat : Int) := by omega
      have hj : 57 < (c.toNat : Int) := by omega
      go_enter Tryd.func48, Tryd.ntmps48
      go_wp2
      go_ret
      exact ⟨rfl, rfl⟩
    · have e0 : digC c = (c.toNat : Int) - 48 := by unfold digC; rw [if_neg (by omega)]
      rw [e0]
      have hi : 48 ≤ (c.toNat : Int) := by omega
      have hj : (c.toNat : Int) ≤ 57 := by omega
      go_enter Tryd.func48, Tryd.ntmps48
      go_wp2
      go_ret
      exact ⟨rfl, rfl⟩

/-- does a number lie between two -/
def btB (n low high : Int) : Bool := decide (low ≤ n) && decide (n ≤ high)
set_option maxHeartbeats 400000 in
theorem bt_any (n low high : Int) (w : World) :
    Calls Tryd.prog 33 #[.int .i64 n, .int .i64 low, .int .i64 high] w fun e w' => e = .returned (.bool (btB n low high)) ∧ w' = w := by
  by_cases h1 : low ≤ n
  · by_cases h2 : n ≤ high
    all_goals
      go_enter Tryd.func33, Tryd.ntmps33
      go_wp2
      go_ret
      exact ⟨by simp [btB, h1, h2], rfl⟩
  · go_enter Tryd.func33, Tryd.ntmps33
    go_wp2
    go_ret
    exact ⟨by simp [btB]; omega, rfl⟩

theorem beg_none (s : ByteArray) (h : btB (s.size : Int) 1 5 = false) : begB s.data.toList = false := by
  simp only [btB, Bool.and_eq_false_iff, decide_eq_false_iff_not] at h
  simp only [begB, lenL, decide_eq_false_iff_not]; omega

theorem getL (s : ByteArray) (i : Nat) (h : i < s.size) : s.data.toList.getD i 0 = s.data[i]'h := by
  rw [List.getD_eq_getElem?_getD, List.getElem?_eq_getElem (by rw [lenL]; exact h)]; rfl
end Go.Proofs.YtcoengedikcneayDoor.TxW

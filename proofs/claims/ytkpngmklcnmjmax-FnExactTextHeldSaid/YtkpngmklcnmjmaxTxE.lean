/- Walks of the exact laws on what is ok and what is held. -/
import Derived.Test.YtkpngmklcnmjmaxTxH
import Derived.Test.YtkpngmklcnmjmaxTxG
namespace Go.Proofs.Ytkpngmklcnmjmax.TxW
open Go.RowKit Go.Proofs.Ytkpngmklcnmjmax.Kit Go.Proofs.Ytkpngmklcnmjmax.Tx

theorem max_of (s : ByteArray) (h : (s.size : Int) ≤ 1048576) : s.size ≤ maxLen := by unfold maxLen; omega

set_option maxHeartbeats 400000 in
theorem exOk_long (s : ByteArray) (w : World) (h : (1048576 : Int) < (s.size : Int)) :
    Calls Try.prog 4 #[.string s] w fun e w' => e = .returned (.bool true) ∧ Below w.heap.size w w' := by
  go_enter Try.func4, Try.ntmps4
  go_wp2
  go_ret
  exact ⟨rfl, Below.refl _ _⟩
set_option maxHeartbeats 400000 in
theorem exOk (s : ByteArray) (w : World) (h : (s.size : Int) ≤ 1048576) :
    Calls Try.prog 4 #[.string s] w fun e w' => e = .returned (.bool true) ∧ Below w.heap.size w w' := by
  go_enter Try.func4, Try.ntmps4
  go_wp2_with fail
  refine (sok_any _ (max_of s h) _).mono ?_
  rintro e w1 ⟨rfl, rfl⟩
  go_wp2_with fail
  refine (ok_any _ _).mono ?_
  rintro e w1 ⟨rfl, rfl⟩
  cases okB s.data.toList
  all_goals
    go_wp2
    go_ret
    exact ⟨rfl, Below.refl _ _⟩
set_option maxHeartbeats 400000 in
theorem exHeld_long (s : ByteArray) (w : World) (h : (1048576 : Int) < (s.size : Int)) :
    Calls Try.prog 5 #[.string s] w fun e w' => e = .returned (.bool true) ∧ Below w.heap.size w w' := by
  go_enter Try.func5, Try.ntmps5
  go_wp2
  go_ret
  exact ⟨rfl, Below.refl _ _⟩
set_option maxHeartbeats 400000 in
theorem exHeld (s : ByteArray) (w : World) (h : (s.size : Int) ≤ 1048576) :
    Calls Try.prog 5 #[.string s] w fun e w' => e = .returned (.bool true) ∧ Below w.heap.size w w' := by
  go_enter Try.func5, Try.ntmps5
  go_wp2_with fail
  refine (sheld_any _ (max_of s h) _).mono ?_
  rintro e w1 ⟨rfl, k1⟩
  go_wp2_with fail
  refine (held_any _ _).mono ?_
  rintro e w2 ⟨rfl, k2⟩
  go_wp2
  all_goals
    go_ret
    exact ⟨rfl, k1.trans (k2.mono k1.size)⟩
end Go.Proofs.Ytkpngmklcnmjmax.TxW

/- The walk of the law on texts that are cut: it answers true. -/
import Derived.Test.YtkpngmklcnmjmabTxE
import Derived.Test.YtkpngmklcnmjmabTxP
import Derived.Test.YtkpngmklcnmjmabDrawT
import Derived.BigQuiet
import Derived.Deep.QuietTactic
namespace Go.Proofs.Ytkpngmklcnmjmab.LTextCut
open Go.RowKit Go.Proofs.Ytkpngmklcnmjmab.Kit Go.Proofs.Ytkpngmklcnmjmab.Draw Go.Proofs.Ytkpngmklcnmjmab.Tx
open Go.Proofs.Ytkpngmklcnmjmab.TxW (ok_any sok_any)

theorem ext_l (s : ByteArray) (a b : Nat) : (s.extract a b).data.toList = (s.data.toList.drop a).take (b - a) := by
  rw [ByteArray.data_extract, Array.toList_extract, List.extract_eq_take_drop]
theorem app_l (s t : ByteArray) : (s ++ t).data.toList = s.data.toList ++ t.data.toList := by simp [ByteArray.data_append]

set_option maxHeartbeats 400000 in
theorem long (a0 a1 : Option Addr) (len0 cap0 len1 cap1 : Nat) (w : World) (h : (1048576 : Int) < (len0 : Int)) :
    Calls Try.prog 3 #[.slice a0 len0 cap0, .slice a1 len1 cap1] w fun e w' => e = .returned (.bool true) ∧ Below w.heap.size w w' := by
  go_enter Try.func3, Try.ntmps3
  go_wp2
  go_ret
  exact ⟨rfl, Below.refl _ _⟩
set_option maxHeartbeats 400000 in
theorem long2 (a0 a1 : Option Addr) (len0 cap0 len1 cap1 : Nat) (w : World) (h : (len0 : Int) ≤ 1048576) (h2 : (1048576 : Int) < (len1 : Int)) :
    Calls Try.prog 3 #[.slice a0 len0 cap0, .slice a1 len1 cap1] w fun e w' => e = .returned (.bool true) ∧ Below w.heap.size w w' := by
  go_enter Try.func3, Try.ntmps3
  go_wp2
  go_ret
  exact ⟨rfl, Below.refl _ _⟩

theorem ok_is (s : ByteArray) (b : Bool) (h : okB s.data.toList = b) (w : World) : Calls Try.prog 6 #[.string s] w fun e w' => e = .returned (.bool b) ∧ w' = w := by
  subst h; exact ok_any s w

set_option maxHeartbeats 4000000 in
theorem short (a0 a1 : Option Addr) (len0 cap0 len1 cap1 : Nat) (z : Nat → Int) (w : World) (hc : CodeIn w a0 len0 cap0 z) (h : (len0 : Int) ≤ 1048576) (h2 : (len1 : Int) ≤ 1048576) :
    Calls Try.prog 3 #[.slice a0 len0 cap0, .slice a1 len1 cap1] w fun e w' => e = .returned (.bool true) ∧ Below w.heap.size w w' := by
  go_enter Try.func3, Try.ntmps3
  go_wp2_with fail
  refine (drawTextOk a0 len0 cap0 z _ hc).mono ?_
  rintro e w1 ⟨s, rfl, hs, k1⟩
  have hmx : s.size ≤ maxLen := by unfold maxLen; omega
  cases hok : okB s.data.toList
  · go_wp2_with fail
    refine (ok_is s false hok _).mono ?_
    rintro e w2 ⟨rfl, rfl⟩
    go_wp2_with fail
    refine (sok_any s hmx _).mono ?_
    rintro e w3 ⟨rfl, rfl⟩
    rw [hok]
    go_wp2_with fail
    refine (sok_any s hmx _).mono ?_
    rintro e w3 ⟨rfl, rfl⟩
    rw [hok]
    go_wp2
    go_ret
    exact ⟨rfl, k1⟩
  · go_wp2_with fail
    refine (ok_is s true hok _).mono ?_
    rintro e w2 ⟨rfl, rfl⟩
    go_wp2_with fail
    refine (sok_any s hmx _).mono ?_
    rintro e w3 ⟨rfl, rfl⟩
    rw [hok]
    obtain ⟨k, hk, hkl⟩ : ∃ k : Nat, (len1 : Int).tmod ((s.size : Int) + 1) = (k : Int) ∧ k ≤ s.size := by
      refine ⟨len1 % (s.size + 1), ?_, ?_⟩
      · rw [Int.tmod_eq_emod_of_nonneg (by omega)]; push_cast; rfl
      · have := Nat.mod_lt len1 (show 0 < s.size + 1 by omega); omega
    have hlk := lenL s
    have q1 : okB (s.extract 0 k).data.toList = true := by rw [ext_l]; exact ok_take _ _ (ok_drop _ _ hok)
    have q2 : okB (s.extract k s.size).data.toList = true := by rw [ext_l]; exact ok_take _ _ (ok_drop _ _ hok)
    have q3 : okB (s.extract 0 k ++ ⟨#[32]⟩ ++ s.extract k s.size).data.toList = false := by
      refine ok_bad_in _ 32 ?_ (by decide)
      rw [app_l, app_l]; simp
    have q4 : okB (s ++ ⟨#[65]⟩).data.toList = false := by
      refine ok_bad_in _ 65 ?_ (by decide)
      rw [app_l]; simp
    have hkk : (k : Int) ≤ (s.size : Int) := by omega
    have hz1 : (s.extract 0 k).size ≤ 400 := by rw [ByteArray.size_extract]; omega
    have hz2 : (s.extract k s.size).size ≤ 400 := by rw [ByteArray.size_extract]; omega
    go_wp2_with fail
    clear hk
    go_quiet ((go_at_call 6; first | with_reducible exact Calls.quiet_of_same (ok_is _ _ q1 _) | with_reducible exact Calls.quiet_of_same (ok_is _ _ q2 _) | with_reducible exact Calls.quiet_of_same (ok_is _ _ q3 _) | with_reducible exact Calls.quiet_of_same (ok_is _ _ q4 _)))
    go_wp2
    go_ret
    exact ⟨rfl, k1.trans (Text.below_drewN _ _ _)⟩
end Go.Proofs.Ytkpngmklcnmjmab.LTextCut

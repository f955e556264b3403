/- Walks: what is held, by the model. -/
import Derived.Test.YtcoengedikcneayDoorTxB2
namespace Go.Proofs.YtcoengedikcneayDoor.TxW
open Go.RowKit Go.Proofs.YtcoengedikcneayDoor.Kit Go.Proofs.YtcoengedikcneayDoor.Tx

theorem ext_list (s : ByteArray) (a : Nat) : (s.extract a s.size).data.toList = s.data.toList.drop a := by
  rw [ByteArray.data_extract, Array.toList_extract, List.extract_eq_take_drop]
  exact List.take_of_length_le (by rw [List.length_drop, lenL]; exact Nat.le_refl _)

set_option maxHeartbeats 2000000 in
theorem lheld_any (s : ByteArray) (hsz : s.size ≤ maxLen) (w : World) :
    Calls Tryd.prog 20 #[.string s] w fun e w' => e = .returned (.int .i64 (heldN s.data.toList : Nat)) ∧ Below w.heap.size w w' := by
  have hs := lenL s
  unfold maxLen at hsz
  have hl5 := heldN_le s.data.toList
  have hll := heldN_len s.data.toList
  go_enter Tryd.func20, Tryd.ntmps20
  go_wp2
  all_goals
    go_loopw [3] (fun i wr => ∃ k : Nat, k ≤ 5 ∧ k ≤ s.size ∧ i = .int .i64 k ∧ heldN s.data.toList ≤ k ∧ Below w.heap.size w wr) (fun i wr => (intOf i).toNat)
    case atStart => first | exact ⟨s.size, by omega, Nat.le_refl _, rfl, by omega, Below.refl _ _⟩ | exact ⟨5, Nat.le_refl _, by omega, rfl, by omega, Below.refl _ _⟩
    case round =>
      obtain ⟨k, hk5, hk, rfl, hle, hbel⟩ := hrel
      by_cases h0 : 0 < k
      · have h0' : (0 : Int) < k := by omega
        have hbe := beg_held s.data.toList k h0 hk5 (by omega)
        have hx := ext_list s (s.size - k)
        have hi : ((s.size : Int) - (k : Int)) = ((s.size - k : Nat) : Int) := by omega
        go_wp2_with fail
        refine (begins_any _ _).mono ?_
        rintro e w2 ⟨rfl, k2⟩
        rw [hx]
        cases hb : begB (s.data.toList.drop (s.size - k))
        · have hne : heldN s.data.toList ≠ k := fun h => by
            rw [← hs] at hb
            rw [hbe.2 h] at hb; cases hb
          go_wp2
          go_roundw
          case rel => exact ⟨k - 1, by omega, by omega, by go_num, by omega, hbel.trans (k2.mono hbel.size)⟩
          case measure => simp [intOf]; omega
        · have e : heldN s.data.toList = k := by
            rw [← hs] at hb
            exact hbe.1 hb
          go_wp2
          go_ret
          exact ⟨by rw [e]; rfl, hbel.trans (k2.mono hbel.size)⟩
      · have h0' : (k : Int) ≤ 0 := by omega
        have e : heldN s.data.toList = 0 := by omega
        go_wp2
        go_ret
        exact ⟨by rw [e]; rfl, hbel⟩
end Go.Proofs.YtcoengedikcneayDoor.TxW

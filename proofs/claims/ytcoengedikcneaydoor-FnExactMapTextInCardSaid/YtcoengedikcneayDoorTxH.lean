/- Walks: what is held, by the program. -/
import Derived.Test.YtcoengedikcneayDoorTxO
import Derived.Test.YtcoengedikcneayDoorRows
import Derived.Test.YtcoengedikcneayDoorTxA
import Derived.WalkKit
import Derived.ProofKit
import Derived.WalkLawsBesides
import Derived.WalkSpells
import Derived.Below
namespace Go.Proofs.YtcoengedikcneayDoor.TxW
open Go.RowKit Go.Proofs.YtcoengedikcneayDoor.Kit Go.Proofs.YtcoengedikcneayDoor.Tx

theorem kind_le (c : Nat) : kindN c ≤ 5 := by
  unfold kindN; repeat' split
  all_goals omega

set_option maxHeartbeats 2000000 in
theorem held_any (s : ByteArray) (w : World) :
    Calls Tryd.prog 44 #[.string s] w fun e w' => e = .returned (.int .i64 (hdN s.data.toList : Nat)) ∧ Below w.heap.size w w' := by
  have hs := lenL s
  cases hok : okB s.data.toList
  · have hr := hd_no _ hok
    go_enter Tryd.func44, Tryd.ntmps44
    go_wp2_with fail
    refine (ok_any _ _).mono ?_
    rintro e w1 ⟨rfl, rfl⟩
    rw [hok]
    go_wp2
    go_ret
    exact ⟨by rw [hr]; rfl, Below.refl _ _⟩
  · have hr := hd_ok _ hok
    have hsz : s.size ≤ 40 := by have := (ok_parts _ hok).1; omega
    go_enter Tryd.func44, Tryd.ntmps44
    go_wp2_with fail
    refine (ok_any _ _).mono ?_
    rintro e w1 ⟨rfl, rfl⟩
    rw [hok]
    go_wp2
    go_loopw [3, 10] (fun st i wr => ∃ k : Nat, k ≤ s.size ∧ i = .int .i64 k ∧ st = .int .i64 (heldN (s.data.toList.take k) : Nat) ∧ Below w1.heap.size w1 wr) (fun st i wr => s.size - (intOf i).toNat)
    case atStart => exact ⟨0, Nat.zero_le _, rfl, rfl, Below.refl _ _⟩
    case round =>
      obtain ⟨k, hk, rfl, rfl, hbel⟩ := hrel
      by_cases hlt : k < s.size
      · have hlt' : (k : Int) < s.size := by omega
        have hc : (s.data[k]'hlt).toNat < 256 := UInt8.toNat_lt _
        have hl5 := heldN_le (s.data.toList.take k)
        have hn : tabN (heldN (s.data.toList.take k)) (kindN (s.data[k]'hlt).toNat) = heldN (s.data.toList.take (k + 1)) := by
          rw [tab_step, held_take _ _ (by rw [lenL]; exact hlt)]; rfl
        go_wp2_with fail
        refine (kind_any _ hc _).mono ?_
        rintro e w2 ⟨rfl, rfl⟩
        go_wp2_with fail
        refine (after_any _ _ hl5 (kind_le _) _).mono ?_
        rintro e w3 ⟨rfl, k3⟩
        rw [hn]
        go_wp2
        go_roundw
        case rel => exact ⟨k + 1, by omega, by go_num, rfl, hbel.trans (k3.mono hbel.size)⟩
        case measure => simp [intOf]; omega
      · have hge : (s.size : Int) ≤ k := by omega
        have e : heldN (s.data.toList.take k) = heldN s.data.toList := by rw [List.take_of_length_le (by omega)]
        rw [e]
        go_wp2
        go_ret
        exact ⟨by rw [hr]; rfl, hbel⟩
end Go.Proofs.YtcoengedikcneayDoor.TxW

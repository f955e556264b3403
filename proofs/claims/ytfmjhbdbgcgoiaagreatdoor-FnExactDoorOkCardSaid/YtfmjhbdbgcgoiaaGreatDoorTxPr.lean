/- Walks: what is ok, what is held, by the program. -/
import Derived.Test.YtfmjhbdbgcgoiaaGreatDoorRows
import Derived.Test.YtfmjhbdbgcgoiaaGreatDoorTxts
import Derived.WalkKit
import Derived.ProofKit
import Derived.WalkLawsBesides
import Derived.WalkSpells
import Derived.Below
namespace Go.Proofs.YtfmjhbdbgcgoiaaGreatDoor.TxW
open Go.RowKit Go.Proofs.YtfmjhbdbgcgoiaaGreatDoor.Kit Go.Proofs.YtfmjhbdbgcgoiaaGreatDoor.Tx

/-- what a byte is to a name -/
def kindN (c : Nat) : Nat :=
  if c = 64 then 1 else if c = 48 then 2 else if 49 ≤ c ∧ c ≤ 57 then 3 else if c = 58 then 4 else if c = 59 ∨ 97 ≤ c ∧ c ≤ 122 then 5 else 0

set_option maxHeartbeats 1000000 in
theorem kind_any (c : Nat) (hc : c < 256) (w : World) :
    Calls Tryz.prog 141 #[.int .u8 (c : Int)] w fun e w' => e = .returned (.int .i64 (kindN c : Nat)) ∧ w' = w := by
  by_cases h1 : c = 64
  · subst h1
    go_enter Tryz.func141, Tryz.ntmps141
    go_wp2
    go_ret
    exact ⟨rfl, rfl⟩
  by_cases h2 : c = 48
  · subst h2
    go_enter Tryz.func141, Tryz.ntmps141
    go_wp2
    go_ret
    exact ⟨rfl, rfl⟩
  by_cases h4 : c = 58
  · subst h4
    go_enter Tryz.func141, Tryz.ntmps141
    go_wp2
    go_ret
    exact ⟨rfl, rfl⟩
  by_cases h5 : c = 59
  · subst h5
    go_enter Tryz.func141, Tryz.ntmps141
    go_wp2
    go_ret
    exact ⟨rfl, rfl⟩
  have b1 : ((c : Int) == 64) = false := by simp; omega
  have b2 : ((c : Int) == 48) = false := by simp; omega
  have b4 : ((c : Int) == 58) = false := by simp; omega
  have b5 : ((c : Int) == 59) = false := by simp; omega
  have e : kindN c = if 49 ≤ c ∧ c ≤ 57 then 3 else if 97 ≤ c ∧ c ≤ 122 then 5 else 0 := by
    unfold kindN; repeat' split
    all_goals omega
  rw [e]
  by_cases h6 : 49 ≤ c
  · by_cases h7 : c ≤ 57
    · rw [if_pos ⟨h6, h7⟩]
      have g6 : (49 : Int) ≤ c := by omega
      have g7 : (c : Int) ≤ 57 := by omega
      go_enter Tryz.func141, Tryz.ntmps141
      go_wp2
      go_ret
      exact ⟨rfl, rfl⟩
    · rw [if_neg (by omega)]
      have g6 : (49 : Int) ≤ c := by omega
      have g7 : (57 : Int) < c := by omega
      by_cases h8 : 97 ≤ c
      · by_cases h9 : c ≤ 122
        · rw [if_pos ⟨h8, h9⟩]
          have g8 : (97 : Int) ≤ c := by omega
          have g9 : (c : Int) ≤ 122 := by omega
          go_enter Tryz.func141, Tryz.ntmps141
          go_wp2
          go_ret
          exact ⟨rfl, rfl⟩
        · rw [if_neg (by omega)]
          have g8 : (97 : Int) ≤ c := by omega
          have g9 : (122 : Int) < c := by omega
          go_enter Tryz.func141, Tryz.ntmps141
          go_wp2
          go_ret
          exact ⟨rfl, rfl⟩
      · rw [if_neg (by omega)]
        have g8 : (c : Int) < 97 := by omega
        go_enter Tryz.func141, Tryz.ntmps141
        go_wp2
        go_ret
        exact ⟨rfl, rfl⟩
  · rw [if_neg (by omega), if_neg (by omega)]
    have g6 : (c : Int) < 49 := by omega
    have g8 : (c : Int) < 97 := by omega
    go_enter Tryz.func141, Tryz.ntmps141
    go_wp2
    go_ret
    exact ⟨rfl, rfl⟩

end Go.Proofs.YtfmjhbdbgcgoiaaGreatDoor.TxW

/- Walks: what is ok, what is held, by the program. -/
namespace Go.Proofs.YtfmjhbdbgcgoiaaGreatDoor.TxW
open Go.RowKit Go.Proofs.YtfmjhbdbgcgoiaaGreatDoor.Kit Go.Proofs.YtfmjhbdbgcgoiaaGreatDoor.Tx

theorem kind_ok (c : UInt8) : (kindN c.toNat = 0) ↔ byteB c = false := by
  unfold kindN byteB
  constructor
  · intro h
    simp only [decide_eq_false_iff_not]
    repeat' split at h
    all_goals first | omega | cases h
  · intro h
    simp only [decide_eq_false_iff_not] at h
    repeat' split
    all_goals omega

set_option maxHeartbeats 1000000 in
theorem ok_any (s : ByteArray) (w : World) :
    Calls Tryz.prog 125 #[.string s] w fun e w' => e = .returned (.bool (okB s.data.toList)) ∧ w' = w := by
  by_cases hl : 40 < s.size
  · have hl' : (40 : Int) < s.size := by omega
    have hr := ok_long s hl
    go_enter Tryz.func125, Tryz.ntmps125
    go_wp2
    all_goals first | (exfalso; omega) | skip
    go_ret
    exact ⟨by first | rfl | (rw [hr]; rfl), rfl⟩
  · have hl' : (s.size : Int) ≤ 40 := by omega
    have hs := lenL s
    go_enter Tryz.func125, Tryz.ntmps125
    go_wp2
    go_loop [9] (fun i => ∃ k : Nat, k ≤ s.size ∧ i = .int .i64 k ∧ (s.data.toList.take k).all byteB = true) (fun i => s.size - (intOf i).toNat)
    case atStart => exact ⟨0, Nat.zero_le _, rfl, rfl⟩
    case round =>
      obtain ⟨k, hk, rfl, hall⟩ := hrel
      by_cases hlt : k < s.size
      · have hlt' : (k : Int) < s.size := by omega
        have hc : (s.data[k]'hlt).toNat < 256 := UInt8.toNat_lt _
        cases hb : byteB (s.data[k]'hlt)
        · have hz := (kind_ok _).2 hb
          have hr := ok_bad s.data.toList k (by rw [lenL]; exact hlt) hb
          go_wp2_with fail
          refine (kind_any _ hc _).mono ?_
          rintro e w1 ⟨rfl, rfl⟩
          rw [hz]
          go_wp2
          go_ret
          exact ⟨by first | rfl | (rw [hr]; rfl), rfl⟩
        · have hz : ¬ kindN (s.data[k]'hlt).toNat = 0 := fun h => by rw [(kind_ok _).1 h] at hb; cases hb
          have hz' : (((kindN (s.data[k]'hlt).toNat : Nat) : Int) == 0) = false := by simpa using hz
          have hn : (s.data.toList.take (k + 1)).all byteB = true := by
            have h0 := all_take s.data.toList k (by rw [lenL]; exact hlt)
            rw [hall] at h0
            exact h0.trans hb
          go_wp2_with fail
          refine (kind_any _ hc _).mono ?_
          rintro e w1 ⟨rfl, rfl⟩
          go_wp2
          go_round
          case rel => exact ⟨k + 1, by omega, by go_num, hn⟩
          case measure => simp [intOf]; omega
      · have hge : (s.size : Int) ≤ k := by omega
        have hr : okB s.data.toList = true := by
          refine ok_good _ (by omega) ?_
          rw [List.take_of_length_le (by omega)] at hall
          exact hall
        go_wp2
        go_ret
        exact ⟨by first | rfl | (rw [hr]; rfl), rfl⟩

end Go.Proofs.YtfmjhbdbgcgoiaaGreatDoor.TxW

/- Walks: what is ok, what is held, by the program. -/
namespace Go.Proofs.YtfmjhbdbgcgoiaaGreatDoor.TxW
open Go.RowKit Go.Proofs.YtfmjhbdbgcgoiaaGreatDoor.Kit Go.Proofs.YtfmjhbdbgcgoiaaGreatDoor.Tx

/-- the state behind one more byte of a kind -/
def tabN (st k : Nat) : Nat :=
  if k = 1 then 1 else if st = 1 ∧ k = 3 then 2 else if st = 2 ∧ k = 4 then 3 else if st = 3 ∧ k = 3 then 4 else if st = 4 ∧ (k = 2 ∨ k = 3) then 5 else 0

theorem tab_step (st : Nat) (c : UInt8) : tabN st (kindN c.toNat) = stepN st c := by
  unfold tabN kindN stepN
  repeat' split
  all_goals omega

theorem six (n : Nat) (h : n ≤ 5) : n = 0 ∨ n = 1 ∨ n = 2 ∨ n = 3 ∨ n = 4 ∨ n = 5 := by omega
theorem tab_at (st k : Nat) (h1 : st ≤ 5) (h2 : k ≤ 5) : ([Value.int IntKind.i64 0, Value.int IntKind.i64 1, Value.int IntKind.i64 0, Value.int IntKind.i64 0, Value.int IntKind.i64 0, Value.int IntKind.i64 0, Value.int IntKind.i64 0, Value.int IntKind.i64 1, Value.int IntKind.i64 0, Value.int IntKind.i64 2, Value.int IntKind.i64 0, Value.int IntKind.i64 0, Value.int IntKind.i64 0, Value.int IntKind.i64 1, Value.int IntKind.i64 0, Value.int IntKind.i64 0, Value.int IntKind.i64 3, Value.int IntKind.i64 0, Value.int IntKind.i64 0, Value.int IntKind.i64 1, Value.int IntKind.i64 0, Value.int IntKind.i64 4, Value.int IntKind.i64 0, Value.int IntKind.i64 0, Value.int IntKind.i64 0, Value.int IntKind.i64 1, Value.int IntKind.i64 5, Value.int IntKind.i64 5, Value.int IntKind.i64 0, Value.int IntKind.i64 0, Value.int IntKind.i64 0, Value.int IntKind.i64 1, Value.int IntKind.i64 0, Value.int IntKind.i64 0, Value.int IntKind.i64 0, Value.int IntKind.i64 0] : List Value)[st * 6 + k]? = some (.int .i64 ((tabN st k : Nat) : Int)) := by
  rcases six st h1 with rfl | rfl | rfl | rfl | rfl | rfl <;> rcases six k h2 with rfl | rfl | rfl | rfl | rfl | rfl <;> rfl

theorem setRow_alloc (w : World) (old cs : Array Value) (t : TypeId) : (w.alloc (.cells old t)).setRow w.heap.size cs = w.alloc (.cells cs t) := by
  unfold World.setRow World.alloc
  congr 1
  apply Array.ext
  · simp
  · intro i h1 h2
    rw [Array.getElem_modify]
    simp only [Array.getElem_push]
    split
    · next h => subst h; simp
    · split
      · rfl
      · next h h' => simp at h1; omega

attribute [-go_sem] Instr.build storeVar

theorem bld0 (w : World) : (Instr.build 216 #[(1, Value.int IntKind.i64 1)]).run Tryz.prog w = .ok (.agg #[Value.int IntKind.i64 0, Value.int IntKind.i64 1, Value.int IntKind.i64 0, Value.int IntKind.i64 0, Value.int IntKind.i64 0, Value.int IntKind.i64 0]) w := run_build w _ _ _ (by kernel_rfl)
theorem bld1 (w : World) : (Instr.build 216 #[(1, Value.int IntKind.i64 1), (3, Value.int IntKind.i64 2)]).run Tryz.prog w = .ok (.agg #[Value.int IntKind.i64 0, Value.int IntKind.i64 1, Value.int IntKind.i64 0, Value.int IntKind.i64 2, Value.int IntKind.i64 0, Value.int IntKind.i64 0]) w := run_build w _ _ _ (by kernel_rfl)
theorem bld2 (w : World) : (Instr.build 216 #[(1, Value.int IntKind.i64 1), (4, Value.int IntKind.i64 3)]).run Tryz.prog w = .ok (.agg #[Value.int IntKind.i64 0, Value.int IntKind.i64 1, Value.int IntKind.i64 0, Value.int IntKind.i64 0, Value.int IntKind.i64 3, Value.int IntKind.i64 0]) w := run_build w _ _ _ (by kernel_rfl)
theorem bld3 (w : World) : (Instr.build 216 #[(1, Value.int IntKind.i64 1), (3, Value.int IntKind.i64 4)]).run Tryz.prog w = .ok (.agg #[Value.int IntKind.i64 0, Value.int IntKind.i64 1, Value.int IntKind.i64 0, Value.int IntKind.i64 4, Value.int IntKind.i64 0, Value.int IntKind.i64 0]) w := run_build w _ _ _ (by kernel_rfl)
theorem bld4 (w : World) : (Instr.build 216 #[(1, Value.int IntKind.i64 1), (3, Value.int IntKind.i64 5), (2, Value.int IntKind.i64 5)]).run Tryz.prog w = .ok (.agg #[Value.int IntKind.i64 0, Value.int IntKind.i64 1, Value.int IntKind.i64 5, Value.int IntKind.i64 5, Value.int IntKind.i64 0, Value.int IntKind.i64 0]) w := run_build w _ _ _ (by kernel_rfl)
theorem bld9 (w : World) : (Instr.build 217 #[(0, Value.agg #[Value.int IntKind.i64 0, Value.int IntKind.i64 1, Value.int IntKind.i64 0, Value.int IntKind.i64 0, Value.int IntKind.i64 0, Value.int IntKind.i64 0]), (1, Value.agg #[Value.int IntKind.i64 0, Value.int IntKind.i64 1, Value.int IntKind.i64 0, Value.int IntKind.i64 2, Value.int IntKind.i64 0, Value.int IntKind.i64 0]), (2, Value.agg #[Value.int IntKind.i64 0, Value.int IntKind.i64 1, Value.int IntKind.i64 0, Value.int IntKind.i64 0, Value.int IntKind.i64 3, Value.int IntKind.i64 0]), (3, Value.agg #[Value.int IntKind.i64 0, Value.int IntKind.i64 1, Value.int IntKind.i64 0, Value.int IntKind.i64 4, Value.int IntKind.i64 0, Value.int IntKind.i64 0]), (4, Value.agg #[Value.int IntKind.i64 0, Value.int IntKind.i64 1, Value.int IntKind.i64 5, Value.int IntKind.i64 5, Value.int IntKind.i64 0, Value.int IntKind.i64 0]), (5, Value.agg #[Value.int IntKind.i64 0, Value.int IntKind.i64 1, Value.int IntKind.i64 0, Value.int IntKind.i64 0, Value.int IntKind.i64 0, Value.int IntKind.i64 0])]).run Tryz.prog w = .ok (.agg #[Value.int IntKind.i64 0, Value.int IntKind.i64 1, Value.int IntKind.i64 0, Value.int IntKind.i64 0, Value.int IntKind.i64 0, Value.int IntKind.i64 0, Value.int IntKind.i64 0, Value.int IntKind.i64 1, Value.int IntKind.i64 0, Value.int IntKind.i64 2, Value.int IntKind.i64 0, Value.int IntKind.i64 0, Value.int IntKind.i64 0, Value.int IntKind.i64 1, Value.int IntKind.i64 0, Value.int IntKind.i64 0, Value.int IntKind.i64 3, Value.int IntKind.i64 0, Value.int IntKind.i64 0, Value.int IntKind.i64 1, Value.int IntKind.i64 0, Value.int IntKind.i64 4, Value.int IntKind.i64 0, Value.int IntKind.i64 0, Value.int IntKind.i64 0, Value.int IntKind.i64 1, Value.int IntKind.i64 5, Value.int IntKind.i64 5, Value.int IntKind.i64 0, Value.int IntKind.i64 0, Value.int IntKind.i64 0, Value.int IntKind.i64 1, Value.int IntKind.i64 0, Value.int IntKind.i64 0, Value.int IntKind.i64 0, Value.int IntKind.i64 0]) w := run_build w _ _ _ (by kernel_rfl)

theorem sto (w : World) : (storeVar 217 ⟨w.heap.size, 0, none⟩ (.agg #[Value.int IntKind.i64 0, Value.int IntKind.i64 1, Value.int IntKind.i64 0, Value.int IntKind.i64 0, Value.int IntKind.i64 0, Value.int IntKind.i64 0, Value.int IntKind.i64 0, Value.int IntKind.i64 1, Value.int IntKind.i64 0, Value.int IntKind.i64 2, Value.int IntKind.i64 0, Value.int IntKind.i64 0, Value.int IntKind.i64 0, Value.int IntKind.i64 1, Value.int IntKind.i64 0, Value.int IntKind.i64 0, Value.int IntKind.i64 3, Value.int IntKind.i64 0, Value.int IntKind.i64 0, Value.int IntKind.i64 1, Value.int IntKind.i64 0, Value.int IntKind.i64 4, Value.int IntKind.i64 0, Value.int IntKind.i64 0, Value.int IntKind.i64 0, Value.int IntKind.i64 1, Value.int IntKind.i64 5, Value.int IntKind.i64 5, Value.int IntKind.i64 0, Value.int IntKind.i64 0, Value.int IntKind.i64 0, Value.int IntKind.i64 1, Value.int IntKind.i64 0, Value.int IntKind.i64 0, Value.int IntKind.i64 0, Value.int IntKind.i64 0])).run Tryz.prog (w.alloc (.cells #[Value.int IntKind.i64 0, Value.int IntKind.i64 0, Value.int IntKind.i64 0, Value.int IntKind.i64 0, Value.int IntKind.i64 0, Value.int IntKind.i64 0, Value.int IntKind.i64 0, Value.int IntKind.i64 0, Value.int IntKind.i64 0, Value.int IntKind.i64 0, Value.int IntKind.i64 0, Value.int IntKind.i64 0, Value.int IntKind.i64 0, Value.int IntKind.i64 0, Value.int IntKind.i64 0, Value.int IntKind.i64 0, Value.int IntKind.i64 0, Value.int IntKind.i64 0, Value.int IntKind.i64 0, Value.int IntKind.i64 0, Value.int IntKind.i64 0, Value.int IntKind.i64 0, Value.int IntKind.i64 0, Value.int IntKind.i64 0, Value.int IntKind.i64 0, Value.int IntKind.i64 0, Value.int IntKind.i64 0, Value.int IntKind.i64 0, Value.int IntKind.i64 0, Value.int IntKind.i64 0, Value.int IntKind.i64 0, Value.int IntKind.i64 0, Value.int IntKind.i64 0, Value.int IntKind.i64 0, Value.int IntKind.i64 0, Value.int IntKind.i64 0] 217)) = .ok () (w.alloc (.cells #[Value.int IntKind.i64 0, Value.int IntKind.i64 1, Value.int IntKind.i64 0, Value.int IntKind.i64 0, Value.int IntKind.i64 0, Value.int IntKind.i64 0, Value.int IntKind.i64 0, Value.int IntKind.i64 1, Value.int IntKind.i64 0, Value.int IntKind.i64 2, Value.int IntKind.i64 0, Value.int IntKind.i64 0, Value.int IntKind.i64 0, Value.int IntKind.i64 1, Value.int IntKind.i64 0, Value.int IntKind.i64 0, Value.int IntKind.i64 3, Value.int IntKind.i64 0, Value.int IntKind.i64 0, Value.int IntKind.i64 1, Value.int IntKind.i64 0, Value.int IntKind.i64 4, Value.int IntKind.i64 0, Value.int IntKind.i64 0, Value.int IntKind.i64 0, Value.int IntKind.i64 1, Value.int IntKind.i64 5, Value.int IntKind.i64 5, Value.int IntKind.i64 0, Value.int IntKind.i64 0, Value.int IntKind.i64 0, Value.int IntKind.i64 1, Value.int IntKind.i64 0, Value.int IntKind.i64 0, Value.int IntKind.i64 0, Value.int IntKind.i64 0] 217)) := by
  rw [run_storeVar_row _ _ 217 _ #[Value.int IntKind.i64 0, Value.int IntKind.i64 0, Value.int IntKind.i64 0, Value.int IntKind.i64 0, Value.int IntKind.i64 0, Value.int IntKind.i64 0, Value.int IntKind.i64 0, Value.int IntKind.i64 0, Value.int IntKind.i64 0, Value.int IntKind.i64 0, Value.int IntKind.i64 0, Value.int IntKind.i64 0, Value.int IntKind.i64 0, Value.int IntKind.i64 0, Value.int IntKind.i64 0, Value.int IntKind.i64 0, Value.int IntKind.i64 0, Value.int IntKind.i64 0, Value.int IntKind.i64 0, Value.int IntKind.i64 0, Value.int IntKind.i64 0, Value.int IntKind.i64 0, Value.int IntKind.i64 0, Value.int IntKind.i64 0, Value.int IntKind.i64 0, Value.int IntKind.i64 0, Value.int IntKind.i64 0, Value.int IntKind.i64 0, Value.int IntKind.i64 0, Value.int IntKind.i64 0, Value.int IntKind.i64 0, Value.int IntKind.i64 0, Value.int IntKind.i64 0, Value.int IntKind.i64 0, Value.int IntKind.i64 0, Value.int IntKind.i64 0] #[Value.int IntKind.i64 0, Value.int IntKind.i64 1, Value.int IntKind.i64 0, Value.int IntKind.i64 0, Value.int IntKind.i64 0, Value.int IntKind.i64 0, Value.int IntKind.i64 0, Value.int IntKind.i64 1, Value.int IntKind.i64 0, Value.int IntKind.i64 2, Value.int IntKind.i64 0, Value.int IntKind.i64 0, Value.int IntKind.i64 0, Value.int IntKind.i64 1, Value.int IntKind.i64 0, Value.int IntKind.i64 0, Value.int IntKind.i64 3, Value.int IntKind.i64 0, Value.int IntKind.i64 0, Value.int IntKind.i64 1, Value.int IntKind.i64 0, Value.int IntKind.i64 4, Value.int IntKind.i64 0, Value.int IntKind.i64 0, Value.int IntKind.i64 0, Value.int IntKind.i64 1, Value.int IntKind.i64 5, Value.int IntKind.i64 5, Value.int IntKind.i64 0, Value.int IntKind.i64 0, Value.int IntKind.i64 0, Value.int IntKind.i64 1, Value.int IntKind.i64 0, Value.int IntKind.i64 0, Value.int IntKind.i64 0, Value.int IntKind.i64 0] (heap_alloc_new w _) (by kernel_rfl) rfl (by kernel_rfl), setRow_alloc]

set_option maxHeartbeats 2000000 in
theorem after_any (st k : Nat) (h1 : st ≤ 5) (h2 : k ≤ 5) (w : World) :
    Calls Tryz.prog 155 #[.int .i64 (st : Nat), .int .i64 (k : Nat)] w fun e w' => e = .returned (.int .i64 (tabN st k : Nat)) ∧ Below w.heap.size w w' := by
  have ht := tab_at st k h1 h2
  have g1 : (st : Int) < 6 := by omega
  have g2 : (k : Int) < 6 := by omega
  have b0 := bld0
  have b1 := bld1
  have b2 := bld2
  have b3 := bld3
  have b4 := bld4
  have b9 := bld9
  have hs := sto w
  go_enter Tryz.func155, Tryz.ntmps155
  go_wp2
  go_ret
  exact ⟨rfl, (Below.refl _ _).alloc (Nat.le_refl _) _⟩
end Go.Proofs.YtfmjhbdbgcgoiaaGreatDoor.TxW

/- Walks: what is held, by the program. -/
namespace Go.Proofs.YtfmjhbdbgcgoiaaGreatDoor.TxW
open Go.RowKit Go.Proofs.YtfmjhbdbgcgoiaaGreatDoor.Kit Go.Proofs.YtfmjhbdbgcgoiaaGreatDoor.Tx

theorem kind_le (c : Nat) : kindN c ≤ 5 := by
  unfold kindN; repeat' split
  all_goals omega

set_option maxHeartbeats 2000000 in
theorem held_any (s : ByteArray) (w : World) :
    Calls Tryz.prog 150 #[.string s] w fun e w' => e = .returned (.int .i64 (hdN s.data.toList : Nat)) ∧ Below w.heap.size w w' := by
  have hs := lenL s
  cases hok : okB s.data.toList
  · have hr := hd_no _ hok
    go_enter Tryz.func150, Tryz.ntmps150
    go_wp2_with fail
    refine (ok_any _ _).mono ?_
    rintro e w1 ⟨rfl, rfl⟩
    rw [hok]
    go_wp2
    go_ret
    exact ⟨by rw [hr]; rfl, Below.refl _ _⟩
  · have hr := hd_ok _ hok
    have hsz : s.size ≤ 40 := by have := (ok_parts _ hok).1; omega
    go_enter Tryz.func150, Tryz.ntmps150
    go_wp2_with fail
    refine (ok_any _ _).mono ?_
    rintro e w1 ⟨rfl, rfl⟩
    rw [hok]
    go_wp2
    go_loopw [3, 10] (fun st i wr => ∃ k : Nat, k ≤ s.size ∧ i = .int .i64 k ∧ st = .int .i64 (heldN (s.data.toList.take k) : Nat) ∧ Below w1.heap.size w1 wr) (fun st i wr => s.size - (intOf i).toNat)
    case atStart => exact ⟨0, Nat.zero_le _, rfl, rfl, Below.refl _ _⟩
    case round =>
      obtain ⟨k, hk, rfl, rfl, hbel⟩ := hrel
      by_cases hlt : k < s.size
      · have hlt' : (k : Int) < s.size := by omega
        have hc : (s.data[k]'hlt).toNat < 256 := UInt8.toNat_lt _
        have hl5 := heldN_le (s.data.toList.take k)
        have hn : tabN (heldN (s.data.toList.take k)) (kindN (s.data[k]'hlt).toNat) = heldN (s.data.toList.take (k + 1)) := by
          rw [tab_step, held_take _ _ (by rw [lenL]; exact hlt)]; rfl
        go_wp2_with fail
        refine (kind_any _ hc _).mono ?_
        rintro e w2 ⟨rfl, rfl⟩
        go_wp2_with fail
        refine (after_any _ _ hl5 (kind_le _) _).mono ?_
        rintro e w3 ⟨rfl, k3⟩
        rw [hn]
        go_wp2
        go_roundw
        case rel => exact ⟨k + 1, by omega, by go_num, rfl, hbel.trans (k3.mono hbel.size)⟩
        case measure => simp [intOf]; omega
      · have hge : (s.size : Int) ≤ k := by omega
        have e : heldN (s.data.toList.take k) = heldN s.data.toList := by rw [List.take_of_length_le (by omega)]
        rw [e]
        go_wp2
        go_ret
        exact ⟨by rw [hr]; rfl, hbel⟩
end Go.Proofs.YtfmjhbdbgcgoiaaGreatDoor.TxW

/- Walks: TextPieces of the model. -/
import Derived.Test.YtfmjhbdbgcgoiaaGreatDoorNmS
import Derived.Test.YtfmjhbdbgcgoiaaGreatDoorTxMo
import Derived.Test.YtfmjhbdbgcgoiaaGreatDoorPcs
namespace Go.Proofs.YtfmjhbdbgcgoiaaGreatDoor.Pcs
open Go.RowKit Go.Shelf Go.Proofs.YtfmjhbdbgcgoiaaGreatDoor.Kit Go.Proofs.YtfmjhbdbgcgoiaaGreatDoor.Tx Go.Proofs.YtfmjhbdbgcgoiaaGreatDoor.Nm Go.Proofs.YtfmjhbdbgcgoiaaGreatDoor.App Go.Proofs.YtfmjhbdbgcgoiaaGreatDoor.It
open Go.Proofs.YtfmjhbdbgcgoiaaGreatDoor.TxW (sok_any lheld_any)
open Go.Proofs.YtfmjhbdbgcgoiaaGreatDoor.EndW (endV)
attribute [local go_sem] Oper.semAt_some
set_option linter.unusedSimpArgs false
set_option linter.unusedVariables false

theorem bd_ext (s : ByteArray) (k : Nat) : (s.extract k (s.size - heldN s.data.toList)).data.toList = (bd s.data.toList).drop k := by
  rw [ext_to]
  unfold bd
  rw [List.drop_take, lenL]

set_option maxRecDepth 8000 in
set_option maxHeartbeats 4000000 in
theorem lpieces_in (n : Nat) (hn : 3 ≤ n) (s : ByteArray) (hsz : s.size ≤ 1073741824) (w : World) :
    CallsIn Fence.wide n Tryz.prog 93 #[.string s] w fun e W' =>
      ∃ v, e = .returned v ∧ W'.ownsRow w.heap.size 90 4 v (pcs (bd s.data.toList)).length (cellsP (pcs (bd s.data.toList))) ∧ Below w.heap.size w W' := by
  have hs := lenL s
  have hmx : s.size ≤ maxLen := by unfold maxLen; omega
  have hhl := heldN_len s.data.toList
  obtain ⟨i0, hi, hz0, hz1, hz2⟩ := info_parts infoP
  refine callsIn_of_wp Tryz.func93 rfl trivial ?_ rfl
  simp only [Tryz.ntmps93, List.size_toArray, List.length_cons, List.length_nil, Nat.reduceAdd, Nat.reduceSub, Array.replicate_succ, Array.replicate_zero, List.push_toArray, List.append_toArray, List.nil_append, List.cons_append]
  gi_wp2_with fail
  refine ⟨trivial, (fun h => by cases h), ?_⟩
  refine (callsIn_wide.2 (lheld_any s hmx _)).mono ?_
  rintro e w2 ⟨rfl, k2⟩
  have hmo : ((s.size : Int) - ((heldN s.data.toList : Nat) : Int)) = ((s.size - heldN s.data.toList : Nat) : Int) := by omega
  have bA : Below w.heap.size w (w.alloc (.cells #[] 90)) := (Below.refl _ w).alloc (Nat.le_refl _) _
  have r2 := row_below (World.ownsRow_made (base := w.heap.size) (e := 90) (size := 4) w #[] 0 (Nat.le_refl _) (Nat.zero_le _) rfl) k2
  have bel2 := bA.trans (k2.mono (by simp))
  clear k2
  gi_wp2
  gi_loopw [3, 5] (fun o i wr => ∃ (k : Nat) (pre : List Pc), k ≤ s.size - heldN s.data.toList ∧ i = .int .i64 k ∧ pcs (bd s.data.toList) = pre ++ pcs ((bd s.data.toList).drop k) ∧ pre.length ≤ k ∧ wr.ownsRow w.heap.size 90 4 o pre.length (cellsP pre) ∧ Below w.heap.size w wr) (fun o i wr => s.size - heldN s.data.toList - (intOf i).toNat)
  case atStart => exact ⟨0, [], Nat.zero_le _, rfl, rfl, Nat.le_refl _, r2, bel2⟩
  case round =>
    obtain ⟨k, pre, hk, rfl, hpc, hpl, hrow, hbel⟩ := hrel
    by_cases hkl : k < s.size - heldN s.data.toList
    · have hkl' : (k : Int) < ((s.size - heldN s.data.toList : Nat) : Int) := by omega
      have hkl2 : (k : Int) ≤ ((s.size - heldN s.data.toList : Nat) : Int) := by omega
      have hml : ((s.size - heldN s.data.toList : Nat) : Int) ≤ (s.size : Int) := by omega
      have hbl2 := bd_len s.data.toList
      have hne2 : (bd s.data.toList).drop k ≠ [] := by
        intro hz
        have := congrArg List.length hz
        rw [List.length_drop] at this; simp at this; omega
      have hx := bd_ext s k
      have hp1 := pc1_sz _ hne2
      have hcons := pcs_cons _ hne2
      rw [List.drop_drop] at hcons
      rw [List.length_drop, hbl2, hs] at hp1
      have hez : (s.extract k (s.size - heldN s.data.toList)).size ≤ maxLen := by rw [ByteArray.size_extract]; unfold maxLen; omega
      gi_wp2_with fail
      refine ⟨trivial, (fun h => by cases h), ?_⟩
      refine (callsIn_wide.2 (sname_any _ hez _)).mono ?_
      rintro e w5 ⟨x, y, m, rfl, k5, hnm⟩
      rw [hx] at hnm
      have hsz0 := hbel.size
      have z5 := k5.size
      have hrow5 := row_below hrow k5
      have bel5 := hbel.trans (k5.mono hbel.size)
      clear k5
      rcases hnm with ⟨hno, hm⟩ | ⟨rfl, rfl, rfl, hno⟩
      · have hP : pc1 ((bd s.data.toList).drop k) = ⟨m, true, x, y⟩ := by unfold pc1; rw [hno, hm]
        rw [hP] at hp1 hcons
        simp only at hp1 hcons
        have hpos : (0 : Int) < ((m : Nat) : Int) := by omega
        clear hm hP hno hx hne2 hbl2 hez hkl' hkl2 hml hmo hrow
        have HC : Hid (pcs ((bd s.data.toList).drop k) = ⟨m, true, x, y⟩ :: pcs ((bd s.data.toList).drop (k + m))) := hcons
        have HP : Hid (pcs (bd s.data.toList) = pre ++ pcs ((bd s.data.toList).drop k)) := hpc
        clear hcons hpc
        have hrow6 := hrow5.alloc (.cells #[.int .i64 x, .int .i64 y] 40)
        have bel6 := bel5.alloc (o := .cells #[.int .i64 x, .int .i64 y] 40) (by omega)
        have hb1 : k + m ≤ 1073741824 := by omega
        gi_wp2_with (gi_at_builtin; refine wpListIn_append_own2 _ rfl _ _ 84 rfl w.heap.size 90 i0 (.agg #[.int .i64 0, .bool false, .int .i64 0, .int .i64 0]) 4 32 Tryz.underlying84 hi hz0 hz1 hz2 rfl (by decide) _ _ _ rfl (hrow6.alloc _) ⟨w5.heap.size + 1, 0, none⟩ 1 1 [.int .i64 (m : Nat), .bool true, .int .i64 x, .int .i64 y] rfl rfl (four_at (w5.alloc _) _ _ _ _ _ _ (by simp)) (by simp [Value.oneCell']) (by unfold maxLen; omega) (by omega) (by simp; omega) ?_; intro v' w7 hown' hgrow hwh; obtain ⟨g', cap', rfl⟩ := ownsRow_succ hown')
        have bel7 := (bel6.alloc (o := .cells #[.int .i64 (m : Nat), .bool true, .int .i64 x, .int .i64 y] 90) (by simp; omega)).grown hgrow (by simp; omega) (fun j ej => (hrow6.lt j ej).1)
        go_roundw
        case rel =>
          refine ⟨k + m, pre ++ [⟨m, true, x, y⟩], by omega, by first | go_num | (simp [wrap64]; omega), ?_, by simp; omega, ?_, bel7⟩
          · rw [HP.out, HC.out]; simp
          · rw [cellsP_snoc, List.length_append]
            exact hown'
        case measure => first | (simp [intOf]; omega) | (simp [intOf, wrap64]; omega)
      · have hP : pc1 ((bd s.data.toList).drop k) = ⟨1, false, 0, 0⟩ := by unfold pc1; rw [hno]
        rw [hP] at hp1 hcons
        simp only at hp1 hcons
        have hrow6 := hrow5.alloc (.cells #[.int .i64 0, .int .i64 0] 40)
        have bel6 := bel5.alloc (o := .cells #[.int .i64 0, .int .i64 0] 40) (by omega)
        clear hP hno hx hne2 hbl2 hez hkl' hkl2 hml hmo hrow
        have HC : Hid (pcs ((bd s.data.toList).drop k) = ⟨1, false, 0, 0⟩ :: pcs ((bd s.data.toList).drop (k + 1))) := hcons
        have HP : Hid (pcs (bd s.data.toList) = pre ++ pcs ((bd s.data.toList).drop k)) := hpc
        clear hcons hpc
        have hb1 : k + 1 ≤ 1073741824 := by omega
        gi_wp2_with (gi_at_builtin; refine wpListIn_append_own2 _ rfl _ _ 84 rfl w.heap.size 90 i0 (.agg #[.int .i64 0, .bool false, .int .i64 0, .int .i64 0]) 4 32 Tryz.underlying84 hi hz0 hz1 hz2 rfl (by decide) _ _ _ rfl (hrow6.alloc _) ⟨w5.heap.size + 1, 0, none⟩ 1 1 [.int .i64 1, .bool false, .int .i64 0, .int .i64 0] rfl rfl (four_at (w5.alloc _) _ _ _ _ _ _ (by simp)) (by simp [Value.oneCell']) (by unfold maxLen; omega) (by omega) (by simp; omega) ?_; intro v' w7 hown' hgrow hwh; obtain ⟨g', cap', rfl⟩ := ownsRow_succ hown')
        have bel7 := (bel6.alloc (o := .cells #[.int .i64 1, .bool false, .int .i64 0, .int .i64 0] 90) (by simp; omega)).grown hgrow (by simp; omega) (fun j ej => (hrow6.lt j ej).1)
        go_roundw
        case rel =>
          refine ⟨k + 1, pre ++ [⟨1, false, 0, 0⟩], by omega, by first | go_num | (simp [wrap64]; omega), ?_, by simp; omega, ?_, bel7⟩
          · rw [HP.out, HC.out]; simp
          · rw [cellsP_snoc, List.length_append]
            exact hown'
        case measure => first | (simp [intOf]; omega) | (simp [intOf, wrap64]; omega)
    · have hge : ((s.size - heldN s.data.toList : Nat) : Int) ≤ (k : Int) := by omega
      have hnil : pcs ((bd s.data.toList).drop k) = [] := by
        rw [List.drop_of_length_le (by rw [bd_len]; omega), pcs_nil]
      rw [hnil, List.append_nil] at hpc
      gi_wp2
      go_ret
      exact ⟨_, rfl, by rw [hpc]; exact hrow, hbel⟩

set_option maxRecDepth 8000 in
set_option maxHeartbeats 1000000 in
theorem spieces_in (n : Nat) (hn : 5 ≤ n) (s : ByteArray) (hsz : s.size ≤ 1073741824) (w : World) :
    CallsIn Fence.wide n Tryz.prog 57 #[.string s] w fun e W' =>
      ∃ v, e = .returned v ∧ W'.ownsRow w.heap.size 90 4 v (pieL s.data.toList).length (cellsP (pieL s.data.toList)) ∧ Below w.heap.size w W' := by
  have hmx : s.size ≤ maxLen := by unfold maxLen; omega
  refine callsIn_of_wp Tryz.func57 rfl trivial ?_ rfl
  simp only [Tryz.ntmps57, List.size_toArray, List.length_cons, List.length_nil, Nat.reduceAdd, Nat.reduceSub, Array.replicate_succ, Array.replicate_zero, List.push_toArray, List.append_toArray, List.nil_append, List.cons_append]
  gi_wp2_with fail
  refine ⟨trivial, (fun h => by cases h), ?_⟩
  refine (callsIn_wide.2 (sok_any s hmx _)).mono ?_
  rintro e w2 ⟨rfl, rfl⟩
  cases hok : okB s.data.toList
  · have hp := pie_no _ hok
    gi_wp2
    go_ret
    refine ⟨_, rfl, ?_, (Below.refl _ _).alloc (Nat.le_refl _) _⟩
    rw [hp]
    exact World.ownsRow_made (base := w2.heap.size) (e := 90) (size := 4) w2 #[] 0 (Nat.le_refl _) (Nat.zero_le _) rfl
  · have hp := pie_ok _ hok
    gi_wp2_with fail
    refine ⟨trivial, (fun h => by cases h), ?_⟩
    refine (lpieces_in (n - 1) (by omega) s hsz _).mono ?_
    rintro e w3 ⟨v, rfl, hr, hb⟩
    gi_wp2
    go_ret
    exact ⟨v, rfl, by rw [hp]; exact hr, hb⟩

/-- TextPieces of the model answers the pieces, in a row of its own -/
theorem spieces_any (s : ByteArray) (hsz : s.size ≤ 1073741824) (w : World) :
    Calls Tryz.prog 57 #[.string s] w fun e W' =>
      ∃ v, e = .returned v ∧ W'.ownsRow w.heap.size 90 4 v (pieL s.data.toList).length (cellsP (pieL s.data.toList)) ∧ Below w.heap.size w W' :=
  (callsIn_wide (n := 9)).1 (spieces_in 9 (by omega) s hsz w)
end Go.Proofs.YtfmjhbdbgcgoiaaGreatDoor.Pcs

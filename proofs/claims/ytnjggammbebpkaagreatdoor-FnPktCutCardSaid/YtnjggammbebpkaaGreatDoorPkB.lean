/- Packets: what is in form, by the model. -/
import Derived.Test.YtnjggammbebpkaaGreatDoorPkA
namespace Go.Proofs.YtnjggammbebpkaaGreatDoor.Pk
open Go.RowKit Go.Proofs.YtnjggammbebpkaaGreatDoor.Kit
open Go.Proofs.YtnjggammbebpkaaGreatDoor.EndW (sideZ side_any l6in_any inB)
open Go.Proofs.YtnjggammbebpkaaGreatDoor.Text (any_spec)
open Go.Proofs.YtnjggammbebpkaaGreatDoor.Tx (okB)
open Go.Proofs.YtnjggammbebpkaaGreatDoor.TxW (ok_any sok_any)

set_option maxHeartbeats 2000000 in
theorem spktOk (k a b c d n : Int) (t : ByteArray) (ht : t.size ≤ maxLen) (w : World) :
    Calls Tryz.prog 19 #[pktV k a b c d n t] w fun e w' => e = .returned (.bool (pktB k a b c d n t)) ∧ Below w.heap.size w w' := by
  have bel0 : Below w.heap.size w (w.alloc (.cells #[.int .i64 k, .int .i64 a, .int .i64 b, .int .i64 c, .int .i64 d, .int .i64 n, .string t] 26)) := (Below.refl _ _).alloc (Nat.le_refl _) _
  cases h1 : (sideZ a b != 0)
  · rw [pkt_no1 h1]
    go_enter Tryz.func19, Tryz.ntmps19
    go_wp2_with fail
    refine (any_spec _ _ _).mono ?_
    rintro e w1 ⟨rfl, k1⟩
    have z1 := k1.size
    simp at z1
    have c1 := keepc k1 w.heap.size (by simp)
    have bel1 := bel0.trans (k1.mono (by simp))
    clear k1 bel0
    go_wp2
    go_ret
    exact ⟨rfl, bel1⟩
  · cases h2 : (sideZ c d != 0)
    · rw [pkt_no2 h2]
      go_enter Tryz.func19, Tryz.ntmps19
      go_wp2_with fail
      refine (any_spec _ _ _).mono ?_
      rintro e w1 ⟨rfl, k1⟩
      have z1 := k1.size
      simp at z1
      have c1 := keepc k1 w.heap.size (by simp)
      have bel1 := bel0.trans (k1.mono (by simp))
      clear k1 bel0
      go_wp2_with fail
      refine (any_spec _ _ _).mono ?_
      rintro e w2 ⟨rfl, k2⟩
      have z2 := k2.size
      have c2 := fun j => (keepc k2 w.heap.size (by omega) j).trans (c1 j)
      have bel2 := bel1.trans (k2.mono (by omega))
      clear k2 bel1 c1
      go_wp2
      go_ret
      exact ⟨rfl, bel2⟩
    · cases h3 : inB n 0 99
      · rw [pkt_no3 (by unfold inB at h3; simp at h3; omega)]
        go_enter Tryz.func19, Tryz.ntmps19
        go_wp2_with fail
        refine (any_spec _ _ _).mono ?_
        rintro e w1 ⟨rfl, k1⟩
        have z1 := k1.size
        simp at z1
        have c1 := keepc k1 w.heap.size (by simp)
        have bel1 := bel0.trans (k1.mono (by simp))
        clear k1 bel0
        go_wp2_with fail
        refine (any_spec _ _ _).mono ?_
        rintro e w2 ⟨rfl, k2⟩
        have z2 := k2.size
        have c2 := fun j => (keepc k2 w.heap.size (by omega) j).trans (c1 j)
        have bel2 := bel1.trans (k2.mono (by omega))
        clear k2 bel1 c1
        go_wp2_with (go_at_call 29; refine (l6in_any _ _ _ _).mono ?_; rintro e w3 ⟨rfl, rfl⟩)
        go_ret
        exact ⟨rfl, bel2⟩
      · rw [pkt_at h1 h2 (by unfold inB at h3; simp at h3; omega) (by unfold inB at h3; simp at h3; omega)]
        by_cases e1 : k = 1
        · subst e1
          go_enter Tryz.func19, Tryz.ntmps19
          go_wp2_with fail
          refine (any_spec _ _ _).mono ?_
          rintro e w1 ⟨rfl, k1⟩
          have z1 := k1.size
          simp at z1
          have c1 := keepc k1 w.heap.size (by simp)
          have bel1 := bel0.trans (k1.mono (by simp))
          clear k1 bel0
          go_wp2_with fail
          refine (any_spec _ _ _).mono ?_
          rintro e w2 ⟨rfl, k2⟩
          have z2 := k2.size
          have c2 := fun j => (keepc k2 w.heap.size (by omega) j).trans (c1 j)
          have bel2 := bel1.trans (k2.mono (by omega))
          clear k2 bel1 c1
          cases ho : okB t.data.toList
          all_goals
            go_wp2_with (first | (go_at_call 29; refine (l6in_any _ _ _ _).mono ?_; rintro e w3 ⟨rfl, rfl⟩) | (go_at_call 39; refine (sok_any _ ht _).mono ?_; rintro e w3 ⟨rfl, rfl⟩; rw [ho]))
            go_ret
            refine ⟨?_, bel2⟩
            unfold bytB
            rw [if_pos rfl, ho]
            cases t.toList.isEmpty <;> rfl
        · have b1 : (k == 1) = false := by simpa using e1
          by_cases e2 : k = 2
          · subst e2
            go_enter Tryz.func19, Tryz.ntmps19
            go_wp2_with fail
            refine (any_spec _ _ _).mono ?_
            rintro e w1 ⟨rfl, k1⟩
            have z1 := k1.size
            simp at z1
            have c1 := keepc k1 w.heap.size (by simp)
            have bel1 := bel0.trans (k1.mono (by simp))
            clear k1 bel0
            go_wp2_with fail
            refine (any_spec _ _ _).mono ?_
            rintro e w2 ⟨rfl, k2⟩
            have z2 := k2.size
            have c2 := fun j => (keepc k2 w.heap.size (by omega) j).trans (c1 j)
            have bel2 := bel1.trans (k2.mono (by omega))
            clear k2 bel1 c1
            go_wp2_with (go_at_call 29; refine (l6in_any _ _ _ _).mono ?_; rintro e w3 ⟨rfl, rfl⟩)
            go_ret
            exact ⟨rfl, bel2⟩
          · have b2 : (k == 2) = false := by simpa using e2
            have hr : bytB k t = false := by unfold bytB; rw [if_neg e1, if_neg e2]
            rw [hr]; clear hr
            go_enter Tryz.func19, Tryz.ntmps19
            go_wp2_with fail
            refine (any_spec _ _ _).mono ?_
            rintro e w1 ⟨rfl, k1⟩
            have z1 := k1.size
            simp at z1
            have c1 := keepc k1 w.heap.size (by simp)
            have bel1 := bel0.trans (k1.mono (by simp))
            clear k1 bel0
            go_wp2_with fail
            refine (any_spec _ _ _).mono ?_
            rintro e w2 ⟨rfl, k2⟩
            have z2 := k2.size
            have c2 := fun j => (keepc k2 w.heap.size (by omega) j).trans (c1 j)
            have bel2 := bel1.trans (k2.mono (by omega))
            clear k2 bel1 c1
            go_wp2_with (go_at_call 29; refine (l6in_any _ _ _ _).mono ?_; rintro e w3 ⟨rfl, rfl⟩)
            go_ret
            exact ⟨rfl, bel2⟩
end Go.Proofs.YtnjggammbebpkaaGreatDoor.Pk

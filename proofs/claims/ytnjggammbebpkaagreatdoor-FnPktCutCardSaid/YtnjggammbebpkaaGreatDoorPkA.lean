/- Packets: what is in form, by the program and by its model. -/
import Derived.Test.YtnjggammbebpkaaGreatDoorText
import Derived.Test.YtnjggammbebpkaaGreatDoorTxO
import Derived.Test.YtnjggammbebpkaaGreatDoorTxS
namespace Go.Proofs.YtnjggammbebpkaaGreatDoor.Pk
open Go.RowKit Go.Proofs.YtnjggammbebpkaaGreatDoor.Kit
open Go.Proofs.YtnjggammbebpkaaGreatDoor.EndW (sideZ side_any l6in_any inB)
open Go.Proofs.YtnjggammbebpkaaGreatDoor.Text (any_spec)
open Go.Proofs.YtnjggammbebpkaaGreatDoor.Tx (okB)
open Go.Proofs.YtnjggammbebpkaaGreatDoor.TxW (ok_any sok_any)

abbrev pktV (k a b c d n : Int) (t : ByteArray) : Value := .agg #[.int .i64 k, .int .i64 a, .int .i64 b, .int .i64 c, .int .i64 d, .int .i64 n, .string t]

/-- whether a packet of kind k may have these bytes -/
def bytB (k : Int) (t : ByteArray) : Bool := if k = 1 then (!t.toList.isEmpty) && okB t.data.toList else if k = 2 then t.toList.isEmpty else false
/-- whether a packet is in form -/
def pktB (k a b c d n : Int) (t : ByteArray) : Bool := (sideZ a b != 0) && ((sideZ c d != 0) && (decide (0 ≤ n) && (decide (n ≤ 99) && bytB k t)))

theorem emp_iff (t : ByteArray) (h : t.toList.isEmpty = true) : t = ⟨#[]⟩ := by
  have h2 : t.data.toList = [] := by rw [← ByteArray.toList_eq]; exact List.isEmpty_iff.1 h
  obtain ⟨⟨l⟩⟩ := t
  simp at h2
  subst h2
  rfl

set_option maxHeartbeats 1000000 in
theorem bytes_any (k : Int) (t : ByteArray) (w : World) :
    Calls Tryz.prog 25 #[.int .i64 k, .string t] w fun e w' => e = .returned (.bool (bytB k t)) ∧ w' = w := by
  by_cases h1 : k = 1
  · subst h1
    cases he : t.toList.isEmpty
    · have hr : bytB 1 t = okB t.data.toList := by unfold bytB; rw [if_pos rfl, he]; rfl
      rw [hr]; clear hr
      go_enter Tryz.func25, Tryz.ntmps25
      go_wp2_with (go_at_call 45; refine (ok_any _ _).mono ?_; rintro e w1 ⟨rfl, rfl⟩)
      go_ret
      exact ⟨rfl, rfl⟩
    · have hr : bytB 1 t = false := by unfold bytB; rw [if_pos rfl, he]; rfl
      rw [hr]; clear hr
      obtain rfl := emp_iff t he
      go_enter Tryz.func25, Tryz.ntmps25
      go_wp2
      go_ret
      exact ⟨rfl, rfl⟩
  · have b1 : (k == 1) = false := by simpa using h1
    by_cases h2 : k = 2
    · subst h2
      have hr : bytB 2 t = t.toList.isEmpty := rfl
      rw [hr]; clear hr
      go_enter Tryz.func25, Tryz.ntmps25
      go_wp2
      go_ret
      exact ⟨rfl, rfl⟩
    · have b2 : (k == 2) = false := by simpa using h2
      have hr : bytB k t = false := by unfold bytB; rw [if_neg h1, if_neg h2]
      rw [hr]; clear hr
      go_enter Tryz.func25, Tryz.ntmps25
      go_wp2
      go_ret
      exact ⟨rfl, rfl⟩

theorem pkt_no1 {k a b c d n : Int} {t : ByteArray} (h : (sideZ a b != 0) = false) : pktB k a b c d n t = false := by unfold pktB; rw [h]; rfl
theorem pkt_no2 {k a b c d n : Int} {t : ByteArray} (h : (sideZ c d != 0) = false) : pktB k a b c d n t = false := by unfold pktB; rw [h]; simp
theorem pkt_no3 {k a b c d n : Int} {t : ByteArray} (h : ¬ (0 ≤ n ∧ n ≤ 99)) : pktB k a b c d n t = false := by
  unfold pktB; simp; intros; omega
theorem pkt_at {k a b c d n : Int} {t : ByteArray} (h1 : (sideZ a b != 0) = true) (h2 : (sideZ c d != 0) = true) (h3 : 0 ≤ n) (h4 : n ≤ 99) : pktB k a b c d n t = bytB k t := by
  unfold pktB; rw [h1, h2, decide_eq_true h3, decide_eq_true h4]; rfl

set_option maxHeartbeats 2000000 in
theorem pktOk (k a b c d n : Int) (t : ByteArray) (w : World) :
    Calls Tryz.prog 10 #[pktV k a b c d n t] w fun e w' => e = .returned (.bool (pktB k a b c d n t)) ∧ Below w.heap.size w w' := by
  have bel0 : Below w.heap.size w (w.alloc (.cells #[.int .i64 k, .int .i64 a, .int .i64 b, .int .i64 c, .int .i64 d, .int .i64 n, .string t] 26)) := (Below.refl _ _).alloc (Nat.le_refl _) _
  cases h1 : (sideZ a b != 0)
  · rw [pkt_no1 h1]
    go_enter Tryz.func10, Tryz.ntmps10
    go_wp2_with fail
    refine (side_any _ _ _).mono ?_
    rintro e w1 ⟨rfl, k1⟩
    have z1 := k1.size
    simp at z1
    have c1 := keepc k1 w.heap.size (by simp)
    have bel1 := bel0.trans (k1.mono (by simp))
    clear k1 bel0
    go_wp2
    go_ret
    exact ⟨rfl, bel1⟩
  · cases h2 : (sideZ c d != 0)
    · rw [pkt_no2 h2]
      go_enter Tryz.func10, Tryz.ntmps10
      go_wp2_with fail
      refine (side_any _ _ _).mono ?_
      rintro e w1 ⟨rfl, k1⟩
      have z1 := k1.size
      simp at z1
      have c1 := keepc k1 w.heap.size (by simp)
      have bel1 := bel0.trans (k1.mono (by simp))
      clear k1 bel0
      go_wp2_with fail
      refine (side_any _ _ _).mono ?_
      rintro e w2 ⟨rfl, k2⟩
      have z2 := k2.size
      have c2 := fun j => (keepc k2 w.heap.size (by omega) j).trans (c1 j)
      have bel2 := bel1.trans (k2.mono (by omega))
      clear k2 bel1 c1
      go_wp2
      go_ret
      exact ⟨rfl, bel2⟩
    · by_cases h3 : 0 ≤ n
      · by_cases h4 : n ≤ 99
        · rw [pkt_at h1 h2 h3 h4]
          have h4' : ¬ 99 < n := by omega
          go_enter Tryz.func10, Tryz.ntmps10
          go_wp2_with fail
          refine (side_any _ _ _).mono ?_
          rintro e w1 ⟨rfl, k1⟩
          have z1 := k1.size
          simp at z1
          have c1 := keepc k1 w.heap.size (by simp)
          have bel1 := bel0.trans (k1.mono (by simp))
          clear k1 bel0
          go_wp2_with fail
          refine (side_any _ _ _).mono ?_
          rintro e w2 ⟨rfl, k2⟩
          have z2 := k2.size
          have c2 := fun j => (keepc k2 w.heap.size (by omega) j).trans (c1 j)
          have bel2 := bel1.trans (k2.mono (by omega))
          clear k2 bel1 c1
          go_wp2_with fail
          refine (bytes_any _ _ _).mono ?_
          rintro e w3 ⟨rfl, rfl⟩
          go_wp2
          go_ret
          exact ⟨rfl, bel2⟩
        · rw [pkt_no3 (by omega)]
          have h4' : 99 < n := by omega
          go_enter Tryz.func10, Tryz.ntmps10
          go_wp2_with fail
          refine (side_any _ _ _).mono ?_
          rintro e w1 ⟨rfl, k1⟩
          have z1 := k1.size
          simp at z1
          have c1 := keepc k1 w.heap.size (by simp)
          have bel1 := bel0.trans (k1.mono (by simp))
          clear k1 bel0
          go_wp2_with fail
          refine (side_any _ _ _).mono ?_
          rintro e w2 ⟨rfl, k2⟩
          have z2 := k2.size
          have c2 := fun j => (keepc k2 w.heap.size (by omega) j).trans (c1 j)
          have bel2 := bel1.trans (k2.mono (by omega))
          clear k2 bel1 c1
          go_wp2
          go_ret
          exact ⟨rfl, bel2⟩
      · rw [pkt_no3 (by omega)]
        have h3' : n < 0 := by omega
        go_enter Tryz.func10, Tryz.ntmps10
        go_wp2_with fail
        refine (side_any _ _ _).mono ?_
        rintro e w1 ⟨rfl, k1⟩
        have z1 := k1.size
        simp at z1
        have c1 := keepc k1 w.heap.size (by simp)
        have bel1 := bel0.trans (k1.mono (by simp))
        clear k1 bel0
        go_wp2_with fail
        refine (side_any _ _ _).mono ?_
        rintro e w2 ⟨rfl, k2⟩
        have z2 := k2.size
        have c2 := fun j => (keepc k2 w.heap.size (by omega) j).trans (c1 j)
        have bel2 := bel1.trans (k2.mono (by omega))
        clear k2 bel1 c1
        go_wp2
        go_ret
        exact ⟨rfl, bel2⟩

end Go.Proofs.YtnjggammbebpkaaGreatDoor.Pk

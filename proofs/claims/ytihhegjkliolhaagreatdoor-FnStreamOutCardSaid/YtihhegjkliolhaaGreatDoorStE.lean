/- Walks: StreamOk, StreamOut, StreamFor, StreamBack of the program. -/
import Derived.Test.YtihhegjkliolhaaGreatDoorStD
namespace Go.Proofs.YtihhegjkliolhaaGreatDoor.St
open Go.RowKit Go.Shelf Go.Proofs.YtihhegjkliolhaaGreatDoor.Kit Go.Proofs.YtihhegjkliolhaaGreatDoor.Tx Go.Proofs.YtihhegjkliolhaaGreatDoor.Nm Go.Proofs.YtihhegjkliolhaaGreatDoor.App
open Go.Proofs.YtihhegjkliolhaaGreatDoor.Read (Errs)
set_option linter.unusedSimpArgs false
set_option linter.unusedVariables false

/-- parts of an ok stream are few and small -/
theorem stB_small {s : ByteArray} {ps : List (Int × ByteArray)} (h : stB s ps = true) : Small ps := by
  obtain ⟨hok, hlen, hall⟩ := stB_parts.1 h
  have h40 := (ok_parts _ hok).1
  rw [pie_ok _ hok] at hlen hall
  have hpos : ∀ l : List UInt8, (pcs l).length ≤ l.length ∧ ∀ x ∈ pcs l, 1 ≤ x.sz ∧ x.sz ≤ 6 := by
    intro l
    induction hn : l.length using Nat.strongRecOn generalizing l with
    | _ n ih =>
      by_cases ha : l = []
      · subst ha; rw [pcs_nil]; exact ⟨Nat.zero_le _, fun x hx => by cases hx⟩
      · have hl0 : 0 < l.length := List.length_pos_iff.2 ha
        cases q : nameO l with
        | none =>
          rw [pcs_none l ha q]
          obtain ⟨i1, i2⟩ := ih (l.drop 1).length (by rw [List.length_drop]; omega) _ rfl
          rw [List.length_drop] at i1
          refine ⟨by rw [List.length_cons]; omega, fun x hx => ?_⟩
          rcases List.mem_cons.1 hx with rfl | hx
          · exact ⟨Nat.le_refl _, by decide⟩
          · exact i2 x hx
        | some e =>
          rw [pcs_some l e q]
          have hp := nm_pos e
          have hside := ((nameO_some l e).1 q).1
          have hle : (nmL e).length ≤ 6 := by rw [nm_len e hside]; split <;> omega
          obtain ⟨i1, i2⟩ := ih (l.drop (nmL e).length).length (by rw [List.length_drop]; omega) _ rfl
          rw [List.length_drop] at i1
          refine ⟨by rw [List.length_cons]; omega, fun x hx => ?_⟩
          rcases List.mem_cons.1 hx with rfl | hx
          · exact ⟨hp, hle⟩
          · exact i2 x hx
  obtain ⟨p1, p2⟩ := hpos (bd s.data.toList)
  have hb := bd_len s.data.toList
  refine ⟨by omega, fun p hp => ?_⟩
  obtain ⟨i, hi, e⟩ := List.getElem_of_mem hp
  have hx : (pcs (bd s.data.toList))[i]? = some ((pcs (bd s.data.toList))[i]'(by omega)) := List.getElem?_eq_getElem _
  have hp' : ps[i]? = some p := by rw [List.getElem?_eq_getElem hi, e]
  have hb := hall i _ p hx hp'
  have hz := p2 _ (List.mem_of_getElem? hx)
  generalize (pcs (bd s.data.toList))[i]'(by omega) = x at hx hb hz
  unfold partB at hb
  simp only [Bool.and_eq_true, decide_eq_true_eq, Bool.not_eq_true'] at hb
  obtain ⟨⟨⟨b1, b2⟩, b3⟩, b4⟩ := hb
  refine ⟨by omega, ?_, b3⟩
  rcases Nat.eq_zero_or_pos p.2.size with h0 | h0
  · exfalso
    have : p.2 = ByteArray.empty := by
      apply ByteArray.ext
      exact Array.eq_empty_of_size_eq_zero h0
    rw [this] at b2
    simp at b2
  · exact h0
theorem txW_small {ps : List (Int × ByteArray)} (h : Small ps) : (txW ps).size ≤ 6 * ps.length := by
  have key : ∀ (qs : List (Int × ByteArray)) (a : ByteArray), (∀ p ∈ qs, p.2.size ≤ 6) → (qs.foldl (fun a p => a ++ p.2) a).size ≤ a.size + 6 * qs.length := by
    intro qs
    induction qs with
    | nil => intro a _; simp
    | cons q qs ih =>
      intro a hq
      have h1 := hq q (by simp)
      have h2 := ih (a ++ q.2) (fun p hp => hq p (by simp [hp]))
      rw [List.foldl_cons, List.length_cons]
      rw [ByteArray.size_append] at h2
      omega
  have := key ps ByteArray.empty (fun p hp => (h.2 p hp).2.2)
  have e : ByteArray.empty.size = 0 := rfl
  unfold txW; omega

set_option maxRecDepth 8000 in
set_option maxHeartbeats 4000000 in
theorem ok_stream (s : ByteArray) (v : Value) (ps : List (Int × ByteArray)) (w : World) (hT : IsT w v ps) (herr : Errs w) :
    Calls Tryz.prog 18 #[.agg #[.string s, v]] w fun e W' => e = .returned (.bool (stB s ps)) ∧ Below w.heap.size w W' := by
  have bA : Below w.heap.size w (w.alloc (.cells #[.string s, v] 26)) := (Below.refl _ _).alloc (Nat.le_refl _) _
  have hT1 := hT.below bA
  obtain ⟨a, cap, rfl, _⟩ := hT
  go_enter Tryz.func18, Tryz.ntmps18
  go_wp2_with fail
  refine (read_any s _ ps _ hT1 (herr.below bA)).mono ?_
  rintro e w1 ⟨k1, ⟨hst, rfl⟩ | ⟨hst, C, bs, hch, hC, hbs, rfl⟩⟩
  · have b1 := bA.trans (k1.mono (by simp))
    simp only [chV]
    go_wp2
    go_ret
    exact ⟨by first | rfl | (rw [hst]; rfl), b1.alloc b1.size _⟩
  · have b1 := bA.trans (k1.mono (by simp))
    simp only [chV]
    go_wp2
    go_ret
    exact ⟨by first | rfl | (rw [hst]; rfl), b1.alloc b1.size _⟩
/-- what StreamOut answers -/
noncomputable def outB (s : ByteArray) (ps : List (Int × ByteArray)) : ByteArray := if stB s ps = true then txW ps else ByteArray.empty
theorem outB_no {s : ByteArray} {ps : List (Int × ByteArray)} (h : stB s ps = false) : outB s ps = ByteArray.empty := if_neg (by rw [h]; exact Bool.false_ne_true)
theorem outB_ok {s : ByteArray} {ps : List (Int × ByteArray)} (h : stB s ps = true) : outB s ps = txW ps := if_pos h
set_option maxRecDepth 8000 in
set_option maxHeartbeats 4000000 in
theorem out_stream (s : ByteArray) (v : Value) (ps : List (Int × ByteArray)) (w : World) (hT : IsT w v ps) (herr : Errs w) :
    Calls Tryz.prog 19 #[.agg #[.string s, v]] w fun e W' => e = .returned (.string (outB s ps)) ∧ Below w.heap.size w W' := by
  have bA : Below w.heap.size w (w.alloc (.cells #[.string s, v] 26)) := (Below.refl _ _).alloc (Nat.le_refl _) _
  have hT1 := hT.below bA
  obtain ⟨a, cap, rfl, _⟩ := hT
  go_enter Tryz.func19, Tryz.ntmps19
  go_wp2_with fail
  refine (read_any s _ ps _ hT1 (herr.below bA)).mono ?_
  rintro e w1 ⟨k1, ⟨hst, rfl⟩ | ⟨hst, C, bs, hch, hC, hbs, rfl⟩⟩
  · have b1 := bA.trans (k1.mono (by simp))
    simp only [chV]
    go_wp2
    go_ret
    exact ⟨by rw [outB_no hst]; rfl, b1.alloc b1.size _⟩
  · have b1 := bA.trans (k1.mono (by simp))
    simp only [chV]
    go_wp2
    go_ret
    exact ⟨by rw [outB_ok hst]; rfl, b1.alloc b1.size _⟩
/-- what StreamFor and StreamBack answer -/
noncomputable def forZ (s : ByteArray) (ps : List (Int × ByteArray)) (n : Int) : Int := if stB s ps = true ∧ 0 ≤ n ∧ n ≤ (s.size : Int) then acr (sideH true) (sideH false) ps n else -1
noncomputable def backZ (s : ByteArray) (ps : List (Int × ByteArray)) (n : Int) : Int := if stB s ps = true ∧ 0 ≤ n ∧ n ≤ ((txW ps).size : Int) then acr (sideH false) (sideH true) ps n else -1
end Go.Proofs.YtihhegjkliolhaaGreatDoor.St

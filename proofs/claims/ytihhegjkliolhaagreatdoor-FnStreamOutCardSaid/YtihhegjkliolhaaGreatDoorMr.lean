/- Walks: MapIn of the model. -/
import Derived.Test.YtihhegjkliolhaaGreatDoorMo
namespace Go.Proofs.YtihhegjkliolhaaGreatDoor.Ms
open Go.RowKit Go.Proofs.YtihhegjkliolhaaGreatDoor.Kit Go.Proofs.YtihhegjkliolhaaGreatDoor.Mp Go.Proofs.YtihhegjkliolhaaGreatDoor.Mm Go.Proofs.YtihhegjkliolhaaGreatDoor.App
open Go.Proofs.YtihhegjkliolhaaGreatDoor.EndW (endV sideZ isB spec1 l6in_any)
set_option linter.unusedSimpArgs false
set_option linter.unusedVariables false

theorem inB_dec (n lo hi : Int) : EndW.inB n lo hi = (decide (lo ≤ n) && decide (n ≤ hi)) := rfl

set_option maxRecDepth 8000 in
set_option maxHeartbeats 4000000 in
theorem lin_any (W : World) (v : Value) (es : List (Int × Int)) (hl : es.length ≤ 8) (hm : IsM W v (prs es)) (port : Int) (hp0 : -9223372036854775808 ≤ port) (hp1 : port ≤ 9223372036854775807) :
    Calls Tryz.prog 81 #[v, .int .i64 port] W fun r W' => r = .returned (.tuple #[endV (inE es port).1.1 (inE es port).1.2, .bool (inE es port).2]) ∧ Below W.heap.size W W' := by
  obtain ⟨a, c, hv⟩ := isM_slice hm
  rw [prs_len] at hv
  subst hv
  have bA : Below W.heap.size W (W.alloc (.cells #[.int .i64 0, .int .i64 0] 77)) := (Below.refl _ _).alloc (Nat.le_refl _) _
  rcases inE_cases es port with ⟨i, e, rfl, he, hin⟩ | ⟨hno, hin⟩
  · rw [hin]
    clear hin
    have hil := (List.getElem?_eq_some_iff.1 he).1
    have hp : (prs es)[i]? = some (10 + (i : Int), e) := by rw [prs_at, he]; rfl
    obtain ⟨g, o, rfl, hnn, hc1, hc2, hat⟩ := isM_at (hm.below bA) i _ hp
    rw [prs_len] at hc1
    clear hnn
    obtain ⟨q0, q1, q2⟩ := hat
    simp only at q0 q1 q2
    have hB : EndW.inB (10 + (i : Int) - 10) 0 ((es.length : Int) - 1) = true := by rw [inB_dec]; simp; omega
    have hI : 10 + (i : Int) - 10 = (i : Int) := by omega
    have hi' : (i : Int) < (es.length : Int) := by omega
    rw [hI] at hB
    clear hm hp
    go_enter Tryz.func81, Tryz.ntmps81
    go_wp2_with fail
    refine (l6in_any _ _ _ _).mono ?_
    rintro r w1 ⟨rfl, rfl⟩
    rw [hB]
    go_wp2
    refine bodyPost_ret (v := .tuple #[endV e.1 e.2, .bool true]) ?_ rfl ?_
    · simp [results, Tryz.results81, go_sem]
    · exact ⟨rfl, (Below.refl _ _).alloc (Nat.le_refl _) _⟩
  · rw [hin]
    clear hin
    by_cases hlow : -9223372036854775798 ≤ port
    · have hB : EndW.inB (port - 10) 0 ((es.length : Int) - 1) = false := by rw [inB_dec]; simp; omega
      clear hm
      go_enter Tryz.func81, Tryz.ntmps81
      go_wp2_with fail
      refine (l6in_any _ _ _ _).mono ?_
      rintro r w1 ⟨rfl, rfl⟩
      rw [hB]
      go_wp2
      refine bodyPost_ret (v := .tuple #[endV 0 0, .bool false]) ?_ rfl ?_
      · simp [results, Tryz.results81, go_sem]
      · exact ⟨rfl, (Below.refl _ _).alloc (Nat.le_refl _) _⟩
    · have hB : EndW.inB (wrap64 (port - 10)) 0 ((es.length : Int) - 1) = false := by rw [inB_dec]; simp [wrap64]; omega
      clear hm
      go_enter Tryz.func81, Tryz.ntmps81
      go_wp2_with fail
      refine (l6in_any _ _ _ _).mono ?_
      rintro r w1 ⟨rfl, rfl⟩
      rw [hB]
      go_wp2
      refine bodyPost_ret (v := .tuple #[endV 0 0, .bool false]) ?_ rfl ?_
      · simp [results, Tryz.results81, go_sem]
      · exact ⟨rfl, (Below.refl _ _).alloc (Nat.le_refl _) _⟩

end Go.Proofs.YtihhegjkliolhaaGreatDoor.Ms

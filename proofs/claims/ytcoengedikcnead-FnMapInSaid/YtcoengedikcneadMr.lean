/- Walks: MapIn of the model. -/
import Derived.Test.YtcoengedikcneadMo
namespace Go.Proofs.Ytcoengedikcnead.Ms
open Go.RowKit Go.Proofs.Ytcoengedikcnead.Kit Go.Proofs.Ytcoengedikcnead.Mp Go.Proofs.Ytcoengedikcnead.Mm Go.Proofs.Ytcoengedikcnead.App
open Go.Proofs.Ytcoengedikcnead.EndW (endV sideZ isB spec1 l6in_any)
set_option linter.unusedSimpArgs false
set_option linter.unusedVariables false

theorem inB_dec (n lo hi : Int) : EndW.inB n lo hi = (decide (lo ≤ n) && decide (n ≤ hi)) := rfl

set_option maxRecDepth 8000 in
set_option maxHeartbeats 4000000 in
theorem lin_any (W : World) (v : Value) (es : List (Int × Int)) (hl : es.length ≤ 8) (hm : IsM W v (prs es)) (port : Int) (hp0 : -9223372036854775808 ≤ port) (hp1 : port ≤ 9223372036854775807) :
    Calls Try.prog 30 #[v, .int .i64 port] W fun r W' => r = .returned (.tuple #[endV (inE es port).1.1 (inE es port).1.2, .bool (inE es port).2]) ∧ Below W.heap.size W W' := by
  obtain ⟨a, c, hv⟩ := isM_slice hm
  rw [prs_len] at hv
  subst hv
  have bA : Below W.heap.size W (W.alloc (.cells #[.int .i64 0, .int .i64 0] 25)) := (Below.refl _ _).alloc (Nat.le_refl _) _
  rcases inE_cases es port with ⟨i, e, rfl, he, hin⟩ | ⟨hno, hin⟩
  · rw [hin]
    clear hin
    have hil := (List.getElem?_eq_some_iff.1 he).1
    have hp : (prs es)[i]? = some (10 + (i : Int), e) := by rw [prs_at, he]; rfl
    obtain ⟨g, o, rfl, hnn, hc1, hc2, hat⟩ := isM_at (hm.below bA) i _ hp
    rw [prs_len] at hc1
    clear hnn
    obtain ⟨q0, q1, q2⟩ := hat
    simp only at q0 q1 q2
    have hB : EndW.inB (10 + (i : Int) - 10) 0 ((es.length : Int) - 1) = true := by rw [inB_dec]; simp; omega
    have hI : 10 + (i : Int) - 10 = (i : Int) := by omega
    have hi' : (i : Int) < (es.length : Int) := by omega
    rw [hI] at hB
    clear hm hp
    go_enter Try.func30, Try.ntmps30
    go_wp2_with fail
    refine (l6in_any _ _ _ _).mono ?_
    rintro r w1 ⟨rfl, rfl⟩
    rw [hB]
    go_wp2
    refine bodyPost_ret (v := .tuple #[endV e.1 e.2, .bool true]) ?_ rfl ?_
    · simp [results, Try.results30, go_sem]
    · exact ⟨rfl, (Below.refl _ _).alloc (Nat.le_refl _) _⟩
  · rw [hin]
    clear hin
    by_cases hlow : -9223372036854775798 ≤ port
    · have hB : EndW.inB (port - 10) 0 ((es.length : Int) - 1) = false := by rw [inB_dec]; simp; omega
      clear hm
      go_enter Try.func30, Try.ntmps30
      go_wp2_with fail
      refine (l6in_any _ _ _ _).mono ?_
      rintro r w1 ⟨rfl, rfl⟩
      rw [hB]
      go_wp2
      refine bodyPost_ret (v := .tuple #[endV 0 0, .bool false]) ?_ rfl ?_
      · simp [results, Try.results30, go_sem]
      · exact ⟨rfl, (Below.refl _ _).alloc (Nat.le_refl _) _⟩
    · have hB : EndW.inB (wrap64 (port - 10)) 0 ((es.length : Int) - 1) = false := by rw [inB_dec]; simp [wrap64]; omega
      clear hm
      go_enter Try.func30, Try.ntmps30
      go_wp2_with fail
      refine (l6in_any _ _ _ _).mono ?_
      rintro r w1 ⟨rfl, rfl⟩
      rw [hB]
      go_wp2
      refine bodyPost_ret (v := .tuple #[endV 0 0, .bool false]) ?_ rfl ?_
      · simp [results, Try.results30, go_sem]
      · exact ⟨rfl, (Below.refl _ _).alloc (Nat.le_refl _) _⟩

set_option maxRecDepth 8000 in
set_option maxHeartbeats 4000000 in
theorem sin_any (W : World) (v : Value) (m : List (Int × Int × Int)) (hm : IsM W v m) (hmm : m.length ≤ 1073741824) (port : Int) (hp0 : -9223372036854775808 ≤ port) (hp1 : port ≤ 9223372036854775807) :
    Calls Try.prog 14 #[v, .int .i64 port] W fun r W' => r = .returned (.tuple #[endV (mIn m port).1.1 (mIn m port).1.2, .bool (mIn m port).2]) ∧ Below W.heap.size W W' := by
  have bA : Below W.heap.size W (W.alloc (.cells #[.int .i64 0, .int .i64 0] 25)) := (Below.refl _ _).alloc (Nat.le_refl _) _
  cases hok : okM m
  · have hmi : mIn m port = ((0, 0), false) := by unfold mIn; rw [if_neg (by rw [hok]; exact Bool.false_ne_true)]
    rw [hmi]
    go_enter Try.func14, Try.ntmps14
    go_wp2_with fail
    refine (sok_any _ v m (hm.below bA) hmm).mono ?_
    rintro r w1 ⟨rfl, k1⟩
    rw [hok]
    have z1 := k1.size
    simp at z1
    have c1 := keepc k1 W.heap.size (by simp)
    have f1 := keepf k1 W.heap.size (by simp)
    have b1 := bA.trans (k1.mono (by simp))
    have e0 : w1.cell? ⟨W.heap.size, 0, none⟩ = some (.int .i64 0) := by rw [c1 0]; simp
    have e1 : w1.cell? ⟨W.heap.size, 1, none⟩ = some (.int .i64 0) := by rw [c1 1]; simp
    have g0 : w1.frozen? ⟨W.heap.size, 0, none⟩ = false := by rw [f1 0]; simp
    have g1 : w1.frozen? ⟨W.heap.size, 1, none⟩ = false := by rw [f1 1]; simp
    clear c1 f1
    go_wp2
    refine bodyPost_ret (v := .tuple #[endV 0 0, .bool false]) ?_ rfl ?_
    · simp [results, Try.results14, go_sem, e0, e1]
    · exact ⟨rfl, (b1.setCell (p := ⟨W.heap.size, 0, none⟩) (Nat.le_refl _) _).setCell (p := ⟨W.heap.size, 1, none⟩) (Nat.le_refl _) _⟩
  · have hg := (okM_out m hok).1
    have hpr : Hid (m = prs (m.map Prod.snd)) := (okM_out m hok).2
    have hmi : mIn m port = inE (m.map Prod.snd) port := if_pos hok
    rw [hmi]
    clear hmi
    go_enter Try.func14, Try.ntmps14
    go_wp2_with fail
    refine (sok_any _ v m (hm.below bA) hmm).mono ?_
    rintro r w1 ⟨rfl, k1⟩
    rw [hok]
    have z1 := k1.size
    simp at z1
    have c1 := keepc k1 W.heap.size (by simp)
    have f1 := keepf k1 W.heap.size (by simp)
    have b1 := bA.trans (k1.mono (by simp))
    go_wp2_with fail
    refine (lin_any _ v (m.map Prod.snd) hg.len (by rw [← hpr.out]; exact hm.below b1) port hp0 hp1).mono ?_
    rintro r w2 ⟨rfl, k2⟩
    have z2 := k2.size
    have b2 := b1.trans (k2.mono b1.size)
    have e0 : w2.cell? ⟨W.heap.size, 0, none⟩ = some (.int .i64 0) := by rw [k2.cell (p := ⟨W.heap.size, 0, none⟩) (by simp; omega), c1 0]; simp
    have e1 : w2.cell? ⟨W.heap.size, 1, none⟩ = some (.int .i64 0) := by rw [k2.cell (p := ⟨W.heap.size, 1, none⟩) (by simp; omega), c1 1]; simp
    have g0 : w2.frozen? ⟨W.heap.size, 0, none⟩ = false := by rw [k2.frozen (p := ⟨W.heap.size, 0, none⟩) (by simp; omega), f1 0]; simp
    have g1 : w2.frozen? ⟨W.heap.size, 1, none⟩ = false := by rw [k2.frozen (p := ⟨W.heap.size, 1, none⟩) (by simp; omega), f1 1]; simp
    clear c1 f1
    go_wp2
    refine bodyPost_ret (v := .tuple #[endV (inE (m.map Prod.snd) port).1.1 (inE (m.map Prod.snd) port).1.2, .bool (inE (m.map Prod.snd) port).2]) ?_ rfl ?_
    · simp [results, Try.results14, go_sem, e0, e1]
    · exact ⟨rfl, (b2.setCell (p := ⟨W.heap.size, 0, none⟩) (Nat.le_refl _) _).setCell (p := ⟨W.heap.size, 1, none⟩) (Nat.le_refl _) _⟩
end Go.Proofs.Ytcoengedikcnead.Ms

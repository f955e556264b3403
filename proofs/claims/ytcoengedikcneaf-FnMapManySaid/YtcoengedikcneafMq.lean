/- Walks: MapOut and MapIn of the model. -/
import Derived.Test.YtcoengedikcneafMo
namespace Go.Proofs.Ytcoengedikcneaf.Ms
open Go.RowKit Go.Proofs.Ytcoengedikcneaf.Kit Go.Proofs.Ytcoengedikcneaf.Mp Go.Proofs.Ytcoengedikcneaf.Mm Go.Proofs.Ytcoengedikcneaf.App
open Go.Proofs.Ytcoengedikcneaf.EndW (endV sideZ isB spec1)
set_option linter.unusedSimpArgs false
set_option linter.unusedVariables false

set_option maxRecDepth 8000 in
set_option maxHeartbeats 8000000 in
theorem sout_any (W : World) (v : Value) (m : List (Int × Int × Int)) (hm : IsM W v m) (hmm : m.length ≤ 1073741824) (e : Int × Int) :
    Calls Try.prog 5 #[v, endV e.1 e.2] W fun r W' => ∃ v', r = .returned (.tuple #[v', .int .i64 (mOut m e).2.1, .bool (mOut m e).2.2]) ∧ W'.ownsRow W.heap.size 38 3 v' (mOut m e).1.length (cellsM (mOut m e).1) ∧ Below W.heap.size W W' := by
  have bA : Below W.heap.size W (W.alloc (.cells #[.int .i64 e.1, .int .i64 e.2] 25)) := (Below.refl _ _).alloc (Nat.le_refl _) _
  cases hok : okM m
  · have hmo : mOut m e = ([], 0, false) := by unfold mOut; rw [if_neg (by rw [hok]; exact fun h => Bool.false_ne_true h.1)]
    rw [hmo]
    go_enter Try.func5, Try.ntmps5
    go_wp2_with fail
    refine (sok_any _ v m (hm.below bA) hmm).mono ?_
    rintro r w1 ⟨rfl, k1⟩
    rw [hok]
    have z1 := k1.size
    simp at z1
    have b1 := bA.trans (k1.mono (by simp))
    go_wp2
    refine bodyPost_ret (v := .tuple #[.slice (some ⟨w1.heap.size, 0, none⟩) 0 0, .int .i64 0, .bool false]) (by simp [results, Try.results5, go_sem]) rfl ?_
    exact ⟨_, rfl, World.ownsRow_made (base := W.heap.size) (e := 38) (size := 3) w1 #[] 0 (by omega) (Nat.zero_le _) rfl, b1.alloc b1.size _⟩
  · have hg := (okM_out m hok).1
    have hpr : Hid (m = prs (m.map Prod.snd)) := (okM_out m hok).2
    have hmo : mOut m e = if inB e = true then (prs (outE (m.map Prod.snd) e).1, (outE (m.map Prod.snd) e).2.1, (outE (m.map Prod.snd) e).2.2) else ([], 0, false) := by
      unfold mOut; rw [hok]; simp
    rw [hmo]
    clear hmo
    cases hi : inB e
    · rw [if_neg Bool.false_ne_true]
      go_enter Try.func5, Try.ntmps5
      go_wp2_with fail
      refine (sok_any _ v m (hm.below bA) hmm).mono ?_
      rintro r w1 ⟨rfl, k1⟩
      rw [hok]
      have z1 := k1.size
      simp at z1
      have b1 := bA.trans (k1.mono (by simp))
      have c1 := keepc k1 W.heap.size (by simp)
      go_wp2_with fail
      refine (spec1 e.1 e.2 _).mono ?_
      rintro r w2 ⟨rfl, k2⟩
      rw [isB_inB, hi]
      have z2 := k2.size
      have b2 := b1.trans (k2.mono b1.size)
      go_wp2
      refine bodyPost_ret (v := .tuple #[.slice (some ⟨w2.heap.size, 0, none⟩) 0 0, .int .i64 0, .bool false]) (by simp [results, Try.results5, go_sem]) rfl ?_
      exact ⟨_, rfl, World.ownsRow_made (base := W.heap.size) (e := 38) (size := 3) w2 #[] 0 (by omega) (Nat.zero_le _) rfl, b2.alloc b2.size _⟩
    · rw [if_pos rfl]
      go_enter Try.func5, Try.ntmps5
      go_wp2_with fail
      refine (sok_any _ v m (hm.below bA) hmm).mono ?_
      rintro r w1 ⟨rfl, k1⟩
      rw [hok]
      have z1 := k1.size
      simp at z1
      have b1 := bA.trans (k1.mono (by simp))
      have c1 := keepc k1 W.heap.size (by simp)
      go_wp2_with fail
      refine (spec1 e.1 e.2 _).mono ?_
      rintro r w2 ⟨rfl, k2⟩
      rw [isB_inB, hi]
      have z2 := k2.size
      have b2 := b1.trans (k2.mono b1.size)
      have d0 : w2.cell? ⟨W.heap.size, 0, none⟩ = some (.int .i64 e.1) := (k2.cell (p := ⟨W.heap.size, 0, none⟩) (by simp; omega)).trans ((c1 0).trans (by simp))
      have d1 : w2.cell? ⟨W.heap.size, 1, none⟩ = some (.int .i64 e.2) := (k2.cell (p := ⟨W.heap.size, 1, none⟩) (by simp; omega)).trans ((c1 1).trans (by simp))
      have hlt : W.heap.size < w2.heap.size := by omega
      have hm2 := hm.below b2
      clear c1 k1 k2
      go_wp2_with fail
      go_region_with (first
        | (go_at_call 15; refine (copy_any _ v m (hm.below (by first | exact b2 | exact b2.drew | exact b2.drew.drew | exact b2.drew.drew.drew)) hmm).mono ?_; rintro r w3 ⟨v3, rfl, hr3, k3⟩; obtain ⟨b3, z3, x0, x1⟩ : Below W.heap.size W w3 ∧ w2.heap.size ≤ w3.heap.size ∧ w3.cell? ⟨W.heap.size, 0, none⟩ = some (.int .i64 e.1) ∧ w3.cell? ⟨W.heap.size, 1, none⟩ = some (.int .i64 e.2) := (by
            refine ⟨?_, k3.size, (k3.cell (p := ⟨W.heap.size, 0, none⟩) hlt).trans d0, (k3.cell (p := ⟨W.heap.size, 1, none⟩) hlt).trans d1⟩
            first
            | exact b2.trans (k3.mono b2.size)
            | exact b2.drew.trans (k3.mono b2.size)
            | exact b2.drew.drew.trans (k3.mono b2.size)
            | exact b2.drew.drew.drew.trans (k3.mono b2.size)); clear k3)
        | (go_at_call 14; refine (lout_any _ W.heap.size b3.size _ (m.map Prod.snd) hg (by rw [← hpr.out, List.length_map]; exact ownsRow_base hr3 b2.size) e).mono ?_; rintro r w4 ⟨v4, rfl, hr4, k4⟩; obtain b4 : Below W.heap.size W w4 := (by
            first
            | exact b3.trans k4
            | exact b3.drew.trans k4
            | exact b3.drew.drew.trans k4
            | exact b3.drew.drew.drew.trans k4); clear k4))
      all_goals
        go_wp2
        refine bodyPost_ret (v := .tuple #[v4, .int .i64 (outE (m.map Prod.snd) e).2.1, .bool (outE (m.map Prod.snd) e).2.2]) (by simp [results, Try.results5, go_sem]) rfl ?_
        exact ⟨_, rfl, by rw [prs_len]; exact hr4, b4⟩
end Go.Proofs.Ytcoengedikcneaf.Ms

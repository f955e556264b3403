/- Walks: MapOk, MapOut and MapIn of the program. -/
import Derived.Test.YtlejldaennlfaadMl
namespace Go.Proofs.Ytlejldaennlfaad.Ml
open Go.RowKit Go.Proofs.Ytlejldaennlfaad.Kit Go.Proofs.Ytlejldaennlfaad.Mp Go.Proofs.Ytlejldaennlfaad.Mj Go.Proofs.Ytlejldaennlfaad.Mk Go.Proofs.Ytlejldaennlfaad.Mg Go.Proofs.Ytlejldaennlfaad.Mm Go.Proofs.Ytlejldaennlfaad.App
open Go.Proofs.Ytlejldaennlfaad.EndW (endV sideZ isB impl1)
set_option linter.unusedSimpArgs false
set_option linter.unusedVariables false

theorem read_yes (W : World) (v : Value) (m : List (Int × Int × Int)) (hm : IsM W v m) (hok : okM m = true) :
    Calls Try.prog 23 #[v] W fun r W' => ∃ bt bb, r = .returned (.tuple #[prtV bt bb, .bool true]) ∧ Two W' bt bb (m.map Prod.snd) ∧ W.heap.size ≤ bt ∧ W.heap.size ≤ bb ∧ Below W.heap.size W W' := by
  refine (read_any W v m hm).mono ?_
  rintro r w1 ⟨⟨_, bt, bb, rfl, t1, hbt, hbb⟩ | ⟨h, _⟩, k1⟩
  · exact ⟨bt, bb, rfl, t1, hbt, hbb, k1⟩
  · rw [hok] at h; cases h
theorem read_no (W : World) (v : Value) (m : List (Int × Int × Int)) (hm : IsM W v m) (hok : okM m = false) :
    Calls Try.prog 23 #[v] W fun r W' => r = .returned (.tuple #[.agg #[.map none, .map none], .bool false]) ∧ Below W.heap.size W W' := by
  refine (read_any W v m hm).mono ?_
  rintro r w1 ⟨⟨h, _⟩ | ⟨_, h⟩, k1⟩
  · rw [hok] at h; cases h
  · exact ⟨h, k1⟩

set_option maxRecDepth 8000 in
set_option maxHeartbeats 4000000 in
theorem ok_any (W : World) (v : Value) (m : List (Int × Int × Int)) (hm : IsM W v m) :
    Calls Try.prog 17 #[v] W fun r W' => r = .returned (.bool (okM m)) ∧ Below W.heap.size W W' := by
  cases hok : okM m
  · go_enter Try.func17, Try.ntmps17
    go_wp2_with fail
    refine (read_no _ v m hm hok).mono ?_
    rintro r w1 ⟨rfl, k1⟩
    go_wp2
    go_ret
    exact ⟨rfl, k1.alloc k1.size _⟩
  · go_enter Try.func17, Try.ntmps17
    go_wp2_with fail
    refine (read_yes _ v m hm hok).mono ?_
    rintro r w1 ⟨bt, bb, rfl, t1, hbt, hbb, k1⟩
    go_wp2
    go_ret
    exact ⟨rfl, k1.alloc k1.size _⟩

set_option maxRecDepth 8000 in
set_option maxHeartbeats 4000000 in
theorem in_any (W : World) (v : Value) (m : List (Int × Int × Int)) (hm : IsM W v m) (port : Int) (hw : (Lit.int .i64 port).wf = true) :
    Calls Try.prog 15 #[v, .int .i64 port] W fun r W' => r = .returned (.tuple #[endV (mIn m port).1.1 (mIn m port).1.2, .bool (mIn m port).2]) ∧ Below W.heap.size W W' := by
  have bA : Below W.heap.size W (W.alloc (.cells #[.int .i64 0, .int .i64 0] 25)) := (Below.refl _ _).alloc (Nat.le_refl _) _
  cases hok : okM m
  · have hmi : mIn m port = ((0, 0), false) := by unfold mIn; rw [if_neg (by rw [hok]; exact Bool.false_ne_true)]
    rw [hmi]
    go_enter Try.func15, Try.ntmps15
    go_wp2_with fail
    refine (read_no _ v m (hm.below bA) hok).mono ?_
    rintro r w1 ⟨rfl, k1⟩
    have z1 := k1.size
    simp at z1
    have c1 := keepc k1 W.heap.size (by simp)
    have f1 := keepf k1 W.heap.size (by simp)
    have b1 := bA.trans (k1.mono (by simp))
    have e0 : w1.cell? ⟨W.heap.size, 0, none⟩ = some (.int .i64 0) := by rw [c1 0]; simp
    have e1 : w1.cell? ⟨W.heap.size, 1, none⟩ = some (.int .i64 0) := by rw [c1 1]; simp
    have g0 : w1.frozen? ⟨W.heap.size, 0, none⟩ = false := by rw [f1 0]; simp
    have g1 : w1.frozen? ⟨W.heap.size, 1, none⟩ = false := by rw [f1 1]; simp
    have hlt : W.heap.size < w1.heap.size := by omega
    clear c1 f1
    go_wp2
    refine bodyPost_ret (v := .tuple #[endV 0 0, .bool false]) ?_ rfl ?_
    · simp [results, Try.results15, go_sem, e0, e1, hlt]
    · exact ⟨rfl, ((b1.setCell (p := ⟨W.heap.size, 0, none⟩) (Nat.le_refl _) _).setCell (p := ⟨W.heap.size, 1, none⟩) (Nat.le_refl _) _).alloc (by simp [World.setCell]; omega) _⟩
  · have hmi : mIn m port = inE (m.map Prod.snd) port := if_pos hok
    rw [hmi]
    have hg := (okM_out m hok).1
    go_enter Try.func15, Try.ntmps15
    go_wp2_with fail
    refine (read_yes _ v m (hm.below bA) hok).mono ?_
    rintro r w1 ⟨bt, bb, rfl, t1, hbt, hbb, k1⟩
    have z1 := k1.size
    simp at z1 hbt hbb
    have c1 := keepc k1 W.heap.size (by simp)
    have f1 := keepf k1 W.heap.size (by simp)
    have b1 := bA.trans (k1.mono (by simp))
    have hlt := t1.lt
    have bB : Below w1.heap.size w1 (w1.alloc (.cells #[.map (some bt), .map (some bb)] 52)) := (Below.refl _ _).alloc (Nat.le_refl _) _
    go_wp2_with fail
    refine (end_any _ bt bb _ (t1.below bB) hg.len port hw).mono ?_
    rintro r w2 ⟨rfl, k2⟩
    have z2 := k2.size
    simp at z2
    have b2 := b1.trans ((bB.mono b1.size).trans (k2.mono (by simp; omega)))
    have e0 : w2.cell? ⟨W.heap.size, 0, none⟩ = some (.int .i64 0) := by
      rw [k2.cell (p := ⟨W.heap.size, 0, none⟩) (by simp; omega), bB.cell (p := ⟨W.heap.size, 0, none⟩) (by simp; omega), c1 0]; simp
    have e1 : w2.cell? ⟨W.heap.size, 1, none⟩ = some (.int .i64 0) := by
      rw [k2.cell (p := ⟨W.heap.size, 1, none⟩) (by simp; omega), bB.cell (p := ⟨W.heap.size, 1, none⟩) (by simp; omega), c1 1]; simp
    have g0 : w2.frozen? ⟨W.heap.size, 0, none⟩ = false := by
      rw [k2.frozen (p := ⟨W.heap.size, 0, none⟩) (by simp; omega), bB.frozen (p := ⟨W.heap.size, 0, none⟩) (by simp; omega), f1 0]; simp
    have g1 : w2.frozen? ⟨W.heap.size, 1, none⟩ = false := by
      rw [k2.frozen (p := ⟨W.heap.size, 1, none⟩) (by simp; omega), bB.frozen (p := ⟨W.heap.size, 1, none⟩) (by simp; omega), f1 1]; simp
    clear c1 f1
    go_wp2
    refine bodyPost_ret (v := .tuple #[endV (inE (m.map Prod.snd) port).1.1 (inE (m.map Prod.snd) port).1.2, .bool (inE (m.map Prod.snd) port).2]) ?_ rfl ?_
    · simp [results, Try.results15, go_sem, e0, e1]
    · exact ⟨rfl, (b2.setCell (p := ⟨W.heap.size, 0, none⟩) (Nat.le_refl _) _).setCell (p := ⟨W.heap.size, 1, none⟩) (Nat.le_refl _) _⟩

set_option maxRecDepth 8000 in
set_option maxHeartbeats 4000000 in
theorem out_any (W : World) (v : Value) (m : List (Int × Int × Int)) (hm : IsM W v m) (e : Int × Int) :
    Calls Try.prog 8 #[v, endV e.1 e.2] W fun r W' => ∃ v', r = .returned (.tuple #[v', .int .i64 (mOut m e).2.1, .bool (mOut m e).2.2]) ∧ W'.ownsRow W.heap.size 34 3 v' (mOut m e).1.length (cellsM (mOut m e).1) ∧ Below W.heap.size W W' := by
  have bA : Below W.heap.size W (W.alloc (.cells #[.int .i64 e.1, .int .i64 e.2] 25)) := (Below.refl _ _).alloc (Nat.le_refl _) _
  cases hok : okM m
  · have hmo : mOut m e = ([], 0, false) := by unfold mOut; rw [if_neg (by rw [hok]; exact fun h => Bool.false_ne_true h.1)]
    rw [hmo]
    go_enter Try.func8, Try.ntmps8
    go_wp2_with fail
    refine (read_no _ v m (hm.below bA) hok).mono ?_
    rintro r w1 ⟨rfl, k1⟩
    have b1 := bA.trans (k1.mono (by simp))
    go_wp2
    refine bodyPost_ret (v := .tuple #[.slice none 0 0, .int .i64 0, .bool false]) (by simp [results, Try.results8, go_sem]) rfl ?_
    exact ⟨_, rfl, World.ownsRow_nil _ _ _ _, b1.alloc b1.size _⟩
  · have hg := (okM_out m hok).1
    have hmo : mOut m e = if inB e = true then (prs (outE (m.map Prod.snd) e).1, (outE (m.map Prod.snd) e).2.1, (outE (m.map Prod.snd) e).2.2) else ([], 0, false) := by
      unfold mOut; rw [hok]; simp
    rw [hmo]
    clear hmo
    cases hi : inB e
    · rw [if_neg Bool.false_ne_true]
      go_enter Try.func8, Try.ntmps8
      go_wp2_with fail
      refine (read_yes _ v m (hm.below bA) hok).mono ?_
      rintro r w1 ⟨bt, bb, rfl, t1, hbt, hbb, k1⟩
      have z1 := k1.size
      simp at z1 hbt hbb
      have c1 := keepc k1 W.heap.size (by simp)
      have b1 := bA.trans (k1.mono (by simp))
      have e0 : w1.cell? ⟨W.heap.size, 0, none⟩ = some (.int .i64 e.1) := by rw [c1 0]; simp
      have e1 : w1.cell? ⟨W.heap.size, 1, none⟩ = some (.int .i64 e.2) := by rw [c1 1]; simp
      have hlt : W.heap.size < w1.heap.size := by omega
      clear c1
      go_wp2_with fail
      refine (impl1 e.1 e.2 _).mono ?_
      rintro r w2 ⟨rfl, k2⟩
      rw [isB_inB, hi]
      have b2 := (b1.alloc (o := .cells #[.map (some bt), .map (some bb)] 52) b1.size).trans (k2.mono (by simp; omega))
      go_wp2
      refine bodyPost_ret (v := .tuple #[.slice none 0 0, .int .i64 0, .bool false]) (by simp [results, Try.results8, go_sem]) rfl ?_
      exact ⟨_, rfl, World.ownsRow_nil _ _ _ _, b2⟩
    · rw [if_pos rfl]
      have hgo := outE_good _ e hg hi
      go_enter Try.func8, Try.ntmps8
      go_wp2_with fail
      refine (read_yes _ v m (hm.below bA) hok).mono ?_
      rintro r w1 ⟨bt, bb, rfl, t1, hbt, hbb, k1⟩
      have z1 := k1.size
      simp at z1 hbt hbb
      have c1 := keepc k1 W.heap.size (by simp)
      have b1 := bA.trans (k1.mono (by simp))
      have hlt := t1.lt
      have e0 : w1.cell? ⟨W.heap.size, 0, none⟩ = some (.int .i64 e.1) := by rw [c1 0]; simp
      have e1 : w1.cell? ⟨W.heap.size, 1, none⟩ = some (.int .i64 e.2) := by rw [c1 1]; simp
      clear c1
      have bB : Below w1.heap.size w1 (w1.alloc (.cells #[.map (some bt), .map (some bb)] 52)) := (Below.refl _ _).alloc (Nat.le_refl _) _
      have e2 := (bB.cell (p := ⟨W.heap.size, 0, none⟩) (by simp; omega)).trans e0
      have e3 := (bB.cell (p := ⟨W.heap.size, 1, none⟩) (by simp; omega)).trans e1
      go_wp2_with fail
      refine (impl1 e.1 e.2 _).mono ?_
      rintro r w2 ⟨rfl, k2⟩
      rw [isB_inB, hi]
      have z2 := k2.size
      simp at z2
      have b2 := b1.trans ((bB.mono b1.size).trans (k2.mono (by simp; omega)))
      have t2 := (t1.below bB).below k2
      have i0 : w2.cell? ⟨W.heap.size, 0, none⟩ = some (.int .i64 e.1) := (k2.cell (p := ⟨W.heap.size, 0, none⟩) (by simp; omega)).trans e2
      have i1 : w2.cell? ⟨W.heap.size, 1, none⟩ = some (.int .i64 e.2) := (k2.cell (p := ⟨W.heap.size, 1, none⟩) (by simp; omega)).trans e3
      have j0 : w2.cell? ⟨w1.heap.size, 0, none⟩ = some (.map (some bt)) := (k2.cell (p := ⟨w1.heap.size, 0, none⟩) (by simp)).trans (by simp)
      have j1 : w2.cell? ⟨w1.heap.size, 1, none⟩ = some (.map (some bb)) := (k2.cell (p := ⟨w1.heap.size, 1, none⟩) (by simp)).trans (by simp)
      clear e0 e1 e2 e3 k2 bB k1
      go_wp2_with fail
      refine (port_any _ bt bb _ t2 hg e hi).mono ?_
      rintro r w3 ⟨rfl, t3, k3⟩
      have z3 := k3.size
      have b3 := b2.trans (k3.below (by omega) (by omega) (by omega))
      have l0 : w3.cell? ⟨w1.heap.size, 0, none⟩ = some (.map (some bt)) := (k3.cell (p := ⟨w1.heap.size, 0, none⟩) (by simp; omega) (by simp; omega) (by simp; omega)).trans j0
      have l1 : w3.cell? ⟨w1.heap.size, 1, none⟩ = some (.map (some bb)) := (k3.cell (p := ⟨w1.heap.size, 1, none⟩) (by simp; omega) (by simp; omega) (by simp; omega)).trans j1
      clear i0 i1 j0 j1 t2 k3
      go_wp2_with fail
      refine (list_any _ bt bb _ t3 hgo.len).mono ?_
      rintro r w4 ⟨v', rfl, hr, k4⟩
      have b4 := b3.trans (k4.mono b3.size)
      go_wp2
      refine bodyPost_ret (v := .tuple #[v', .int .i64 (outE (m.map Prod.snd) e).2.1, .bool (outE (m.map Prod.snd) e).2.2]) (by simp [results, Try.results8, go_sem]) rfl ?_
      exact ⟨_, rfl, ownsRow_base hr b3.size, b4⟩
end Go.Proofs.Ytlejldaennlfaad.Ml

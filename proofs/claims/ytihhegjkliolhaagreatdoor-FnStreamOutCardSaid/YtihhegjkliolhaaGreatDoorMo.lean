/- Walks: MapOut and MapIn of the model. -/
import Derived.Test.YtihhegjkliolhaaGreatDoorMs
import Derived.OwnWalk
import Derived.Maps.AppendAt
namespace Go.Proofs.YtihhegjkliolhaaGreatDoor.Ms
open Go.RowKit Go.Proofs.YtihhegjkliolhaaGreatDoor.Kit Go.Proofs.YtihhegjkliolhaaGreatDoor.Mp Go.Proofs.YtihhegjkliolhaaGreatDoor.Mm Go.Proofs.YtihhegjkliolhaaGreatDoor.App
open Go.Proofs.YtihhegjkliolhaaGreatDoor.EndW (endV sideZ isB spec1 l6in_any)
set_option linter.unusedSimpArgs false
set_option linter.unusedVariables false

theorem dd (w : World) (a b : Nat) : (w.drewN a).drewN b = w.drewN (a + b) := by
  simp [World.drewN, Nat.add_assoc]
theorem row_m {W : World} {b : Nat} {e : TypeId} {v : Value} {n : Nat} {m : List (Int × Int × Int)} (h : W.ownsRow b e 3 v n (cellsM m)) : n = m.length := by
  have := h.1
  rw [cellsM_len] at this; omega
theorem grown_below {w w' : World} {row : Option Nat} {B : Nat} (h : w.grownBy w' row) (hB : B ≤ w.heap.size) (hr : ∀ k, row = some k → B ≤ k) : Below B w w' := (Below.refl B w).grown h hB hr

/-- all but a row of one's own is as it was, and the row is where it was, or new -/
def Gr (W W' : World) (v v' : Value) : Prop := W.grownBy W' v.ownBlock ∧ (v'.ownBlock = v.ownBlock ∨ ∃ g, v'.ownBlock = some g ∧ W.heap.size ≤ g)
theorem grown_of {W W' : World} (k : Below W.heap.size W W') (row : Option Nat) : W.grownBy W' row := ⟨k.os, k.tape, k.output, k.size, fun i hi _ => k.block i hi⟩
theorem grown_trans {A B C : World} {row : Option Nat} (h : A.grownBy B row) (k : B.grownBy C row) : A.grownBy C row :=
  ⟨k.os.trans h.os, k.tape.trans h.tape, k.output.trans h.output, Nat.le_trans h.size k.size, fun i hi hn => (k.block i (Nat.lt_of_lt_of_le hi h.size) hn).trans (h.block i hi hn)⟩
theorem Gr.of {W W' : World} (k : Below W.heap.size W W') (v : Value) : Gr W W' v v := ⟨grown_of k _, .inl rfl⟩

set_option maxRecDepth 8000 in
set_option maxHeartbeats 4000000 in
theorem copy_any (W : World) (v : Value) (m : List (Int × Int × Int)) (hm : IsM W v m) (hmm : m.length ≤ 1073741824) :
    Calls Tryz.prog 31 #[v] W fun r W' => ∃ v', r = .returned v' ∧ W'.ownsRow W.heap.size 79 3 v' m.length (cellsM m) ∧ Below W.heap.size W W' := by
  obtain ⟨i0, hi, hz0, hz1, hz2⟩ := info_parts infoM
  have hnew := World.ownsRow_made (base := W.heap.size) (e := 79) (size := 3) W #[] 0 (Nat.le_refl _) (Nat.zero_le _) rfl
  have bA : Below W.heap.size W (W.alloc (.cells #[] 79)) := (Below.refl _ _).alloc (Nat.le_refl _) _
  rcases hm with ⟨rfl, rfl⟩ | ⟨g, o, cap, rfl, h1, h2, h3, h4⟩
  · go_enter Tryz.func31, Tryz.ntmps31
    go_wp2
    go_ret
    exact ⟨_, rfl, hnew, bA⟩
  · have hcell : ∀ j u, (cellsM m)[j]? = some u → (W.alloc (.cells #[] 79)).cell? ((⟨g, o, none⟩ : Addr).add j) = some u := by
      intro j u hj
      have hjl : j < m.length * 3 := by rw [← cellsM_len]; exact (List.getElem?_eq_some_iff.1 hj).1
      have hi3 : j / 3 < m.length := by omega
      have hp : m[j / 3]? = some m[j / 3] := List.getElem?_eq_getElem hi3
      obtain ⟨a0, a1, a2⟩ := (h4 _ _ hp).below bA
      obtain ⟨b0, b1, b2⟩ := cellsM_at m _ _ hp
      rw [Addr.add_lit]
      have e3 : j = j / 3 * 3 ∨ j = j / 3 * 3 + 1 ∨ j = j / 3 * 3 + 2 := by omega
      rcases e3 with e3 | e3 | e3
      · rw [e3] at hj; rw [b0] at hj; rw [e3, ← Option.some.inj hj]; exact a0
      · rw [e3] at hj; rw [b1] at hj; rw [e3, ← Option.some.inj hj, ← Nat.add_assoc]; exact a1
      · rw [e3] at hj; rw [b2] at hj; rw [e3, ← Option.some.inj hj, ← Nat.add_assoc]; exact a2
    go_enter Tryz.func31, Tryz.ntmps31
    go_wp2_with (at_builtin; refine wpList_append_own_at _ rfl _ _ 23 rfl W.heap.size 79 i0 (.agg #[.int .i64 0, .int .i64 0, .int .i64 0]) 3 24 Tryz.underlying23 hi hz0 hz1 hz2 rfl (by decide) _ _ _ rfl hnew ⟨g, o, none⟩ m.length cap (cellsM m) rfl (cellsM_len m) hcell (cellsM_one m) (by unfold maxLen; omega) (by omega) (by simp) ?_; intro v' w2 hown' hgrow _ _)
    go_ret
    refine ⟨_, rfl, ?_, bA.trans (grown_below hgrow (by simp) (fun k hk => (hnew.lt k hk).1))⟩
    simpa using hown'

set_option maxRecDepth 8000 in
set_option maxHeartbeats 8000000 in
theorem lout_any2 (W : World) (base : Nat) (hB : base ≤ W.heap.size) (v : Value) (es : List (Int × Int)) (hg : GoodE es) (hrow : W.ownsRow base 79 3 v es.length (cellsM (prs es))) (e : Int × Int) :
    Calls Tryz.prog 75 #[v, endV e.1 e.2] W fun r W' => ∃ v', r = .returned (.tuple #[v', .int .i64 (outE es e).2.1, .bool (outE es e).2.2]) ∧ W'.ownsRow base 79 3 v' (outE es e).1.length (cellsM (prs (outE es e).1)) ∧ Below base W W' ∧ Gr W W' v v' ∧ ((outE es e).2.2 = false → Below W.heap.size W W') := by
  obtain ⟨i0, hi, hz0, hz1, hz2⟩ := info_parts infoM
  have h8 := hg.len
  have hM : IsM W v (prs es) := isM_of_row (by rw [prs_len]; exact hrow)
  obtain ⟨a, c, hv⟩ := isM_slice hM
  rw [prs_len] at hv
  subst hv
  have bA : Below W.heap.size W (W.alloc (.cells #[.int .i64 e.1, .int .i64 e.2] 77)) := (Below.refl _ _).alloc (Nat.le_refl _) _
  go_enter Tryz.func75, Tryz.ntmps75
  go_wp2
  go_loopw [7] (fun i wr => ∃ k n : Nat, k ≤ es.length ∧ i = .int .i64 k ∧ (∀ (l : Nat) (f : Int × Int), l < k → es[l]? = some f → f ≠ e) ∧ wr = (W.alloc (.cells #[.int .i64 e.1, .int .i64 e.2] 77)).drewN n) (fun i wr => es.length - (intOf i).toNat)
  case atStart => exact ⟨0, 0, Nat.zero_le _, rfl, fun l f hl => by omega, rfl⟩
  case round =>
    obtain ⟨k, n, hk, rfl, hno, hwr⟩ := hrel
    have hb : Below W.heap.size W wr := by rw [hwr]; exact bA.trans (below_drewN _ _ _)
    have c0 : wr.cell? ⟨W.heap.size, 0, none⟩ = some (.int .i64 e.1) := by rw [hwr]; simp
    have c1 : wr.cell? ⟨W.heap.size, 1, none⟩ = some (.int .i64 e.2) := by rw [hwr]; simp
    have hrow2 : wr.ownsRow base 79 3 (.slice a es.length c) es.length (cellsM (prs es)) := row_below hrow hb
    have hsz : W.heap.size < wr.heap.size := by rw [hwr]; simp [World.drewN]
    have HW : Hid (wr = (W.alloc (.cells #[.int .i64 e.1, .int .i64 e.2] 77)).drewN n) := hwr
    clear hwr
    by_cases hkl : k < es.length
    · have hkl' : (k : Int) < (es.length : Int) := by omega
      have hf : es[k]? = some es[k] := List.getElem?_eq_getElem hkl
      have hp : (prs es)[k]? = some (10 + (k : Int), es[k]) := by rw [prs_at, hf]; rfl
      obtain ⟨g, o, rfl, hnn, hc1, hc2, hat⟩ := isM_at (hM.below hb) k _ hp
      rw [prs_len] at hc1
      clear hnn
      generalize es[k] = f at hf hp hat
      obtain ⟨q0, q1, q2⟩ := hat
      obtain ⟨fa, fp⟩ := f
      obtain ⟨ea, ep⟩ := e
      simp only at q0 q1 q2 c0 c1
      by_cases he : fa = ea ∧ fp = ep
      · obtain ⟨rfl, rfl⟩ := he
        have hm : (fa, fp) ∈ es := List.mem_of_getElem? hf
        have hout : Hid (outE es (fa, fp) = (es, 10 + (k : Int), true)) := by
          show outE es (fa, fp) = _
          rw [outE_has es _ hm, idx_uniq es hg.nd _ k hf]
        clear hno hM hp hf
        go_wp2_with fail
        go_quiet (fail)
        go_wp2_with fail
        go_quiet (fail)
        go_wp2
        refine bodyPost_ret (v := .tuple #[.slice (some ⟨g, o, none⟩) es.length c, .int .i64 (10 + (k : Int)), .bool true]) (by simp [results, Tryz.results75, go_sem]) rfl ?_
        rw [hout.out]
        exact ⟨_, rfl, hrow2, (hb.mono hB).trans ((below_drewN _ _ _).trans (below_drewN _ _ _)), ⟨grown_of (hb.trans ((below_drewN _ _ _).trans (below_drewN _ _ _))) _, .inl rfl⟩, fun h => by cases h⟩
      · have hno2 : ∀ (l : Nat) (f : Int × Int), l < k + 1 → es[l]? = some f → f ≠ (ea, ep) := by
          intro l q hl hql
          by_cases e : l = k
          · subst e; rw [hf] at hql; obtain rfl := Option.some.inj hql
            intro h; simp at h; exact he h
          · exact hno l q (by omega) hql
        clear hno hM hp hf hrow2
        by_cases h1 : fa = ea
        · have h2 : (fp == ep) = false := by simp; exact fun h => he ⟨h1, h⟩
          subst h1
          go_wp2_with fail
          go_quiet (fail)
          go_wp2
          go_roundw
          case rel => exact ⟨k + 1, n + nq, by omega, by go_num, hno2, by rw [HW.out, dd]⟩
          case measure => simp [intOf]; omega
        · have h2 : (fa == ea) = false := by simp; exact h1
          go_wp2_with fail
          go_quiet (fail)
          go_wp2
          go_roundw
          case rel => exact ⟨k + 1, n + nq, by omega, by go_num, hno2, by rw [HW.out, dd]⟩
          case measure => simp [intOf]; omega
    · have hge : (es.length : Int) ≤ (k : Int) := by omega
      have hnm : e ∉ es := by
        intro hm
        obtain ⟨l, hl⟩ := List.mem_iff_getElem?.1 hm
        have := (List.getElem?_eq_some_iff.1 hl).1
        exact hno l e (by omega) hl rfl
      by_cases hl : es.length < 8
      · have hl' : (es.length : Int) ≤ 7 := by omega
        have hout : Hid (outE es e = (es ++ [e], 10 + (es.length : Int), true)) := outE_new es e hnm hl
        clear hno hM
        go_wp2_with (at_builtin; refine wpList_append_own_at _ rfl _ _ 23 rfl base 79 i0 (.agg #[.int .i64 0, .int .i64 0, .int .i64 0]) 3 24 Tryz.underlying23 hi hz0 hz1 hz2 rfl (by decide) _ _ _ rfl (hrow2.alloc _) ⟨wr.heap.size, 0, none⟩ 1 1 [.int .i64 (10 + (es.length : Int)), .int .i64 e.1, .int .i64 e.2] rfl rfl (three_at _ _ _ _ _ _ rfl) (by simp [Value.oneCell']) (by unfold maxLen; omega) (by omega) (by simp; omega) ?_; intro v' w2 hown' hgrow _ hwh)
        refine bodyPost_ret (v := .tuple #[v', .int .i64 (10 + (es.length : Int)), .bool true]) (by simp [results, Tryz.results75, go_sem]) rfl ?_
        rw [hout.out]
        refine ⟨_, rfl, ?_, (hb.mono hB).trans (((Below.refl _ _).alloc (by omega) _).trans (grown_below hgrow (by simp; omega) (fun k hk => (hrow2.lt k hk).1))), ⟨grown_trans (grown_of (hb.alloc hb.size _) _) hgrow, ?_⟩, fun h => by cases h⟩
        · rw [prs_snoc, cellsM_snoc, List.length_append]
          exact hown'
        · rcases hwh with q | q
          · exact .inl q
          · exact .inr ⟨_, q, by have := hb.size; simp; omega⟩
      · have hl' : (7 : Int) < (es.length : Int) := by omega
        have hout : Hid (outE es e = (es, 0, false)) := outE_full es e hnm (by omega)
        clear hno hM
        go_wp2
        refine bodyPost_ret (v := .tuple #[.slice a es.length c, .int .i64 0, .bool false]) (by simp [results, Tryz.results75, go_sem]) rfl ?_
        rw [hout.out]
        exact ⟨_, rfl, hrow2, hb.mono hB, ⟨grown_of hb _, .inl rfl⟩, fun _ => hb⟩
theorem lout_any (W : World) (base : Nat) (hB : base ≤ W.heap.size) (v : Value) (es : List (Int × Int)) (hg : GoodE es) (hrow : W.ownsRow base 79 3 v es.length (cellsM (prs es))) (e : Int × Int) :
    Calls Tryz.prog 75 #[v, endV e.1 e.2] W fun r W' => ∃ v', r = .returned (.tuple #[v', .int .i64 (outE es e).2.1, .bool (outE es e).2.2]) ∧ W'.ownsRow base 79 3 v' (outE es e).1.length (cellsM (prs (outE es e).1)) ∧ Below base W W' := by
  refine (lout_any2 W base hB v es hg hrow e).mono ?_
  rintro r w' ⟨v', rfl, h1, h2, _, _⟩
  exact ⟨v', rfl, h1, h2⟩
end Go.Proofs.YtihhegjkliolhaaGreatDoor.Ms

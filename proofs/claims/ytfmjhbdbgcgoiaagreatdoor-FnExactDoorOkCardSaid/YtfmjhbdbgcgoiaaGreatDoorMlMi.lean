/- Walks: the program's pairs are listed, and read; MapOk, MapOut and MapIn of the program. -/
import Derived.Test.YtfmjhbdbgcgoiaaGreatDoorMg
import Derived.Test.YtfmjhbdbgcgoiaaGreatDoorMmOp
namespace Go.Proofs.YtfmjhbdbgcgoiaaGreatDoor.Ml
open Go.RowKit Go.Proofs.YtfmjhbdbgcgoiaaGreatDoor.Kit Go.Proofs.YtfmjhbdbgcgoiaaGreatDoor.Mp Go.Proofs.YtfmjhbdbgcgoiaaGreatDoor.Mj Go.Proofs.YtfmjhbdbgcgoiaaGreatDoor.Mk Go.Proofs.YtfmjhbdbgcgoiaaGreatDoor.Mg Go.Proofs.YtfmjhbdbgcgoiaaGreatDoor.Mm Go.Proofs.YtfmjhbdbgcgoiaaGreatDoor.App
open Go.Proofs.YtfmjhbdbgcgoiaaGreatDoor.EndW (endV sideZ isB impl1)
set_option linter.unusedSimpArgs false
set_option linter.unusedVariables false

theorem take_snoc (es : List (Int × Int)) (k : Nat) (h : k < es.length) : es.take (k + 1) = es.take k ++ [es[k]] := by
  rw [List.take_add_one, List.getElem?_eq_getElem h]; rfl

set_option maxRecDepth 8000 in
set_option maxHeartbeats 4000000 in
theorem list_any (W : World) (bt bb : Nat) (es : List (Int × Int)) (h : Two W bt bb es) (hl : es.length ≤ 8) :
    Calls Tryz.prog 109 #[prtV bt bb] W fun r W' => ∃ v, r = .returned v ∧ W'.ownsRow W.heap.size 58 3 v (prs es).length (cellsM (prs es)) ∧ Below W.heap.size W W' := by
  obtain ⟨i0, hi, hz0, hz1, hz2⟩ := info_parts infoM
  have hlt := h.lt
  have bA : Below W.heap.size W (W.alloc (.cells #[.map (some bt), .map (some bb)] 138)) := (Below.refl _ _).alloc (Nat.le_refl _) _
  go_enter Tryz.func109, Tryz.ntmps109
  go_wp2
  go_loopw [3, 4] (fun o i wr => ∃ k : Nat, k ≤ es.length ∧ i = .int .i64 (10 + (k : Int)) ∧ wr.ownsRow (W.heap.size + 1) 58 3 o k (cellsM (prs (es.take k))) ∧ Below W.heap.size W wr ∧ W.heap.size < wr.heap.size ∧ wr.cell? ⟨W.heap.size, 0, none⟩ = some (.map (some bt)) ∧ wr.cell? ⟨W.heap.size, 1, none⟩ = some (.map (some bb))) (fun o i wr => 10 + es.length - (intOf i).toNat)
  case atStart =>
    exact ⟨0, Nat.zero_le _, rfl, World.ownsRow_nil _ _ _ _, bA, by simp, by simp, by simp⟩
  case round =>
    obtain ⟨k, hk, rfl, hrow, hb, hsz, hc0, hc1⟩ := hrel
    go_wp2_with fail
    refine (next_any _ bt bb es (h.below hb) hl).mono ?_
    rintro r w1 ⟨rfl, k1⟩
    have z1 := k1.size
    have c1 := keepc k1 W.heap.size hsz
    have hrow1 := row_below hrow k1
    have hb1 := hb.trans (k1.mono hb.size)
    have e0 : w1.cell? ⟨W.heap.size, 0, none⟩ = some (.map (some bt)) := (c1 0).trans hc0
    have e1 : w1.cell? ⟨W.heap.size, 1, none⟩ = some (.map (some bb)) := (c1 1).trans hc1
    clear c1 hc0 hc1 k1 hrow hb
    by_cases hkl : k < es.length
    · have hkl' : 10 + (k : Int) < 10 + (es.length : Int) := by omega
      have hat : es[k]? = some es[k] := List.getElem?_eq_getElem hkl
      have hin := inE_at es k _ hat
      have hts := take_snoc es k hkl
      have htl : (es.take k).length = k := by rw [List.length_take]; omega
      have L := look_th w1 bt bb es (h.below hb1) hl (10 + (k : Int)) (wf_small _ (by omega) (by omega)) false
      rw [hin] at L
      generalize es[k] = e at hat hin hts L
      have HS : Hid (prs (es.take (k + 1)) = prs (es.take k) ++ [(10 + (k : Int), e)]) := by
        show prs (es.take (k + 1)) = _
        rw [hts, prs_snoc, htl]
      clear hts hin htl hat
      go_wp2_with (first
        | (at_lookup; refine wpList_lookup_is _ rfl _ _ _ _ rfl _ _ _ rfl rfl L ?_)
        | (at_builtin; refine wpList_append_own_at _ rfl _ _ 28 rfl (W.heap.size + 1) 58 i0 (.agg #[.int .i64 0, .int .i64 0, .int .i64 0]) 3 24 Tryz.underlying28 hi hz0 hz1 hz2 rfl (by decide) _ _ _ rfl (hrow1.alloc _) ⟨w1.heap.size, 0, none⟩ 1 1 [.int .i64 (10 + (k : Int)), .int .i64 e.1, .int .i64 e.2] rfl rfl (three_at _ _ _ _ _ _ rfl) (by simp [Value.oneCell']) (by unfold maxLen; omega) (by omega) (by simp; omega) ?_; intro v' w2 hown' hgrow _ _; obtain ⟨g', cap', rfl⟩ := ownsRow_succ hown'))
      have hne : ∀ b, b ≤ W.heap.size → w2.heap[b]? = w1.heap[b]? := fun b hb => by
        refine (hgrow.block b (by simp; omega) fun e => ?_).trans (Below.heap_alloc _ _ _ (by omega))
        have := (hrow1.lt b e.symm).1
        omega
      have z2 := hgrow.size
      simp at z2
      go_roundw
      case rel =>
        refine ⟨k + 1, by omega, by go_num, ?_, ?_, by omega, ?_, ?_⟩
        · rw [HS.out, cellsM_snoc]; exact hown'
        · exact ⟨hgrow.os.trans hb1.os, hgrow.tape.trans hb1.tape, hgrow.output.trans hb1.output, Nat.le_trans hb1.size (by omega), fun b hbb => (hne b (by omega)).trans (hb1.block b hbb)⟩
        · exact (World.cell?_of_block (hne _ (Nat.le_refl _))).trans e0
        · exact (World.cell?_of_block (hne _ (Nat.le_refl _))).trans e1
      case measure => simp [intOf]; omega
    · have hge : 10 + (es.length : Int) ≤ 10 + (k : Int) := by omega
      have e2 : es.take k = es := List.take_of_length_le (by omega)
      have e3 : k = es.length := by omega
      subst e3
      rw [e2] at hrow1
      go_wp2
      go_ret
      refine ⟨_, rfl, ?_, hb1⟩
      rw [prs_len]; exact ownsRow_base hrow1 (by omega)

/-- what is read of pairs: the ends, if they are ok -/
def rdOk (m : List (Int × Int × Int)) (es : List (Int × Int)) (k : Nat) : Prop := m.take k = prs es ∧ GoodE es
theorem rd_step {m : List (Int × Int × Int)} {es : List (Int × Int)} {k : Nat} (h : rdOk m es k) (p : Int × Int × Int) (hp : m[k]? = some p) (hlen : es.length = k) (h8 : k < 8) (h1 : p.1 = 10 + (k : Int)) (h2 : inB p.2 = true) (h3 : p.2 ∉ es) : rdOk m (es ++ [p.2]) (k + 1) := by
  refine ⟨?_, h.2.snoc (by omega) h2 h3⟩
  rw [List.take_add_one, hp, h.1, prs_snoc, hlen, ← h1]; rfl
theorem rd_len {m : List (Int × Int × Int)} {es : List (Int × Int)} {k : Nat} (h : rdOk m es k) (hk : k ≤ m.length) : es.length = k := by
  have := congrArg List.length h.1
  rw [List.length_take, prs_len] at this; omega
theorem rd_has {m : List (Int × Int × Int)} {es : List (Int × Int)} {k : Nat} (h : rdOk m es k) (p : Int × Int × Int) (hp : m[k]? = some p) (h3 : p.2 ∈ es) : okM m = false := by
  obtain ⟨j, hj⟩ := List.mem_iff_getElem?.1 h3
  have e := prs_at es j
  rw [hj, ← h.1, List.getElem?_take] at e
  split at e
  · next hjk => exact okm_two m k j p _ hjk hp e rfl
  · cases e
theorem rd_all {m : List (Int × Int × Int)} {es : List (Int × Int)} {k : Nat} (h : rdOk m es k) (hk : m.length ≤ k) : okM m = true ∧ m.map Prod.snd = es := by
  have e : m = prs es := by rw [← h.1, List.take_of_length_le hk]
  subst e
  exact ⟨okM_prs es h.2, prs_snd es⟩

set_option maxRecDepth 8000 in
set_option maxHeartbeats 8000000 in
/-- pairs are read into two maps, if they are ok -/
theorem read_any (W : World) (v : Value) (m : List (Int × Int × Int)) (hm : IsM W v m) :
    Calls Tryz.prog 96 #[v] W fun r W' => (okM m = true ∧ (∃ bt bb, r = .returned (.tuple #[prtV bt bb, .bool true]) ∧ Two W' bt bb (m.map Prod.snd) ∧ W.heap.size ≤ bt ∧ W.heap.size ≤ bb) ∨ okM m = false ∧ r = .returned (.tuple #[.agg #[.map none, .map none], .bool false])) ∧ Below W.heap.size W W' := by
  obtain ⟨a, c, rfl⟩ := isM_slice hm
  have hmm : m.length ≤ maxLen := by
    rcases hm with ⟨_, rfl⟩ | ⟨g, o, cap, h1, h2, h3, _⟩
    · exact Nat.zero_le _
    · omega
  unfold maxLen at hmm
  go_enter Tryz.func96, Tryz.ntmps96
  go_wp2_with fail
  refine (new_any _).mono ?_
  rintro r w1 ⟨bt, bb, rfl, t1, hbt, hbb, k1⟩
  have z1 := k1.size
  simp at z1 hbt hbb
  have b1 : Below W.heap.size W w1 := ((Below.refl _ _).alloc (Nat.le_refl _) _).trans (k1.mono (by simp))
  have c1 := keepc k1 W.heap.size (by simp)
  have f1 := keepf k1 W.heap.size (by simp)
  have hlt := t1.lt
  have b2 : Below W.heap.size W (w1.alloc (.cells #[.map (some bt), .map (some bb)] 138)) := b1.alloc (by omega) _
  have x0 : (w1.alloc (.cells #[.map (some bt), .map (some bb)] 138)).cell? ⟨W.heap.size, 0, none⟩ = some (.map none) := by
    have := (((Below.refl w1.heap.size w1).alloc (Nat.le_refl _) (.cells #[.map (some bt), .map (some bb)] 138)).cell (p := ⟨W.heap.size, 0, none⟩) (by simp; omega)).trans (c1 0)
    rw [this]; simp
  have x1 : (w1.alloc (.cells #[.map (some bt), .map (some bb)] 138)).cell? ⟨W.heap.size, 1, none⟩ = some (.map none) := by
    have := (((Below.refl w1.heap.size w1).alloc (Nat.le_refl _) (.cells #[.map (some bt), .map (some bb)] 138)).cell (p := ⟨W.heap.size, 1, none⟩) (by simp; omega)).trans (c1 1)
    rw [this]; simp
  have y0 : (w1.alloc (.cells #[.map (some bt), .map (some bb)] 138)).frozen? ⟨W.heap.size, 0, none⟩ = false := by
    have := (((Below.refl w1.heap.size w1).alloc (Nat.le_refl _) (.cells #[.map (some bt), .map (some bb)] 138)).frozen (p := ⟨W.heap.size, 0, none⟩) (by simp; omega)).trans (f1 0)
    rw [this]; simp
  have y1 : (w1.alloc (.cells #[.map (some bt), .map (some bb)] 138)).frozen? ⟨W.heap.size, 1, none⟩ = false := by
    have := (((Below.refl w1.heap.size w1).alloc (Nat.le_refl _) (.cells #[.map (some bt), .map (some bb)] 138)).frozen (p := ⟨W.heap.size, 1, none⟩) (by simp; omega)).trans (f1 1)
    rw [this]; simp
  have t2 := t1.below ((Below.refl w1.heap.size w1).alloc (Nat.le_refl _) (.cells #[.map (some bt), .map (some bb)] 138))
  clear c1 f1 k1 t1
  go_wp2
  go_loopw [13] (fun i wr => ∃ (k : Nat) (es : List (Int × Int)), k ≤ m.length ∧ i = .int .i64 k ∧ rdOk m es k ∧ Two wr bt bb es ∧ Below W.heap.size W wr ∧ w1.heap.size < wr.heap.size ∧ wr.cell? ⟨w1.heap.size, 0, none⟩ = some (.map (some bt)) ∧ wr.cell? ⟨w1.heap.size, 1, none⟩ = some (.map (some bb)) ∧ wr.cell? ⟨W.heap.size, 0, none⟩ = some (.map none) ∧ wr.cell? ⟨W.heap.size, 1, none⟩ = some (.map none) ∧ wr.frozen? ⟨W.heap.size, 0, none⟩ = false ∧ wr.frozen? ⟨W.heap.size, 1, none⟩ = false) (fun i wr => m.length - (intOf i).toNat)
  case atStart =>
    exact ⟨0, [], Nat.zero_le _, rfl, ⟨rfl, GoodE.nil⟩, t2, b2, by simp, by simp, by simp, x0, x1, y0, y1⟩
  case round =>
    clear x0 x1 y0 y1 b2 t2 b1
    obtain ⟨k, es, hk, rfl, hrd, tr, hb, hsz, u0, u1, x0, x1, y0, y1⟩ := hrel
    have hlen := rd_len hrd hk
    by_cases hkl : k < m.length
    · have hkl' : (k : Int) < (m.length : Int) := by omega
      have hp : m[k]? = some m[k] := List.getElem?_eq_getElem hkl
      obtain ⟨g, o, rfl, _, hc1, hc2, hat⟩ := isM_at (hm.below hb) k _ hp
      generalize m[k] = p at hp hat
      obtain ⟨q0, q1, q2⟩ := hat
      obtain ⟨po, ea, ep⟩ := p
      simp only at q0 q1 q2
      have bN : Below wr.heap.size wr (wr.alloc (.cells #[.int .i64 po, .int .i64 ea, .int .i64 ep] 58)) := (Below.refl _ _).alloc (Nat.le_refl _) _
      have tN := tr.below bN
      have n0 : wr.heap.size < (wr.alloc (.cells #[.int .i64 po, .int .i64 ea, .int .i64 ep] 58)).heap.size := by simp
      have hbN := hb.trans (bN.mono hb.size)
      have key : ∀ w2, Below W.heap.size W w2 → But2 bt bb (wr.alloc (.cells #[.int .i64 po, .int .i64 ea, .int .i64 ep] 58)) w2 →
          w2.cell? ⟨w1.heap.size, 0, none⟩ = some (.map (some bt)) ∧ w2.cell? ⟨w1.heap.size, 1, none⟩ = some (.map (some bb)) ∧ w2.cell? ⟨W.heap.size, 0, none⟩ = some (.map none) ∧ w2.cell? ⟨W.heap.size, 1, none⟩ = some (.map none) ∧ w2.frozen? ⟨W.heap.size, 0, none⟩ = false ∧ w2.frozen? ⟨W.heap.size, 1, none⟩ = false ∧ w2.cell? ⟨wr.heap.size, 0, none⟩ = some (.int .i64 po) ∧ w1.heap.size < w2.heap.size := by
        intro w2 _ k2
        have cc : ∀ b j, b < wr.heap.size → b ≠ bt → b ≠ bb → w2.cell? ⟨b, j, none⟩ = wr.cell? ⟨b, j, none⟩ := fun b j h1 h2 h3 => (k2.cell (p := ⟨b, j, none⟩) (by simp; omega) h2 h3).trans (bN.cell (p := ⟨b, j, none⟩) h1)
        have ff : ∀ b j, b < wr.heap.size → b ≠ bt → b ≠ bb → w2.frozen? ⟨b, j, none⟩ = wr.frozen? ⟨b, j, none⟩ := fun b j h1 h2 h3 => (k2.frozen (p := ⟨b, j, none⟩) (by simp; omega) h2 h3).trans (bN.frozen (p := ⟨b, j, none⟩) h1)
        have trl := tr.lt
        refine ⟨(cc _ _ (by omega) (by omega) (by omega)).trans u0, (cc _ _ (by omega) (by omega) (by omega)).trans u1, (cc _ _ (by omega) (by omega) (by omega)).trans x0, (cc _ _ (by omega) (by omega) (by omega)).trans x1, (ff _ _ (by omega) (by omega) (by omega)).trans y0, (ff _ _ (by omega) (by omega) (by omega)).trans y1, ?_, ?_⟩
        · refine (k2.cell (p := ⟨wr.heap.size, 0, none⟩) (by simp) (by simp; omega) (by simp; omega)).trans ?_
          simp
        · have := k2.size
          simp at this; omega
      have hm63 : m.length ≤ 9223372036854775807 := by omega
      by_cases h8 : es.length < 8
      · cases hi : inB (ea, ep)
        · have hbad := okm_in m k _ hp hi
          go_wp2_with fail
          refine (give_out _ bt bb es tN hrd.2 h8 (ea, ep) hi).mono ?_
          rintro r w2 ⟨rfl, k2⟩
          have b2 := hbN.trans (k2.mono hbN.size)
          obtain ⟨v0, v1, v2, v3, v4, v5, _, _⟩ := key w2 b2 (But2.ofBelow k2)
          clear key q0 q1 q2 u0 u1 x0 x1 y0 y1
          go_wp2
          refine bodyPost_ret (v := .tuple #[.agg #[.map none, .map none], .bool false]) ?_ rfl ?_
          · simp [results, Tryz.results96, go_sem, v2, v3]
          · exact ⟨.inr ⟨hbad, rfl⟩, (b2.setCell (p := ⟨W.heap.size, 0, none⟩) (Nat.le_refl _) _).setCell (p := ⟨W.heap.size, 1, none⟩) (Nat.le_refl _) _⟩
        · by_cases hn : (ea, ep) ∈ es
          · have hbad := rd_has hrd _ hp hn
            go_wp2_with fail
            refine (give_has _ bt bb es tN hrd.2 h8 (ea, ep) hi hn).mono ?_
            rintro r w2 ⟨rfl, k2⟩
            have b2 := hbN.trans (k2.mono hbN.size)
            obtain ⟨v0, v1, v2, v3, v4, v5, _, _⟩ := key w2 b2 (But2.ofBelow k2)
            clear key q0 q1 q2 u0 u1 x0 x1 y0 y1
            go_wp2
            refine bodyPost_ret (v := .tuple #[.agg #[.map none, .map none], .bool false]) ?_ rfl ?_
            · simp [results, Tryz.results96, go_sem, v2, v3]
            · exact ⟨.inr ⟨hbad, rfl⟩, (b2.setCell (p := ⟨W.heap.size, 0, none⟩) (Nat.le_refl _) _).setCell (p := ⟨W.heap.size, 1, none⟩) (Nat.le_refl _) _⟩
          · go_wp2_with fail
            refine (give_new _ bt bb es tN hrd.2 h8 (ea, ep) hi hn).mono ?_
            rintro r w2 ⟨rfl, t2, k2⟩
            have b2 : Below W.heap.size W w2 := hbN.trans (k2.below (by omega) (by omega) (by simp; omega))
            obtain ⟨v0, v1, v2, v3, v4, v5, v6, v7⟩ := key w2 b2 k2
            clear key q0 q1 q2 u0 u1 x0 x1 y0 y1
            by_cases hpo : po = 10 + (es.length : Int)
            · have hst := rd_step hrd _ hp hlen (by omega) (by simp only; omega) hi hn
              have hpo' : (10 + (es.length : Int) == po) = true := by simp [hpo]
              go_wp2
              go_roundw
              case rel => exact ⟨k + 1, es ++ [(ea, ep)], by omega, by go_num, hst, t2, b2, v7, v0, v1, v2, v3, v4, v5⟩
              case measure => simp [intOf]; omega
            · have hbad := okm_port m k _ hp (by simp only; omega)
              have hpo' : (10 + (es.length : Int) == po) = false := by simp; omega
              go_wp2
              refine bodyPost_ret (v := .tuple #[.agg #[.map none, .map none], .bool false]) ?_ rfl ?_
              · simp [results, Tryz.results96, go_sem, v2, v3]
              · exact ⟨.inr ⟨hbad, rfl⟩, (b2.setCell (p := ⟨W.heap.size, 0, none⟩) (Nat.le_refl _) _).setCell (p := ⟨W.heap.size, 1, none⟩) (Nat.le_refl _) _⟩
      · have hbad := okm_long m (by omega)
        go_wp2_with fail
        refine (give_full _ bt bb es tN hrd.2 (by omega) (ea, ep)).mono ?_
        rintro r w2 ⟨rfl, k2⟩
        have b2 := hbN.trans (k2.mono hbN.size)
        obtain ⟨v0, v1, v2, v3, v4, v5, _, _⟩ := key w2 b2 (But2.ofBelow k2)
        clear key q0 q1 q2 u0 u1 x0 x1 y0 y1
        go_wp2
        refine bodyPost_ret (v := .tuple #[.agg #[.map none, .map none], .bool false]) ?_ rfl ?_
        · simp [results, Tryz.results96, go_sem, v2, v3]
        · exact ⟨.inr ⟨hbad, rfl⟩, (b2.setCell (p := ⟨W.heap.size, 0, none⟩) (Nat.le_refl _) _).setCell (p := ⟨W.heap.size, 1, none⟩) (Nat.le_refl _) _⟩
    · have hge : (m.length : Int) ≤ (k : Int) := by omega
      obtain ⟨hok, hes⟩ := rd_all hrd (by omega)
      go_wp2
      refine bodyPost_ret (v := .tuple #[prtV bt bb, .bool true]) ?_ rfl ?_
      · simp [results, Tryz.results96, go_sem, x0, x1]
      · refine ⟨.inl ⟨hok, bt, bb, rfl, ?_, by omega, by omega⟩, (hb.setCell (p := ⟨W.heap.size, 0, none⟩) (Nat.le_refl _) _).setCell (p := ⟨W.heap.size, 1, none⟩) (Nat.le_refl _) _⟩
        rw [hes]
        have e1 : ∀ b, b ≠ W.heap.size → ((wr.setCell ⟨W.heap.size, 0, none⟩ (.map (some bt))).setCell ⟨W.heap.size, 1, none⟩ (.map (some bb))).heap[b]? = wr.heap[b]? := fun b hbn => (Below.heap_setCell _ _ _ _ hbn).trans (Below.heap_setCell _ _ _ _ hbn)
        exact ⟨(e1 bt (by omega)).trans tr.th, (e1 bb (by omega)).trans tr.bk, tr.ne⟩
end Go.Proofs.YtfmjhbdbgcgoiaaGreatDoor.Ml

/- Walks: MapOk, MapOut and MapIn of the program. -/
namespace Go.Proofs.YtfmjhbdbgcgoiaaGreatDoor.Ml
open Go.RowKit Go.Proofs.YtfmjhbdbgcgoiaaGreatDoor.Kit Go.Proofs.YtfmjhbdbgcgoiaaGreatDoor.Mp Go.Proofs.YtfmjhbdbgcgoiaaGreatDoor.Mj Go.Proofs.YtfmjhbdbgcgoiaaGreatDoor.Mk Go.Proofs.YtfmjhbdbgcgoiaaGreatDoor.Mg Go.Proofs.YtfmjhbdbgcgoiaaGreatDoor.Mm Go.Proofs.YtfmjhbdbgcgoiaaGreatDoor.App
open Go.Proofs.YtfmjhbdbgcgoiaaGreatDoor.EndW (endV sideZ isB impl1)
set_option linter.unusedSimpArgs false
set_option linter.unusedVariables false

theorem read_yes (W : World) (v : Value) (m : List (Int × Int × Int)) (hm : IsM W v m) (hok : okM m = true) :
    Calls Tryz.prog 96 #[v] W fun r W' => ∃ bt bb, r = .returned (.tuple #[prtV bt bb, .bool true]) ∧ Two W' bt bb (m.map Prod.snd) ∧ W.heap.size ≤ bt ∧ W.heap.size ≤ bb ∧ Below W.heap.size W W' := by
  refine (read_any W v m hm).mono ?_
  rintro r w1 ⟨⟨_, bt, bb, rfl, t1, hbt, hbb⟩ | ⟨h, _⟩, k1⟩
  · exact ⟨bt, bb, rfl, t1, hbt, hbb, k1⟩
  · rw [hok] at h; cases h
theorem read_no (W : World) (v : Value) (m : List (Int × Int × Int)) (hm : IsM W v m) (hok : okM m = false) :
    Calls Tryz.prog 96 #[v] W fun r W' => r = .returned (.tuple #[.agg #[.map none, .map none], .bool false]) ∧ Below W.heap.size W W' := by
  refine (read_any W v m hm).mono ?_
  rintro r w1 ⟨⟨h, _⟩ | ⟨_, h⟩, k1⟩
  · rw [hok] at h; cases h
  · exact ⟨h, k1⟩

set_option maxRecDepth 8000 in
set_option maxHeartbeats 4000000 in
theorem ok_any (W : World) (v : Value) (m : List (Int × Int × Int)) (hm : IsM W v m) :
    Calls Tryz.prog 62 #[v] W fun r W' => r = .returned (.bool (okM m)) ∧ Below W.heap.size W W' := by
  cases hok : okM m
  · go_enter Tryz.func62, Tryz.ntmps62
    go_wp2_with fail
    refine (read_no _ v m hm hok).mono ?_
    rintro r w1 ⟨rfl, k1⟩
    go_wp2
    go_ret
    exact ⟨rfl, k1.alloc k1.size _⟩
  · go_enter Tryz.func62, Tryz.ntmps62
    go_wp2_with fail
    refine (read_yes _ v m hm hok).mono ?_
    rintro r w1 ⟨bt, bb, rfl, t1, hbt, hbb, k1⟩
    go_wp2
    go_ret
    exact ⟨rfl, k1.alloc k1.size _⟩

set_option maxRecDepth 8000 in
set_option maxHeartbeats 4000000 in
theorem in_any (W : World) (v : Value) (m : List (Int × Int × Int)) (hm : IsM W v m) (port : Int) (hw : (Lit.int .i64 port).wf = true) :
    Calls Tryz.prog 88 #[v, .int .i64 port] W fun r W' => r = .returned (.tuple #[endV (mIn m port).1.1 (mIn m port).1.2, .bool (mIn m port).2]) ∧ Below W.heap.size W W' := by
  have bA : Below W.heap.size W (W.alloc (.cells #[.int .i64 0, .int .i64 0] 40)) := (Below.refl _ _).alloc (Nat.le_refl _) _
  cases hok : okM m
  · have hmi : mIn m port = ((0, 0), false) := by unfold mIn; rw [if_neg (by rw [hok]; exact Bool.false_ne_true)]
    rw [hmi]
    go_enter Tryz.func88, Tryz.ntmps88
    go_wp2_with fail
    refine (read_no _ v m (hm.below bA) hok).mono ?_
    rintro r w1 ⟨rfl, k1⟩
    have z1 := k1.size
    simp at z1
    have c1 := keepc k1 W.heap.size (by simp)
    have f1 := keepf k1 W.heap.size (by simp)
    have b1 := bA.trans (k1.mono (by simp))
    have e0 : w1.cell? ⟨W.heap.size, 0, none⟩ = some (.int .i64 0) := by rw [c1 0]; simp
    have e1 : w1.cell? ⟨W.heap.size, 1, none⟩ = some (.int .i64 0) := by rw [c1 1]; simp
    have g0 : w1.frozen? ⟨W.heap.size, 0, none⟩ = false := by rw [f1 0]; simp
    have g1 : w1.frozen? ⟨W.heap.size, 1, none⟩ = false := by rw [f1 1]; simp
    have hlt : W.heap.size < w1.heap.size := by omega
    clear c1 f1
    go_wp2
    refine bodyPost_ret (v := .tuple #[endV 0 0, .bool false]) ?_ rfl ?_
    · simp [results, Tryz.results88, go_sem, e0, e1, hlt]
    · exact ⟨rfl, ((b1.setCell (p := ⟨W.heap.size, 0, none⟩) (Nat.le_refl _) _).setCell (p := ⟨W.heap.size, 1, none⟩) (Nat.le_refl _) _).alloc (by simp [World.setCell]; omega) _⟩
  · have hmi : mIn m port = inE (m.map Prod.snd) port := if_pos hok
    rw [hmi]
    have hg := (okM_out m hok).1
    go_enter Tryz.func88, Tryz.ntmps88
    go_wp2_with fail
    refine (read_yes _ v m (hm.below bA) hok).mono ?_
    rintro r w1 ⟨bt, bb, rfl, t1, hbt, hbb, k1⟩
    have z1 := k1.size
    simp at z1 hbt hbb
    have c1 := keepc k1 W.heap.size (by simp)
    have f1 := keepf k1 W.heap.size (by simp)
    have b1 := bA.trans (k1.mono (by simp))
    have hlt := t1.lt
    have bB : Below w1.heap.size w1 (w1.alloc (.cells #[.map (some bt), .map (some bb)] 138)) := (Below.refl _ _).alloc (Nat.le_refl _) _
    go_wp2_with fail
    refine (end_any _ bt bb _ (t1.below bB) hg.len port hw).mono ?_
    rintro r w2 ⟨rfl, k2⟩
    have z2 := k2.size
    simp at z2
    have b2 := b1.trans ((bB.mono b1.size).trans (k2.mono (by simp; omega)))
    have e0 : w2.cell? ⟨W.heap.size, 0, none⟩ = some (.int .i64 0) := by
      rw [k2.cell (p := ⟨W.heap.size, 0, none⟩) (by simp; omega), bB.cell (p := ⟨W.heap.size, 0, none⟩) (by simp; omega), c1 0]; simp
    have e1 : w2.cell? ⟨W.heap.size, 1, none⟩ = some (.int .i64 0) := by
      rw [k2.cell (p := ⟨W.heap.size, 1, none⟩) (by simp; omega), bB.cell (p := ⟨W.heap.size, 1, none⟩) (by simp; omega), c1 1]; simp
    have g0 : w2.frozen? ⟨W.heap.size, 0, none⟩ = false := by
      rw [k2.frozen (p := ⟨W.heap.size, 0, none⟩) (by simp; omega), bB.frozen (p := ⟨W.heap.size, 0, none⟩) (by simp; omega), f1 0]; simp
    have g1 : w2.frozen? ⟨W.heap.size, 1, none⟩ = false := by
      rw [k2.frozen (p := ⟨W.heap.size, 1, none⟩) (by simp; omega), bB.frozen (p := ⟨W.heap.size, 1, none⟩) (by simp; omega), f1 1]; simp
    clear c1 f1
    go_wp2
    refine bodyPost_ret (v := .tuple #[endV (inE (m.map Prod.snd) port).1.1 (inE (m.map Prod.snd) port).1.2, .bool (inE (m.map Prod.snd) port).2]) ?_ rfl ?_
    · simp [results, Tryz.results88, go_sem, e0, e1]
    · exact ⟨rfl, (b2.setCell (p := ⟨W.heap.size, 0, none⟩) (Nat.le_refl _) _).setCell (p := ⟨W.heap.size, 1, none⟩) (Nat.le_refl _) _⟩

set_option maxRecDepth 8000 in
set_option maxHeartbeats 4000000 in
theorem out_any (W : World) (v : Value) (m : List (Int × Int × Int)) (hm : IsM W v m) (e : Int × Int) :
    Calls Tryz.prog 80 #[v, endV e.1 e.2] W fun r W' => ∃ v', r = .returned (.tuple #[v', .int .i64 (mOut m e).2.1, .bool (mOut m e).2.2]) ∧ W'.ownsRow W.heap.size 58 3 v' (mOut m e).1.length (cellsM (mOut m e).1) ∧ Below W.heap.size W W' := by
  have bA : Below W.heap.size W (W.alloc (.cells #[.int .i64 e.1, .int .i64 e.2] 40)) := (Below.refl _ _).alloc (Nat.le_refl _) _
  cases hok : okM m
  · have hmo : mOut m e = ([], 0, false) := by unfold mOut; rw [if_neg (by rw [hok]; exact fun h => Bool.false_ne_true h.1)]
    rw [hmo]
    go_enter Tryz.func80, Tryz.ntmps80
    go_wp2_with fail
    refine (read_no _ v m (hm.below bA) hok).mono ?_
    rintro r w1 ⟨rfl, k1⟩
    have b1 := bA.trans (k1.mono (by simp))
    go_wp2
    refine bodyPost_ret (v := .tuple #[.slice none 0 0, .int .i64 0, .bool false]) (by simp [results, Tryz.results80, go_sem]) rfl ?_
    exact ⟨_, rfl, World.ownsRow_nil _ _ _ _, b1.alloc b1.size _⟩
  · have hg := (okM_out m hok).1
    have hmo : mOut m e = if inB e = true then (prs (outE (m.map Prod.snd) e).1, (outE (m.map Prod.snd) e).2.1, (outE (m.map Prod.snd) e).2.2) else ([], 0, false) := by
      unfold mOut; rw [hok]; simp
    rw [hmo]
    clear hmo
    cases hi : inB e
    · rw [if_neg Bool.false_ne_true]
      go_enter Tryz.func80, Tryz.ntmps80
      go_wp2_with fail
      refine (read_yes _ v m (hm.below bA) hok).mono ?_
      rintro r w1 ⟨bt, bb, rfl, t1, hbt, hbb, k1⟩
      have z1 := k1.size
      simp at z1 hbt hbb
      have c1 := keepc k1 W.heap.size (by simp)
      have b1 := bA.trans (k1.mono (by simp))
      have e0 : w1.cell? ⟨W.heap.size, 0, none⟩ = some (.int .i64 e.1) := by rw [c1 0]; simp
      have e1 : w1.cell? ⟨W.heap.size, 1, none⟩ = some (.int .i64 e.2) := by rw [c1 1]; simp
      have hlt : W.heap.size < w1.heap.size := by omega
      clear c1
      go_wp2_with fail
      refine (impl1 e.1 e.2 _).mono ?_
      rintro r w2 ⟨rfl, k2⟩
      rw [isB_inB, hi]
      have b2 := (b1.alloc (o := .cells #[.map (some bt), .map (some bb)] 138) b1.size).trans (k2.mono (by simp; omega))
      go_wp2
      refine bodyPost_ret (v := .tuple #[.slice none 0 0, .int .i64 0, .bool false]) (by simp [results, Tryz.results80, go_sem]) rfl ?_
      exact ⟨_, rfl, World.ownsRow_nil _ _ _ _, b2⟩
    · rw [if_pos rfl]
      have hgo := outE_good _ e hg hi
      go_enter Tryz.func80, Tryz.ntmps80
      go_wp2_with fail
      refine (read_yes _ v m (hm.below bA) hok).mono ?_
      rintro r w1 ⟨bt, bb, rfl, t1, hbt, hbb, k1⟩
      have z1 := k1.size
      simp at z1 hbt hbb
      have c1 := keepc k1 W.heap.size (by simp)
      have b1 := bA.trans (k1.mono (by simp))
      have hlt := t1.lt
      have e0 : w1.cell? ⟨W.heap.size, 0, none⟩ = some (.int .i64 e.1) := by rw [c1 0]; simp
      have e1 : w1.cell? ⟨W.heap.size, 1, none⟩ = some (.int .i64 e.2) := by rw [c1 1]; simp
      clear c1
      have bB : Below w1.heap.size w1 (w1.alloc (.cells #[.map (some bt), .map (some bb)] 138)) := (Below.refl _ _).alloc (Nat.le_refl _) _
      have e2 := (bB.cell (p := ⟨W.heap.size, 0, none⟩) (by simp; omega)).trans e0
      have e3 := (bB.cell (p := ⟨W.heap.size, 1, none⟩) (by simp; omega)).trans e1
      go_wp2_with fail
      refine (impl1 e.1 e.2 _).mono ?_
      rintro r w2 ⟨rfl, k2⟩
      rw [isB_inB, hi]
      have z2 := k2.size
      simp at z2
      have b2 := b1.trans ((bB.mono b1.size).trans (k2.mono (by simp; omega)))
      have t2 := (t1.below bB).below k2
      have i0 : w2.cell? ⟨W.heap.size, 0, none⟩ = some (.int .i64 e.1) := (k2.cell (p := ⟨W.heap.size, 0, none⟩) (by simp; omega)).trans e2
      have i1 : w2.cell? ⟨W.heap.size, 1, none⟩ = some (.int .i64 e.2) := (k2.cell (p := ⟨W.heap.size, 1, none⟩) (by simp; omega)).trans e3
      have j0 : w2.cell? ⟨w1.heap.size, 0, none⟩ = some (.map (some bt)) := (k2.cell (p := ⟨w1.heap.size, 0, none⟩) (by simp)).trans (by simp)
      have j1 : w2.cell? ⟨w1.heap.size, 1, none⟩ = some (.map (some bb)) := (k2.cell (p := ⟨w1.heap.size, 1, none⟩) (by simp)).trans (by simp)
      clear e0 e1 e2 e3 k2 bB k1
      go_wp2_with fail
      refine (port_any _ bt bb _ t2 hg e hi).mono ?_
      rintro r w3 ⟨rfl, t3, k3⟩
      have z3 := k3.size
      have b3 := b2.trans (k3.below (by omega) (by omega) (by omega))
      have l0 : w3.cell? ⟨w1.heap.size, 0, none⟩ = some (.map (some bt)) := (k3.cell (p := ⟨w1.heap.size, 0, none⟩) (by simp; omega) (by simp; omega) (by simp; omega)).trans j0
      have l1 : w3.cell? ⟨w1.heap.size, 1, none⟩ = some (.map (some bb)) := (k3.cell (p := ⟨w1.heap.size, 1, none⟩) (by simp; omega) (by simp; omega) (by simp; omega)).trans j1
      clear i0 i1 j0 j1 t2 k3
      go_wp2_with fail
      refine (list_any _ bt bb _ t3 hgo.len).mono ?_
      rintro r w4 ⟨v', rfl, hr, k4⟩
      have b4 := b3.trans (k4.mono b3.size)
      go_wp2
      refine bodyPost_ret (v := .tuple #[v', .int .i64 (outE (m.map Prod.snd) e).2.1, .bool (outE (m.map Prod.snd) e).2.2]) (by simp [results, Tryz.results80, go_sem]) rfl ?_
      exact ⟨_, rfl, ownsRow_base hr b3.size, b4⟩
end Go.Proofs.YtfmjhbdbgcgoiaaGreatDoor.Ml

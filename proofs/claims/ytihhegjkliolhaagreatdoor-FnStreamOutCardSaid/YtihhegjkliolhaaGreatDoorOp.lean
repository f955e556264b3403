/- Pairs in a row of the call's own that may begin anywhere in its block: what is kept, and appending; l3Out of the model. -/
import Derived.Test.YtihhegjkliolhaaGreatDoorMo
namespace Go.Proofs.YtihhegjkliolhaaGreatDoor.Ms
open Go.RowKit Go.Proofs.YtihhegjkliolhaaGreatDoor.Kit Go.Proofs.YtihhegjkliolhaaGreatDoor.Mp Go.Proofs.YtihhegjkliolhaaGreatDoor.Mm Go.Proofs.YtihhegjkliolhaaGreatDoor.App
open Go.Proofs.YtihhegjkliolhaaGreatDoor.EndW (endV sideZ isB spec1 l6in_any)
set_option linter.unusedSimpArgs false
set_option linter.unusedVariables false

/-- pairs in a row of one's own, that may begin anywhere in its block -/
def OwnP (W : World) (base : Nat) (v : Value) (es : List (Int × Int)) : Prop :=
  (v = .slice none 0 0 ∧ es = []) ∨ ∃ g o cap cur, v = .slice (some ⟨g, o, none⟩) es.length cap ∧ base ≤ g ∧ W.heap[g]? = some (.cells cur 79 (0, 0)) ∧ es.length ≤ cap ∧ cap ≤ maxLen ∧ o + cap * 3 ≤ cur.size ∧ ∀ (i : Nat) (p : Int × Int × Int), (prs es)[i]? = some p → At3 W g (o + i * 3) p
theorem OwnP.isM {W : World} {base : Nat} {v : Value} {es : List (Int × Int)} (h : OwnP W base v es) : IsM W v (prs es) := by
  rcases h with ⟨rfl, rfl⟩ | ⟨g, o, cap, cur, rfl, _, hg, h1, h2, _, h3⟩
  · exact .inl ⟨rfl, rfl⟩
  · exact .inr ⟨g, o, cap, by rw [prs_len], by rw [prs_len]; exact h1, h2, (Array.getElem?_eq_some_iff.1 hg).1, h3⟩
theorem OwnP.lt {W : World} {base : Nat} {v : Value} {es : List (Int × Int)} (h : OwnP W base v es) : ∀ k, v.ownBlock = some k → base ≤ k ∧ k < W.heap.size := by
  intro k hk
  rcases h with ⟨rfl, rfl⟩ | ⟨g, o, cap, cur, rfl, hb, hg, _⟩
  · cases hk
  · simp [Value.ownBlock] at hk
    subst hk
    exact ⟨hb, (Array.getElem?_eq_some_iff.1 hg).1⟩
theorem OwnP.kept {W W' : World} {base : Nat} {v : Value} {es : List (Int × Int)} {row : Option Nat} (h : OwnP W base v es) (hg : W.grownBy W' row) (hne : v.ownBlock = none ∨ v.ownBlock ≠ row) : OwnP W' base v es := by
  rcases h with h | ⟨g, o, cap, cur, rfl, hb, hgg, h1, h2, h3, h4⟩
  · exact .inl h
  · have e := hg.block g (Array.getElem?_eq_some_iff.1 hgg).1 (by simpa [Value.ownBlock] using hne)
    exact .inr ⟨g, o, cap, cur, rfl, hb, e.trans hgg, h1, h2, h3, fun i p hp => (h4 i p hp).same e⟩
theorem OwnP.below {W W' : World} {base : Nat} {v : Value} {es : List (Int × Int)} (h : OwnP W base v es) (k : Below W.heap.size W W') : OwnP W' base v es :=
  h.kept (row := none) ⟨k.os, k.tape, k.output, k.size, fun i hi _ => k.block i hi⟩ (by cases v.ownBlock with | none => exact .inl rfl | some g => exact .inr (by simp))
theorem OwnP.alloc {W : World} {base : Nat} {v : Value} {es : List (Int × Int)} (h : OwnP W base v es) (o : Obj) : OwnP (W.alloc o) base v es := h.below ((Below.refl _ _).alloc (Nat.le_refl _) o)
theorem OwnP.drew {W : World} {base : Nat} {v : Value} {es : List (Int × Int)} (h : OwnP W base v es) : OwnP W.drew base v es := h
theorem OwnP.setCell_other {W : World} {base : Nat} {v : Value} {es : List (Int × Int)} (h : OwnP W base v es) {a : Addr} (ha : v.ownBlock ≠ some a.block) (u : Value) : OwnP (W.setCell a u) base v es :=
  h.kept (row := some a.block) ⟨rfl, rfl, rfl, by simp [World.setCell], fun k _ hk => Below.heap_setCell _ _ _ _ (fun e => hk (by rw [e]))⟩ (.inr ha)
theorem OwnP.slice {W : World} {base : Nat} {v : Value} {es : List (Int × Int)} (h : OwnP W base v es) : ∃ a c, v = .slice a es.length c := by
  rcases h with ⟨rfl, rfl⟩ | ⟨g, o, cap, cur, rfl, _⟩
  · exact ⟨none, 0, rfl⟩
  · exact ⟨_, _, rfl⟩
theorem OwnP.of_row {W : World} {base : Nat} {v : Value} {es : List (Int × Int)} (h : W.ownsRow base 79 3 v es.length (cellsM (prs es))) : OwnP W base v es := by
  have hm : IsM W v (prs es) := isM_of_row (by rw [prs_len]; exact h)
  rcases h.2 with ⟨rfl, h0⟩ | ⟨g, cap, cur, rfl, hb, hg, hnc, hcm, hcs, htake⟩
  · exact .inl ⟨rfl, List.length_eq_zero_iff.1 h0⟩
  · rcases hm with ⟨e, _⟩ | ⟨g', o', cap', e, _, _, _, hat⟩
    · cases e
    · simp at e
      obtain ⟨⟨rfl, rfl⟩, _, rfl⟩ := e
      exact .inr ⟨g, 0, cap, cur, rfl, hb, hg, hnc, hcm, by omega, hat⟩

/-- appending where there is room, at a slice that lies anywhere in its block -/
theorem run_append_at {P : Program} (w : World) (t ty e : TypeId) (i : TypeInfo) (ht : P.underlying t = some (.slice e)) (hi : P.info? e = some i)
    (g o sLen sCap : Nat) (cur : Array Value) (hg : w.heap[g]? = some (.cells cur e (0, 0)))
    (a : Addr) (m c : Nat) (news : List Value) (hl : news.length = m * i.size) (hnews : ∀ j u, news[j]? = some u → w.cell? (a.add j) = some u) (h1 : ∀ u ∈ news, u.oneCell' = true)
    (hroom : sLen + m ≤ sCap) (hfit : o + sLen * i.size + news.length ≤ cur.size) :
    (Builtin.append_ #[t, t] ty #[.slice (some ⟨g, o, none⟩) sLen sCap, .slice (some a) m c]).run P w =
      .ok (.slice (some ⟨g, o, none⟩) (sLen + m) sCap) (w.setRow g (cur.toList.take (o + sLen * i.size) ++ news ++ cur.toList.drop (o + sLen * i.size + news.length)).toArray) := by
  have hf := run_firstCells_some (P := P) w i.size m a m c news hl hnews
  have hst := run_storeCells_at P g (o + sLen * i.size) e news 0 cur w hg (by simpa using hfit) h1
  simp only [Nat.add_zero] at hst
  simp [Builtin.append_, run_underlying ht, sizeOf, typeInfo, hi, Builtin.lenOf, hroom, hf, Addr.add_lit, hst]

/-- a pair more behind pairs that are the call's own -/
theorem run_append_P {P : Program} (w : World) (base : Nat) (hb : base ≤ w.heap.size) (t ty : TypeId) (i : TypeInfo) (ht : P.underlying t = some (.slice 79)) (hi : P.info? 79 = some i) (hz : i.zero = some (.agg #[.int .i64 0, .int .i64 0, .int .i64 0])) (hsize : i.size = 3) (hby : i.bytes = 24)
    (v : Value) (es : List (Int × Int)) (hm : OwnP w base v es) (hl : es.length ≤ 100) (ad : Addr) (f : Int × Int) (hc : ∀ j u, [Value.int .i64 (10 + (es.length : Int)), .int .i64 f.1, .int .i64 f.2][j]? = some u → w.cell? (ad.add j) = some u) :
    ∃ v' w', (Builtin.append_ #[t, t] ty #[v, .slice (some ad) 1 1]).run P w = .ok v' w' ∧ OwnP w' base v' (es ++ [f]) ∧ w.grownBy w' v.ownBlock ∧ (v'.ownBlock = v.ownBlock ∨ ∃ g, v'.ownBlock = some g ∧ w.heap.size ≤ g) := by
  have hnl : [Value.int .i64 (10 + (es.length : Int)), .int .i64 f.1, .int .i64 f.2].length = 1 * 3 := rfl
  have h1c : ∀ u ∈ [Value.int .i64 (10 + (es.length : Int)), .int .i64 f.1, .int .i64 f.2], u.oneCell' = true := by simp [Value.oneCell']
  have hap : cellsM (prs (es ++ [f])) = cellsM (prs es) ++ [Value.int .i64 (10 + (es.length : Int)), .int .i64 f.1, .int .i64 f.2] := by rw [prs_snoc, cellsM_snoc]
  have hal : (es ++ [f]).length = es.length + 1 := by rw [List.length_append]; rfl
  rcases hm with ⟨rfl, rfl⟩ | ⟨g, o, cap, cur, rfl, hbg, hcur, hcap, hmax, hfit, hat⟩
  · obtain ⟨v', w', hrun, hrow, hg, hw⟩ := run_append_own2 (P := P) w base t ty 79 i _ 3 24 ht hi hz hsize hby rfl (by omega) (.slice none 0 0) 0 [] (World.ownsRow_nil _ _ _ _) ad 1 1 _ hnl hc h1c (by unfold maxLen; omega) (by omega) hb
    refine ⟨v', w', hrun, OwnP.of_row (by rw [hap, hal]; simpa [prs, cellsM] using hrow), hg, ?_⟩
    obtain ⟨g', c', rfl⟩ := ownsRow_succ hrow
    rcases hw g' rfl with q | q
    · cases q
    · exact .inr ⟨g', rfl, q⟩
  · by_cases hroom : es.length + 1 ≤ cap
    · have hrun := run_append_at (P := P) w t ty 79 i ht hi g o es.length cap cur hcur ad 1 1 _ (by rw [hsize]; exact hnl) hc h1c hroom (by rw [hsize, hnl]; omega)
      rw [hsize] at hrun
      have hsz : cur.toList.length = cur.size := Array.length_toList
      have hh := setRow_heap w g cur (cur.toList.take (o + es.length * 3) ++ [Value.int .i64 (10 + (es.length : Int)), .int .i64 f.1, .int .i64 f.2] ++ cur.toList.drop (o + es.length * 3 + [Value.int .i64 (10 + (es.length : Int)), .int .i64 f.1, .int .i64 f.2].length)).toArray 79 (0, 0) hcur
      refine ⟨_, _, hrun, .inr ⟨g, o, cap, _, by rw [hal], hbg, hh, by rw [hal]; exact hroom, hmax, ?_, fun k q hq => ?_⟩, ⟨rfl, rfl, rfl, by simp, fun k _ hk => setRow_other w g k _ (fun e => hk (by rw [e]; rfl))⟩, .inl rfl⟩
      · have ht : (cur.toList.take (o + es.length * 3)).length = o + es.length * 3 := by rw [List.length_take, hsz]; omega
        simp only [List.size_toArray, List.length_append, ht, List.length_drop, hsz, List.length_cons, List.length_nil]
        omega
      · have key : ∀ (j : Nat) (u : Value), (cur.toList.take (o + es.length * 3) ++ [Value.int .i64 (10 + (es.length : Int)), .int .i64 f.1, .int .i64 f.2] ++ cur.toList.drop (o + es.length * 3 + [Value.int .i64 (10 + (es.length : Int)), .int .i64 f.1, .int .i64 f.2].length))[j]? = some u → (w.setRow g (cur.toList.take (o + es.length * 3) ++ [Value.int .i64 (10 + (es.length : Int)), .int .i64 f.1, .int .i64 f.2] ++ cur.toList.drop (o + es.length * 3 + [Value.int .i64 (10 + (es.length : Int)), .int .i64 f.1, .int .i64 f.2].length)).toArray).cell? ⟨g, j, none⟩ = some u := by
          intro j u hj
          simp only [World.cell?, hh]
          simpa using hj
        have old : ∀ j u, j < o + es.length * 3 → w.cell? ⟨g, j, none⟩ = some u → (cur.toList.take (o + es.length * 3) ++ [Value.int .i64 (10 + (es.length : Int)), .int .i64 f.1, .int .i64 f.2] ++ cur.toList.drop (o + es.length * 3 + [Value.int .i64 (10 + (es.length : Int)), .int .i64 f.1, .int .i64 f.2].length))[j]? = some u := by
          intro j u hj hu
          simp only [World.cell?, hcur] at hu
          have ht : (cur.toList.take (o + es.length * 3)).length = o + es.length * 3 := by rw [List.length_take, hsz]; omega
          rw [List.append_assoc, List.getElem?_append_left (by omega), List.getElem?_take_of_lt hj]
          simpa using hu
        rw [prs_snoc] at hq
        by_cases hk : k < es.length
        · rw [List.getElem?_append_left (by rw [prs_len]; exact hk)] at hq
          obtain ⟨t0, t1, t2⟩ := hat k q hq
          exact ⟨key _ _ (old _ _ (by omega) t0), key _ _ (old _ _ (by omega) t1), key _ _ (old _ _ (by omega) t2)⟩
        · have hk2 : k = es.length := by
            have := (List.getElem?_eq_some_iff.1 hq).1
            rw [List.length_append, prs_len] at this
            simp at this; omega
          subst hk2
          rw [List.getElem?_append_right (by rw [prs_len]; exact Nat.le_refl _), prs_len, Nat.sub_self] at hq
          simp at hq
          subst hq
          have ht : (cur.toList.take (o + es.length * 3)).length = o + es.length * 3 := by rw [List.length_take, hsz]; omega
          refine ⟨key _ _ ?_, key _ _ ?_, key _ _ ?_⟩
          · rw [List.append_assoc, List.getElem?_append_right (by omega), ht, Nat.sub_self]; rfl
          · rw [List.append_assoc, List.getElem?_append_right (by omega), ht, show o + es.length * 3 + 1 - (o + es.length * 3) = 1 by omega]; rfl
          · rw [List.append_assoc, List.getElem?_append_right (by omega), ht, show o + es.length * 3 + 2 - (o + es.length * 3) = 2 by omega]; rfl
    · have hcl : (cellsM (prs es)).length = es.length * 3 := by rw [cellsM_len, prs_len]
      have holds : ∀ j u, (cellsM (prs es))[j]? = some u → w.cell? ((⟨g, o, none⟩ : Addr).add j) = some u := by
        intro j u hj
        have hjl := (List.getElem?_eq_some_iff.1 hj).1
        rw [hcl] at hjl
        have hk : j / 3 < (prs es).length := by rw [prs_len]; omega
        obtain ⟨a0, a1, a2⟩ := cellsM_at (prs es) (j / 3) _ (List.getElem?_eq_getElem hk)
        obtain ⟨t0, t1, t2⟩ := hat (j / 3) _ (List.getElem?_eq_getElem hk)
        rw [Addr.add_lit]
        have hc3 : j = j / 3 * 3 ∨ j = j / 3 * 3 + 1 ∨ j = j / 3 * 3 + 2 := by omega
        rcases hc3 with e | e | e
        · rw [← e] at a0; rw [hj] at a0; rw [show o + j = o + j / 3 * 3 by omega, t0, ← a0]
        · rw [← e] at a1; rw [hj] at a1; rw [show o + j = o + j / 3 * 3 + 1 by omega, t1, ← a1]
        · rw [← e] at a2; rw [hj] at a2; rw [show o + j = o + j / 3 * 3 + 2 by omega, t2, ← a2]
      obtain ⟨v', w', hrun, hrow, hg⟩ := run_append_arg_grows (P := P) w t ty 79 i _ 3 24 ht hi hz hsize hby rfl (by omega) ⟨g, o, none⟩ es.length cap (cellsM (prs es)) hcl holds ad 1 1 _ hnl hc (by omega) (by unfold maxLen; omega) (by omega)
      refine ⟨v', w', hrun, OwnP.of_row (by rw [hap, hal]; exact ownsRow_base hrow hb), ⟨hg.os, hg.tape, hg.output, hg.size, fun k hk _ => hg.block k hk (by simp)⟩, ?_⟩
      obtain ⟨g', c', rfl⟩ := ownsRow_succ hrow
      exact .inr ⟨g', rfl, (hrow.lt g' rfl).1⟩
theorem wpList_append_P {P : Program} (w : World) {ops : Array Oper} {rest : List Oper} {o : Oper} {a : Act} {Q : Exit → Act → World → Prop} (hgd : o.guard = none) (s x : Operand) (t : TypeId) (hop : o.op = Op.call { callee := Callee.builtin Builtin.append, args := #[s, x], argTypes := #[t, t] })
    (base : Nat) (hb : base ≤ w.heap.size) (i : TypeInfo) (ht : P.underlying t = some (.slice 79)) (hi : P.info? 79 = some i) (hz : i.zero = some (.agg #[.int .i64 0, .int .i64 0, .int .i64 0])) (hsize : i.size = 3) (hby : i.bytes = 24)
    (v : Value) (hs : a.eval s = v) (es : List (Int × Int)) (hm : OwnP w base v es) (hl : es.length ≤ 100) (ad : Addr) (hx : a.eval x = .slice (some ad) 1 1) (f : Int × Int) (hc : ∀ j u, [Value.int .i64 (10 + (es.length : Int)), .int .i64 f.1, .int .i64 f.2][j]? = some u → w.cell? (ad.add j) = some u)
    (hK : ∀ v' w', OwnP w' base v' (es ++ [f]) → w.grownBy w' v.ownBlock → (v'.ownBlock = v.ownBlock ∨ ∃ g, v'.ownBlock = some g ∧ w.heap.size ≤ g) → wpList P ops Q rest (a.put o.dst v') w') : wpList P ops Q (o :: rest) a w := by
  refine wpList_plain hgd fun K hK' => ?_
  obtain ⟨v', w', hrun, r1, r2, r3⟩ := run_append_P (P := P) w base hb t o.type i ht hi hz hsize hby v es hm hl ad f hc
  unfold Oper.wp
  simp [execOp, hop, resolve, invoke, builtin, hs, hx, hrun, Result.andThen]
  exact hK' _ _ (hK v' w' r1 r2 r3)

set_option maxRecDepth 8000 in
set_option maxHeartbeats 8000000 in
theorem lout_P (W : World) (base : Nat) (hB : base ≤ W.heap.size) (v : Value) (es : List (Int × Int)) (hg : GoodE es) (hrow : OwnP W base v es) (e : Int × Int) :
    Calls Tryz.prog 75 #[v, endV e.1 e.2] W fun r W' => ∃ v', r = .returned (.tuple #[v', .int .i64 (outE es e).2.1, .bool (outE es e).2.2]) ∧ OwnP W' base v' (outE es e).1 ∧ Below base W W' ∧ Gr W W' v v' ∧ ((outE es e).2.2 = false → Below W.heap.size W W') := by
  obtain ⟨i0, hi, hz0, hz1, hz2⟩ := info_parts infoM
  have h8 := hg.len
  have hM : IsM W v (prs es) := hrow.isM
  obtain ⟨a, c, hv⟩ := isM_slice hM
  rw [prs_len] at hv
  subst hv
  have bA : Below W.heap.size W (W.alloc (.cells #[.int .i64 e.1, .int .i64 e.2] 77)) := (Below.refl _ _).alloc (Nat.le_refl _) _
  go_enter Tryz.func75, Tryz.ntmps75
  go_wp2
  go_loopw [7] (fun i wr => ∃ k n : Nat, k ≤ es.length ∧ i = .int .i64 k ∧ (∀ (l : Nat) (f : Int × Int), l < k → es[l]? = some f → f ≠ e) ∧ wr = (W.alloc (.cells #[.int .i64 e.1, .int .i64 e.2] 77)).drewN n) (fun i wr => es.length - (intOf i).toNat)
  case atStart => exact ⟨0, 0, Nat.zero_le _, rfl, fun l f hl => by omega, rfl⟩
  case round =>
    obtain ⟨k, n, hk, rfl, hno, hwr⟩ := hrel
    have hb : Below W.heap.size W wr := by rw [hwr]; exact bA.trans (below_drewN _ _ _)
    have c0 : wr.cell? ⟨W.heap.size, 0, none⟩ = some (.int .i64 e.1) := by rw [hwr]; simp
    have c1 : wr.cell? ⟨W.heap.size, 1, none⟩ = some (.int .i64 e.2) := by rw [hwr]; simp
    have hrow2 : OwnP wr base (.slice a es.length c) es := hrow.below hb
    have hsz : W.heap.size < wr.heap.size := by rw [hwr]; simp [World.drewN]
    have HW : Hid (wr = (W.alloc (.cells #[.int .i64 e.1, .int .i64 e.2] 77)).drewN n) := hwr
    clear hwr
    by_cases hkl : k < es.length
    · have hkl' : (k : Int) < (es.length : Int) := by omega
      have hf : es[k]? = some es[k] := List.getElem?_eq_getElem hkl
      have hp : (prs es)[k]? = some (10 + (k : Int), es[k]) := by rw [prs_at, hf]; rfl
      obtain ⟨g, o, rfl, hnn, hc1, hc2, hat⟩ := isM_at (hM.below hb) k _ hp
      rw [prs_len] at hc1
      clear hnn
      generalize es[k] = f at hf hp hat
      obtain ⟨q0, q1, q2⟩ := hat
      obtain ⟨fa, fp⟩ := f
      obtain ⟨ea, ep⟩ := e
      simp only at q0 q1 q2 c0 c1
      by_cases he : fa = ea ∧ fp = ep
      · obtain ⟨rfl, rfl⟩ := he
        have hm : (fa, fp) ∈ es := List.mem_of_getElem? hf
        have hout : Hid (outE es (fa, fp) = (es, 10 + (k : Int), true)) := by
          show outE es (fa, fp) = _
          rw [outE_has es _ hm, idx_uniq es hg.nd _ k hf]
        clear hno hM hp hf
        go_wp2_with fail
        go_quiet (fail)
        go_wp2_with fail
        go_quiet (fail)
        go_wp2
        refine bodyPost_ret (v := .tuple #[.slice (some ⟨g, o, none⟩) es.length c, .int .i64 (10 + (k : Int)), .bool true]) (by simp [results, Tryz.results75, go_sem]) rfl ?_
        rw [hout.out]
        exact ⟨_, rfl, hrow2, (hb.mono hB).trans ((below_drewN _ _ _).trans (below_drewN _ _ _)), ⟨grown_of (hb.trans ((below_drewN _ _ _).trans (below_drewN _ _ _))) _, .inl rfl⟩, fun h => by cases h⟩
      · have hno2 : ∀ (l : Nat) (f : Int × Int), l < k + 1 → es[l]? = some f → f ≠ (ea, ep) := by
          intro l q hl hql
          by_cases e : l = k
          · subst e; rw [hf] at hql; obtain rfl := Option.some.inj hql
            intro h; simp at h; exact he h
          · exact hno l q (by omega) hql
        clear hno hM hp hf hrow2
        by_cases h1 : fa = ea
        · have h2 : (fp == ep) = false := by simp; exact fun h => he ⟨h1, h⟩
          subst h1
          go_wp2_with fail
          go_quiet (fail)
          go_wp2
          go_roundw
          case rel => exact ⟨k + 1, n + nq, by omega, by go_num, hno2, by rw [HW.out, dd]⟩
          case measure => simp [intOf]; omega
        · have h2 : (fa == ea) = false := by simp; exact h1
          go_wp2_with fail
          go_quiet (fail)
          go_wp2
          go_roundw
          case rel => exact ⟨k + 1, n + nq, by omega, by go_num, hno2, by rw [HW.out, dd]⟩
          case measure => simp [intOf]; omega
    · have hge : (es.length : Int) ≤ (k : Int) := by omega
      have hnm : e ∉ es := by
        intro hm
        obtain ⟨l, hl⟩ := List.mem_iff_getElem?.1 hm
        have := (List.getElem?_eq_some_iff.1 hl).1
        exact hno l e (by omega) hl rfl
      by_cases hl : es.length < 8
      · have hl' : (es.length : Int) ≤ 7 := by omega
        have hout : Hid (outE es e = (es ++ [e], 10 + (es.length : Int), true)) := outE_new es e hnm hl
        clear hno hM
        go_wp2_with (at_builtin; refine wpList_append_P _ rfl _ _ 23 rfl base (by simp; omega) i0 Tryz.underlying23 hi hz0 hz1 hz2 _ rfl es (hrow2.alloc _) (by omega) ⟨wr.heap.size, 0, none⟩ rfl e (three_at _ _ _ _ _ _ rfl) ?_; intro v' w2 hown' hgrow hwh)
        refine bodyPost_ret (v := .tuple #[v', .int .i64 (10 + (es.length : Int)), .bool true]) (by simp [results, Tryz.results75, go_sem]) rfl ?_
        rw [hout.out]
        refine ⟨_, rfl, ?_, (hb.mono hB).trans (((Below.refl _ _).alloc (by omega) _).trans (grown_below hgrow (by simp; omega) (fun k hk => (hrow2.lt k hk).1))), ⟨grown_trans (grown_of (hb.alloc hb.size _) _) hgrow, ?_⟩, fun h => by cases h⟩
        · exact hown'
        · rcases hwh with q | ⟨g, q, hq⟩
          · exact .inl q
          · exact .inr ⟨g, q, by have := hb.size; simp at hq; omega⟩
      · have hl' : (7 : Int) < (es.length : Int) := by omega
        have hout : Hid (outE es e = (es, 0, false)) := outE_full es e hnm (by omega)
        clear hno hM
        go_wp2
        refine bodyPost_ret (v := .tuple #[.slice a es.length c, .int .i64 0, .bool false]) (by simp [results, Tryz.results75, go_sem]) rfl ?_
        rw [hout.out]
        exact ⟨_, rfl, hrow2, hb.mono hB, ⟨grown_of hb _, .inl rfl⟩, fun _ => hb⟩
end Go.Proofs.YtihhegjkliolhaaGreatDoor.Ms

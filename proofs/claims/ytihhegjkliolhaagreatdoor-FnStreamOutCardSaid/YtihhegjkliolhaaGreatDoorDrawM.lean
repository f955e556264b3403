/- Walks: pairs that are drawn from a code. Of what is drawn no more is said than that it is short, and its numbers small. -/
import Derived.Test.YtihhegjkliolhaaGreatDoorRdDr
import Derived.Test.YtihhegjkliolhaaGreatDoorMo
namespace Go.Proofs.YtihhegjkliolhaaGreatDoor.DrawM
open Go.RowKit Go.Proofs.YtihhegjkliolhaaGreatDoor.Kit Go.Proofs.YtihhegjkliolhaaGreatDoor.Rd Go.Proofs.YtihhegjkliolhaaGreatDoor.Draw Go.Proofs.YtihhegjkliolhaaGreatDoor.Mp Go.Proofs.YtihhegjkliolhaaGreatDoor.Mm Go.Proofs.YtihhegjkliolhaaGreatDoor.App Go.Proofs.YtihhegjkliolhaaGreatDoor.Ms
set_option linter.unusedSimpArgs false
set_option linter.unusedVariables false

theorem rd_base {w wr w' : World} {b : Nat} {a : Option Addr} {len cap : Nat} {z : Nat → Int} {p0 p : Nat} (h0 : Rd w b a len cap z p0) (r : Rd wr b a len cap z p) (k : Below w.heap.size wr w') : Rd w' b a len cap z p := by
  have hb : b < w.heap.size := blk h0.c0
  refine ⟨(k.cell (p := ⟨b, 0, none⟩) hb).trans r.c0, (k.cell (p := ⟨b, 1, none⟩) hb).trans r.c1, (k.frozen (p := ⟨b, 1, none⟩) hb).trans r.f1, ?_, r.small, r.val⟩
  rcases r.row with e | ⟨xb, xo, ea, hx, hc⟩
  · exact .inl e
  · refine .inr ⟨xb, xo, ea, hx, fun i hi => ?_⟩
    rcases h0.row with e | ⟨yb, yo, ea', _, hc'⟩
    · omega
    · rw [ea] at ea'
      simp at ea'
      obtain ⟨rfl, rfl⟩ := ea'
      have hl : xb < w.heap.size := blk (hc' i hi)
      exact (k.cell (p := ⟨xb, xo + i, none⟩) hl).trans (hc i hi)
theorem aside_base {b : Nat} {w wr w' : World} (h : Aside b w wr) (k : Below w.heap.size wr w') : Aside b w w' :=
  ⟨k.os.trans h.os, k.tape.trans h.tape, k.output.trans h.output, Nat.le_trans h.size k.size, fun i hi hb => (k.block i hi).trans (h.block i hi hb)⟩
theorem row_but {w w' : World} {base e s n b : Nat} {v : Value} {xs : List Value} (h : w.ownsRow base e s v n xs) (k : But b w w') (hb : b < base) : w'.ownsRow base e s v n xs := by
  refine h.kept (row := some b) ⟨k.os, k.tape, k.output, by rw [k.size]; exact Nat.le_refl _, fun i _ hi => k.block i (fun q => hi (by rw [q]))⟩ ?_
  cases q : v.ownBlock with
  | none => exact .inl rfl
  | some g =>
    refine .inr fun e => ?_
    have := (h.lt g q).1
    simp at e; omega
theorem row_aside {w w' : World} {base e s n b : Nat} {v : Value} {xs : List Value} (h : w.ownsRow base e s v n xs) (k : Aside b w w') (hb : b < base) : w'.ownsRow base e s v n xs := by
  refine h.kept (row := some b) ⟨k.os, k.tape, k.output, k.size, fun i hi hn => k.block i hi (fun q => hn (by rw [q]))⟩ ?_
  cases q : v.ownBlock with
  | none => exact .inl rfl
  | some g =>
    refine .inr fun e => ?_
    have := (h.lt g q).1
    simp at e; omega
theorem isM_aside {w w' : World} {b : Nat} {v : Value} {m : List (Int × Int × Int)} (h : IsM w v m) (k : Aside b w w') (hv : ∀ g o n c, v = .slice (some ⟨g, o, none⟩) n c → g ≠ b) : IsM w' v m := by
  rcases h with h | ⟨g, o, cap, rfl, h2, h3, h5, h4⟩
  · exact .inl h
  · exact .inr ⟨g, o, cap, rfl, h2, h3, Nat.lt_of_lt_of_le h5 k.size, fun i p hp => (h4 i p hp).same (k.block g h5 (hv g o _ _ rfl))⟩

/-- numbers of pairs that are small -/
def Small (m : List (Int × Int × Int)) : Prop := ∀ p ∈ m, (-100 ≤ p.1 ∧ p.1 ≤ 100) ∧ (-100 ≤ p.2.1 ∧ p.2.1 ≤ 100) ∧ (-100 ≤ p.2.2 ∧ p.2.2 ≤ 100)
theorem small_prs (es : List (Int × Int)) (hg : GoodE es) : Small (prs es) := by
  intro p hp
  obtain ⟨i, hi⟩ := List.mem_iff_getElem?.1 hp
  rw [prs_at] at hi
  cases q : es[i]? with
  | none => rw [q] at hi; cases hi
  | some e =>
    rw [q] at hi
    simp at hi
    subst hi
    have hl := (List.getElem?_eq_some_iff.1 q).1
    have h8 := hg.len
    have hb := inB_bd e (hg.ins e (List.mem_of_getElem? q))
    refine ⟨⟨?_, ?_⟩, ⟨?_, ?_⟩, ⟨?_, ?_⟩⟩ <;> simp <;> omega

/-- pairs that were drawn lie in new memory -/
def NewM (B : Nat) (v : Value) : Prop := ∀ g o n c, v = .slice (some ⟨g, o, none⟩) n c → B ≤ g

theorem newM_row {W : World} {base e s n : Nat} {v : Value} {xs : List Value} (h : W.ownsRow base e s v n xs) : NewM base v := by
  intro g o n' c hv
  rcases h.2 with ⟨rfl, _⟩ | ⟨g', cap, cur, rfl, hb, _⟩
  · cases hv
  · simp at hv
    obtain ⟨⟨rfl, _⟩, _⟩ := hv
    exact hb

set_option maxRecDepth 8000 in
set_option maxHeartbeats 8000000 in
theorem map_any (b : Nat) (a : Option Addr) (len cap : Nat) (z : Nat → Int) (p : Nat) (w : World) (h : Rd w b a len cap z p) (hp : p ≤ 1000000) :
    Calls Tryz.prog 50 #[.pointer (some ⟨b, 0, none⟩)] w fun e w' => ∃ v m p', e = .returned v ∧ IsM w' v m ∧ m.length ≤ 9 ∧ Small m ∧ NewM w.heap.size v ∧ p' ≤ p + 100 ∧ Rd w' b a len cap z p' ∧ Aside b w w' := by
  obtain ⟨i0, hi, hz0, hz1, hz2⟩ := info_parts infoM
  have hb : b < w.heap.size := blk h.c0
  have bA : Below w.heap.size w (w.alloc (.cells #[] 79)) := (Below.refl _ _).alloc (Nat.le_refl _) _
  have hnew := World.ownsRow_made (base := w.heap.size) (e := 79) (size := 3) w #[] 0 (Nat.le_refl _) (Nat.zero_le _) rfl
  go_enter Tryz.func50, Tryz.ntmps50
  go_wp2_with fail
  refine (pick_any b a len cap z p _ _ (h.below bA) (by omega) (by omega)).mono ?_
  rintro e w1 ⟨v, rfl, hv0, hv1, r1, k1⟩
  obtain ⟨m, rfl⟩ := Int.eq_ofNat_of_zero_le hv0
  have hm9 : m ≤ 9 := by omega
  have s1 : Aside b w w1 := (Aside.ofBelow bA).but k1
  have hnew1 := row_but hnew k1 hb
  clear hnew k1
  go_wp2
  go_loopw [3, 4] (fun s i wr => ∃ (k : Nat) (es : List (Int × Int)) (p' : Nat), k ≤ m ∧ i = .int .i64 k ∧ GoodE es ∧ wr.ownsRow w.heap.size 79 3 s es.length (cellsM (prs es)) ∧ p' + 2 * k ≤ p + 1 + 2 * m ∧ Rd wr b a len cap z p' ∧ Aside b w wr) (fun s i wr => (intOf i).toNat)
  case atStart => exact ⟨m, [], p + 1, Nat.le_refl _, rfl, GoodE.nil, hnew1, Nat.le_refl _, r1, s1⟩
  case round =>
    obtain ⟨k, es, p', hk, rfl, hg, hrow, hp', r, sd⟩ := hrel
    by_cases h0 : 0 < k
    · have h0' : (0 : Int) < k := by omega
      go_wp2_with fail
      refine (pick_any b a len cap z p' _ _ r (by omega) (by omega)).mono ?_
      rintro e w2 ⟨x, rfl, hx0, hx1, r2, k2⟩
      have hrow2 := row_but hrow k2 hb
      have s2 := sd.but k2
      clear k2 r hrow sd
      go_wp2_with fail
      refine (pick_any b a len cap z (p' + 1) _ _ r2 (by omega) (by omega)).mono ?_
      rintro e w3 ⟨y, rfl, hy0, hy1, r3, k3⟩
      have hrow3 := row_but hrow2 k3 hb
      have s3 := s2.but k3
      clear k3 r2 hrow2 s2
      go_wp2_with fail
      refine (lout_any _ w.heap.size s3.size _ es hg hrow3 (1 + x, 1 + y)).mono ?_
      rintro e w4 ⟨v4, rfl, hrow4, k4⟩
      have r4 := rd_base h r3 k4
      have s4 := aside_base s3 k4
      have hg4 := outE_good es (1 + x, 1 + y) hg (inB_mk _ _ (by omega))
      clear k4 r3 hrow3 s3
      go_wp2
      go_roundw
      case rel => exact ⟨k - 1, _, p' + 1 + 1, by omega, by go_num, hg4, hrow4, by omega, r4, s4⟩
      case measure => simp [intOf]; omega
    · have h0' : (k : Int) ≤ 0 := by omega
      have h8 := hg.len
      have hsm := small_prs es hg
      go_wp2_with fail
      refine (pick_any b a len cap z p' _ _ r (by omega) (by omega)).mono ?_
      rintro e w2 ⟨x, rfl, hx0, hx1, r2, k2⟩
      have hrow2 := row_but hrow k2 hb
      have s2 := sd.but k2
      clear k2 r hrow sd
      by_cases x0 : x = 0
      · subst x0
        go_wp2_with fail
        refine (pick_any b a len cap z (p' + 1) _ _ r2 (by omega) (by omega)).mono ?_
        rintro e w3 ⟨y, rfl, hy0, hy1, r3, k3⟩
        have hrow3 := row_but hrow2 k3 hb
        have s3 := s2.but k3
        clear k3 r2 hrow2 s2
        go_wp2_with fail
        refine (l71_any b a len cap z (p' + 1 + 1) _ r3 (by omega)).mono ?_
        rintro e w4 ⟨ex, ey, p4, rfl, hxy, hp4, r4, k4⟩
        have hrow4 := row_aside hrow3 k4 hb
        have s4 := s3.trans k4
        clear k4 r3 hrow3 s3
        go_wp2_with (at_builtin; refine wpList_append_own_at _ rfl _ _ 23 rfl w.heap.size 79 i0 (.agg #[.int .i64 0, .int .i64 0, .int .i64 0]) 3 24 Tryz.underlying23 hi hz0 hz1 hz2 rfl (by decide) _ _ _ rfl (hrow4.alloc _) ⟨w4.heap.size, 0, none⟩ 1 1 [.int .i64 (10 + y), .int .i64 ex, .int .i64 ey] rfl rfl (three_at _ _ _ _ _ _ rfl) (by simp [Value.oneCell']) (by unfold maxLen; omega) (by omega) (by have := s4.size; simp; omega) ?_; intro v' w5 hown' hgrow _ _)
        go_ret
        have hz4 := s4.size
        have k5 : Below w.heap.size w4 w5 := ((Below.refl _ _).alloc hz4 _).trans (grown_below hgrow (by simp; omega) (fun k hk => (hrow4.lt k hk).1))
        refine ⟨v', prs es ++ [(10 + y, ex, ey)], p4, rfl, isM_of_row (by rw [cellsM_snoc, List.length_append, prs_len]; exact hown'), by rw [List.length_append, prs_len]; simp; omega, ?_, newM_row hown', by omega, rd_base h r4 k5, aside_base s4 k5⟩
        intro q hq
        rw [List.mem_append] at hq
        rcases hq with hq | hq
        · exact hsm q hq
        · simp at hq; subst hq
          refine ⟨⟨?_, ?_⟩, ⟨?_, ?_⟩, ⟨?_, ?_⟩⟩ <;> simp <;> omega
      · have x0' : (x == 0) = false := by simpa using x0
        by_cases x1 : x = 1
        · subst x1
          rcases hrow2.2 with ⟨rfl, h0⟩ | ⟨g, cp, cur, rfl, hbg, hgg, hnc, hcm, _, _⟩
          · go_wp2
            go_ret
            exact ⟨_, prs es, p' + 1, rfl, isM_of_row (by rw [prs_len]; exact hrow2), by rw [prs_len]; omega, hsm, newM_row hrow2, by omega, r2, s2⟩
          · by_cases hl0 : es.length = 0
            · obtain rfl : es = [] := List.length_eq_zero_iff.1 hl0
              go_wp2
              go_ret
              exact ⟨_, prs [], p' + 1, rfl, isM_of_row (by rw [prs_len]; exact hrow2), by rw [prs_len]; omega, hsm, newM_row hrow2, by omega, r2, s2⟩
            · have hl0' : (0 : Int) < (es.length : Int) := by omega
              clear hgg
              go_wp2_with fail
              refine (pick_any b a len cap z (p' + 1) _ _ r2 (by omega) (by omega)).mono ?_
              rintro e w3 ⟨y, rfl, hy0, hy1, r3, k3⟩
              obtain ⟨j, rfl⟩ := Int.eq_ofNat_of_zero_le hy0
              have hrow3 := row_but hrow2 k3 hb
              have s3 := s2.but k3
              clear k3 r2 hrow2 s2
              go_wp2_with fail
              refine (l71_any b a len cap z (p' + 1 + 1) _ r3 (by omega)).mono ?_
              rintro e w4 ⟨ex, ey, p4, rfl, hxy, hp4, r4, k4⟩
              have hrow4 := row_aside hrow3 k4 hb
              have s4 := s3.trans k4
              clear k4 r3 hrow3 s3
              have hjl : j < es.length := by omega
              have hxl : (cellsM (prs es)).length = es.length * 3 := by rw [cellsM_len, prs_len]
              obtain ⟨u1, hu1⟩ : ∃ u, (cellsM (prs es))[j * 3 + 1]? = some u := ⟨_, List.getElem?_eq_getElem (by omega)⟩
              obtain ⟨u2, hu2⟩ : ∃ u, (cellsM (prs es))[j * 3 + 2]? = some u := ⟨_, List.getElem?_eq_getElem (by omega)⟩
              have c1 := (hrow4.cellAt (j * 3 + 1) (by omega)).trans hu1
              have c2 := (hrow4.cellAt (j * 3 + 2) (by omega)).trans hu2
              have g1 := hrow4.frozenAt (j * 3 + 1)
              have g2 := hrow4.frozenAt (j * 3 + 2)
              have HR : Hid (w4.ownsRow w.heap.size 79 3 (.slice (some ⟨g, 0, none⟩) es.length cp) es.length (cellsM (prs es))) := hrow4
              clear hrow4 hu1 hu2 hxl
              go_wp2
              go_ret
              have q1 := HR.out.stored (j * 3 + 1) (.int .i64 ex)
              have q2 := q1.1.stored (j * 3 + 2) (.int .i64 ey)
              have hr5 := q2.1
              have k5 : Below w.heap.size w4 ((w4.setCell ⟨g, j * 3 + 1, none⟩ (.int .i64 ex)).setCell ⟨g, j * 3 + 2, none⟩ (.int .i64 ey)) := ((Below.refl _ _).setCell (p := ⟨g, j * 3 + 1, none⟩) hbg _).setCell (p := ⟨g, j * 3 + 2, none⟩) hbg _
              refine ⟨.slice (some ⟨g, 0, none⟩) es.length cp, (prs es).modify j (fun q => (q.1, ex, ey)), p4, rfl, .inr ⟨g, 0, cp, by rw [List.length_modify, prs_len], by rw [List.length_modify, prs_len]; exact hnc, hcm, (hr5.lt g rfl).2, fun i q hq => ?_⟩, by rw [List.length_modify, prs_len]; omega, ?_, newM_row hr5, by omega, rd_base h r4 k5, aside_base s4 k5⟩
              · rw [List.getElem?_modify] at hq
                have hil : i < es.length := by
                  cases e : (prs es)[i]? with
                  | none => rw [e] at hq; cases hq
                  | some _ => have := (List.getElem?_eq_some_iff.1 e).1; rwa [prs_len] at this
                have hip : i < (prs es).length := by rw [prs_len]; exact hil
                have hp0 : (prs es)[i]? = some (prs es)[i] := List.getElem?_eq_getElem hip
                obtain ⟨t0, t1, t2⟩ := cellsM_at (prs es) i _ hp0
                generalize (prs es)[i] = r0 at hp0 t0 t1 t2
                rw [hp0] at hq
                rw [Nat.zero_add]
                have hL : (cellsM (prs es)).length = es.length * 3 := by rw [cellsM_len, prs_len]
                refine ⟨(hr5.cellAt (i * 3) (by omega)).trans ?_, (hr5.cellAt (i * 3 + 1) (by omega)).trans ?_, (hr5.cellAt (i * 3 + 2) (by omega)).trans ?_⟩
                · rw [List.getElem?_set_ne (by omega), List.getElem?_set_ne (by omega), t0]
                  split at hq <;> (simp at hq; rw [← hq])
                · rw [List.getElem?_set_ne (by omega)]
                  by_cases e : j = i
                  · subst e
                    rw [List.getElem?_set_self (by omega)]
                    simp at hq; rw [← hq]
                  · rw [List.getElem?_set_ne (by omega), t1]
                    simp [e] at hq; rw [← hq]
                · by_cases e : j = i
                  · subst e
                    rw [List.getElem?_set_self (by simp; omega)]
                    simp at hq; rw [← hq]
                  · rw [List.getElem?_set_ne (by omega), List.getElem?_set_ne (by omega), t2]
                    simp [e] at hq; rw [← hq]
              · intro q hq
                obtain ⟨i, hi⟩ := List.mem_iff_getElem?.1 hq
                rw [List.getElem?_modify] at hi
                cases e : (prs es)[i]? with
                | none => rw [e] at hi; cases hi
                | some r0 =>
                  rw [e] at hi
                  have hs := hsm r0 (List.mem_of_getElem? e)
                  by_cases e2 : j = i
                  · simp [e2] at hi
                    subst hi
                    refine ⟨hs.1, ⟨?_, ?_⟩, ⟨?_, ?_⟩⟩ <;> simp <;> omega
                  · simp [e2] at hi
                    subst hi; exact hs
        · have x1' : (x == 1) = false := by simpa using x1
          by_cases x2 : x = 2
          · subst x2
            rcases hrow2.2 with ⟨rfl, h0⟩ | ⟨g, cp, cur, rfl, hbg, hgg, hnc, hcm, _, _⟩
            · go_wp2
              go_ret
              exact ⟨_, prs es, p' + 1, rfl, isM_of_row (by rw [prs_len]; exact hrow2), by rw [prs_len]; omega, hsm, newM_row hrow2, by omega, r2, s2⟩
            · by_cases hl0 : es.length = 0
              · obtain rfl : es = [] := List.length_eq_zero_iff.1 hl0
                go_wp2
                go_ret
                exact ⟨_, prs [], p' + 1, rfl, isM_of_row (by rw [prs_len]; exact hrow2), by rw [prs_len]; omega, hsm, newM_row hrow2, by omega, r2, s2⟩
              · have hl0' : (0 : Int) < (es.length : Int) := by omega
                clear hgg
                have hI : IsM w2 (.slice (some ⟨g, 0, none⟩) es.length cp) (prs es) := isM_of_row (by rw [prs_len]; exact hrow2)
                have hlt := (hrow2.lt g rfl).2
                have hdl : ((prs es).drop 1).length = es.length - 1 := by rw [List.length_drop, prs_len]
                have hsm2 : Small ((prs es).drop 1) := fun q hq => hsm q (List.mem_of_mem_drop hq)
                by_cases hc1 : cp = 1
                · subst hc1
                  have hnil : (prs es).drop 1 = [] := List.length_eq_zero_iff.1 (by rw [hdl]; omega)
                  clear hrow2 hI
                  go_wp2
                  go_ret
                  refine ⟨.slice (some ⟨g, 0, none⟩) 0 0, [], p' + 1, ?_, .inr ⟨g, 0, 0, rfl, Nat.zero_le _, Nat.zero_le _, hlt, ?_⟩, Nat.zero_le _, ?_, ?_, by omega, r2, s2⟩
                  · rfl
                  · intro i q hq; simp at hq
                  · intro q hq; simp at hq
                  · intro g' o n c e; simp at e; omega
                · clear hrow2
                  go_wp2
                  go_ret
                  refine ⟨.slice (some ⟨g, 3, none⟩) (es.length - 1) (cp - 1), (prs es).drop 1, p' + 1, rfl, .inr ⟨g, 3, cp - 1, by rw [hdl], by rw [hdl]; omega, by omega, hlt, fun i q hq => ?_⟩, by rw [hdl]; omega, hsm2, fun g' o n c e => by simp at e; omega, by omega, r2, s2⟩
                  rw [List.getElem?_drop] at hq
                  obtain ⟨_, _, ea, _, _, _, hat⟩ := isM_at hI (1 + i) q hq
                  simp at ea
                  obtain ⟨rfl, rfl⟩ := ea
                  rw [show 3 + i * 3 = 0 + (1 + i) * 3 by omega]; exact hat
          · have x2' : (x == 2) = false := by simpa using x2
            go_wp2
            go_ret
            exact ⟨_, prs es, p' + 1, rfl, isM_of_row (by rw [prs_len]; exact hrow2), by rw [prs_len]; omega, hsm, newM_row hrow2, by omega, r2, s2⟩

end Go.Proofs.YtihhegjkliolhaaGreatDoor.DrawM

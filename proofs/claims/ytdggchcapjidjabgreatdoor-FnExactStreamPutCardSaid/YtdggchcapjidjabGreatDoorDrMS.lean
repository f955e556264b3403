/- Walks: pairs that are drawn from a code. Of what is drawn no more is said than that it is short, and its numbers small. -/
import Derived.Test.YtdggchcapjidjabGreatDoorRdDr
import Derived.Test.YtdggchcapjidjabGreatDoorMmOp
import Derived.Test.YtdggchcapjidjabGreatDoorTxts
import Derived.Test.YtdggchcapjidjabGreatDoorSpSs
namespace Go.Proofs.YtdggchcapjidjabGreatDoor.DrawM
open Go.RowKit Go.Proofs.YtdggchcapjidjabGreatDoor.Kit Go.Proofs.YtdggchcapjidjabGreatDoor.Rd Go.Proofs.YtdggchcapjidjabGreatDoor.Draw Go.Proofs.YtdggchcapjidjabGreatDoor.Mp Go.Proofs.YtdggchcapjidjabGreatDoor.Mm Go.Proofs.YtdggchcapjidjabGreatDoor.App Go.Proofs.YtdggchcapjidjabGreatDoor.Ms
set_option linter.unusedSimpArgs false
set_option linter.unusedVariables false

theorem rd_base {w wr w' : World} {b : Nat} {a : Option Addr} {len cap : Nat} {z : Nat → Int} {p0 p : Nat} (h0 : Rd w b a len cap z p0) (r : Rd wr b a len cap z p) (k : Below w.heap.size wr w') : Rd w' b a len cap z p := by
  have hb : b < w.heap.size := blk h0.c0
  refine ⟨(k.cell (p := ⟨b, 0, none⟩) hb).trans r.c0, (k.cell (p := ⟨b, 1, none⟩) hb).trans r.c1, (k.frozen (p := ⟨b, 1, none⟩) hb).trans r.f1, ?_, r.small, r.val⟩
  rcases r.row with e | ⟨xb, xo, ea, hx, hc⟩
  · exact .inl e
  · refine .inr ⟨xb, xo, ea, hx, fun i hi => ?_⟩
    rcases h0.row with e | ⟨yb, yo, ea', _, hc'⟩
    · omega
    · rw [ea] at ea'
      simp at ea'
      obtain ⟨rfl, rfl⟩ := ea'
      have hl : xb < w.heap.size := blk (hc' i hi)
      exact (k.cell (p := ⟨xb, xo + i, none⟩) hl).trans (hc i hi)
theorem aside_base {b : Nat} {w wr w' : World} (h : Aside b w wr) (k : Below w.heap.size wr w') : Aside b w w' :=
  ⟨k.os.trans h.os, k.tape.trans h.tape, k.output.trans h.output, Nat.le_trans h.size k.size, fun i hi hb => (k.block i hi).trans (h.block i hi hb)⟩
theorem row_but {w w' : World} {base e s n b : Nat} {v : Value} {xs : List Value} (h : w.ownsRow base e s v n xs) (k : But b w w') (hb : b < base) : w'.ownsRow base e s v n xs := by
  refine h.kept (row := some b) ⟨k.os, k.tape, k.output, by rw [k.size]; exact Nat.le_refl _, fun i _ hi => k.block i (fun q => hi (by rw [q]))⟩ ?_
  cases q : v.ownBlock with
  | none => exact .inl rfl
  | some g =>
    refine .inr fun e => ?_
    have := (h.lt g q).1
    simp at e; omega
theorem row_aside {w w' : World} {base e s n b : Nat} {v : Value} {xs : List Value} (h : w.ownsRow base e s v n xs) (k : Aside b w w') (hb : b < base) : w'.ownsRow base e s v n xs := by
  refine h.kept (row := some b) ⟨k.os, k.tape, k.output, k.size, fun i hi hn => k.block i hi (fun q => hn (by rw [q]))⟩ ?_
  cases q : v.ownBlock with
  | none => exact .inl rfl
  | some g =>
    refine .inr fun e => ?_
    have := (h.lt g q).1
    simp at e; omega
theorem isM_aside {w w' : World} {b : Nat} {v : Value} {m : List (Int × Int × Int)} (h : IsM w v m) (k : Aside b w w') (hv : ∀ g o n c, v = .slice (some ⟨g, o, none⟩) n c → g ≠ b) : IsM w' v m := by
  rcases h with h | ⟨g, o, cap, rfl, h2, h3, h5, h4⟩
  · exact .inl h
  · exact .inr ⟨g, o, cap, rfl, h2, h3, Nat.lt_of_lt_of_le h5 k.size, fun i p hp => (h4 i p hp).same (k.block g h5 (hv g o _ _ rfl))⟩

/-- numbers of pairs that are small -/
def Small (m : List (Int × Int × Int)) : Prop := ∀ p ∈ m, (-100 ≤ p.1 ∧ p.1 ≤ 100) ∧ (-100 ≤ p.2.1 ∧ p.2.1 ≤ 100) ∧ (-100 ≤ p.2.2 ∧ p.2.2 ≤ 100)
theorem small_prs (es : List (Int × Int)) (hg : GoodE es) : Small (prs es) := by
  intro p hp
  obtain ⟨i, hi⟩ := List.mem_iff_getElem?.1 hp
  rw [prs_at] at hi
  cases q : es[i]? with
  | none => rw [q] at hi; cases hi
  | some e =>
    rw [q] at hi
    simp at hi
    subst hi
    have hl := (List.getElem?_eq_some_iff.1 q).1
    have h8 := hg.len
    have hb := inB_bd e (hg.ins e (List.mem_of_getElem? q))
    refine ⟨⟨?_, ?_⟩, ⟨?_, ?_⟩, ⟨?_, ?_⟩⟩ <;> simp <;> omega

/-- pairs that were drawn lie in new memory -/
def NewM (B : Nat) (v : Value) : Prop := ∀ g o n c, v = .slice (some ⟨g, o, none⟩) n c → B ≤ g

theorem newM_row {W : World} {base e s n : Nat} {v : Value} {xs : List Value} (h : W.ownsRow base e s v n xs) : NewM base v := by
  intro g o n' c hv
  rcases h.2 with ⟨rfl, _⟩ | ⟨g', cap, cur, rfl, hb, _⟩
  · cases hv
  · simp at hv
    obtain ⟨⟨rfl, _⟩, _⟩ := hv
    exact hb

set_option maxRecDepth 8000 in
set_option maxHeartbeats 8000000 in
theorem map_any (b : Nat) (a : Option Addr) (len cap : Nat) (z : Nat → Int) (p : Nat) (w : World) (h : Rd w b a len cap z p) (hp : p ≤ 1000000) :
    Calls Tryz.prog 53 #[.pointer (some ⟨b, 0, none⟩)] w fun e w' => ∃ v m p', e = .returned v ∧ IsM w' v m ∧ m.length ≤ 9 ∧ Small m ∧ NewM w.heap.size v ∧ p' ≤ p + 100 ∧ Rd w' b a len cap z p' ∧ Aside b w w' := by
  obtain ⟨i0, hi, hz0, hz1, hz2⟩ := info_parts infoM
  have hb : b < w.heap.size := blk h.c0
  have bA : Below w.heap.size w (w.alloc (.cells #[] 83)) := (Below.refl _ _).alloc (Nat.le_refl _) _
  have hnew := World.ownsRow_made (base := w.heap.size) (e := 83) (size := 3) w #[] 0 (Nat.le_refl _) (Nat.zero_le _) rfl
  go_enter Tryz.func53, Tryz.ntmps53
  go_wp2_with fail
  refine (pick_any b a len cap z p _ _ (h.below bA) (by omega) (by omega)).mono ?_
  rintro e w1 ⟨v, rfl, hv0, hv1, r1, k1⟩
  obtain ⟨m, rfl⟩ := Int.eq_ofNat_of_zero_le hv0
  have hm9 : m ≤ 9 := by omega
  have s1 : Aside b w w1 := (Aside.ofBelow bA).but k1
  have hnew1 := row_but hnew k1 hb
  clear hnew k1
  go_wp2
  go_loopw [3, 4] (fun s i wr => ∃ (k : Nat) (es : List (Int × Int)) (p' : Nat), k ≤ m ∧ i = .int .i64 k ∧ GoodE es ∧ wr.ownsRow w.heap.size 83 3 s es.length (cellsM (prs es)) ∧ p' + 2 * k ≤ p + 1 + 2 * m ∧ Rd wr b a len cap z p' ∧ Aside b w wr) (fun s i wr => (intOf i).toNat)
  case atStart => exact ⟨m, [], p + 1, Nat.le_refl _, rfl, GoodE.nil, hnew1, Nat.le_refl _, r1, s1⟩
  case round =>
    obtain ⟨k, es, p', hk, rfl, hg, hrow, hp', r, sd⟩ := hrel
    by_cases h0 : 0 < k
    · have h0' : (0 : Int) < k := by omega
      go_wp2_with fail
      refine (pick_any b a len cap z p' _ _ r (by omega) (by omega)).mono ?_
      rintro e w2 ⟨x, rfl, hx0, hx1, r2, k2⟩
      have hrow2 := row_but hrow k2 hb
      have s2 := sd.but k2
      clear k2 r hrow sd
      go_wp2_with fail
      refine (pick_any b a len cap z (p' + 1) _ _ r2 (by omega) (by omega)).mono ?_
      rintro e w3 ⟨y, rfl, hy0, hy1, r3, k3⟩
      have hrow3 := row_but hrow2 k3 hb
      have s3 := s2.but k3
      clear k3 r2 hrow2 s2
      go_wp2_with fail
      refine (lout_any _ w.heap.size s3.size _ es hg hrow3 (1 + x, 1 + y)).mono ?_
      rintro e w4 ⟨v4, rfl, hrow4, k4⟩
      have r4 := rd_base h r3 k4
      have s4 := aside_base s3 k4
      have hg4 := outE_good es (1 + x, 1 + y) hg (inB_mk _ _ (by omega))
      clear k4 r3 hrow3 s3
      go_wp2
      go_roundw
      case rel => exact ⟨k - 1, _, p' + 1 + 1, by omega, by go_num, hg4, hrow4, by omega, r4, s4⟩
      case measure => simp [intOf]; omega
    · have h0' : (k : Int) ≤ 0 := by omega
      have h8 := hg.len
      have hsm := small_prs es hg
      go_wp2_with fail
      refine (pick_any b a len cap z p' _ _ r (by omega) (by omega)).mono ?_
      rintro e w2 ⟨x, rfl, hx0, hx1, r2, k2⟩
      have hrow2 := row_but hrow k2 hb
      have s2 := sd.but k2
      clear k2 r hrow sd
      by_cases x0 : x = 0
      · subst x0
        go_wp2_with fail
        refine (pick_any b a len cap z (p' + 1) _ _ r2 (by omega) (by omega)).mono ?_
        rintro e w3 ⟨y, rfl, hy0, hy1, r3, k3⟩
        have hrow3 := row_but hrow2 k3 hb
        have s3 := s2.but k3
        clear k3 r2 hrow2 s2
        go_wp2_with fail
        refine (l71_any b a len cap z (p' + 1 + 1) _ r3 (by omega)).mono ?_
        rintro e w4 ⟨ex, ey, p4, rfl, hxy, hp4, r4, k4⟩
        have hrow4 := row_aside hrow3 k4 hb
        have s4 := s3.trans k4
        clear k4 r3 hrow3 s3
        go_wp2_with (at_builtin; refine wpList_append_own_at _ rfl _ _ 23 rfl w.heap.size 83 i0 (.agg #[.int .i64 0, .int .i64 0, .int .i64 0]) 3 24 Tryz.underlying23 hi hz0 hz1 hz2 rfl (by decide) _ _ _ rfl (hrow4.alloc _) ⟨w4.heap.size, 0, none⟩ 1 1 [.int .i64 (10 + y), .int .i64 ex, .int .i64 ey] rfl rfl (three_at _ _ _ _ _ _ rfl) (by simp [Value.oneCell']) (by unfold maxLen; omega) (by omega) (by have := s4.size; simp; omega) ?_; intro v' w5 hown' hgrow _ _)
        go_ret
        have hz4 := s4.size
        have k5 : Below w.heap.size w4 w5 := ((Below.refl _ _).alloc hz4 _).trans (grown_below hgrow (by simp; omega) (fun k hk => (hrow4.lt k hk).1))
        refine ⟨v', prs es ++ [(10 + y, ex, ey)], p4, rfl, isM_of_row (by rw [cellsM_snoc, List.length_append, prs_len]; exact hown'), by rw [List.length_append, prs_len]; simp; omega, ?_, newM_row hown', by omega, rd_base h r4 k5, aside_base s4 k5⟩
        intro q hq
        rw [List.mem_append] at hq
        rcases hq with hq | hq
        · exact hsm q hq
        · simp at hq; subst hq
          refine ⟨⟨?_, ?_⟩, ⟨?_, ?_⟩, ⟨?_, ?_⟩⟩ <;> simp <;> omega
      · have x0' : (x == 0) = false := by simpa using x0
        by_cases x1 : x = 1
        · subst x1
          rcases hrow2.2 with ⟨rfl, h0⟩ | ⟨g, cp, cur, rfl, hbg, hgg, hnc, hcm, _, _⟩
          · go_wp2
            go_ret
            exact ⟨_, prs es, p' + 1, rfl, isM_of_row (by rw [prs_len]; exact hrow2), by rw [prs_len]; omega, hsm, newM_row hrow2, by omega, r2, s2⟩
          · by_cases hl0 : es.length = 0
            · obtain rfl : es = [] := List.length_eq_zero_iff.1 hl0
              go_wp2
              go_ret
              exact ⟨_, prs [], p' + 1, rfl, isM_of_row (by rw [prs_len]; exact hrow2), by rw [prs_len]; omega, hsm, newM_row hrow2, by omega, r2, s2⟩
            · have hl0' : (0 : Int) < (es.length : Int) := by omega
              clear hgg
              go_wp2_with fail
              refine (pick_any b a len cap z (p' + 1) _ _ r2 (by omega) (by omega)).mono ?_
              rintro e w3 ⟨y, rfl, hy0, hy1, r3, k3⟩
              obtain ⟨j, rfl⟩ := Int.eq_ofNat_of_zero_le hy0
              have hrow3 := row_but hrow2 k3 hb
              have s3 := s2.but k3
              clear k3 r2 hrow2 s2
              go_wp2_with fail
              refine (l71_any b a len cap z (p' + 1 + 1) _ r3 (by omega)).mono ?_
              rintro e w4 ⟨ex, ey, p4, rfl, hxy, hp4, r4, k4⟩
              have hrow4 := row_aside hrow3 k4 hb
              have s4 := s3.trans k4
              clear k4 r3 hrow3 s3
              have hjl : j < es.length := by omega
              have hxl : (cellsM (prs es)).length = es.length * 3 := by rw [cellsM_len, prs_len]
              obtain ⟨u1, hu1⟩ : ∃ u, (cellsM (prs es))[j * 3 + 1]? = some u := ⟨_, List.getElem?_eq_getElem (by omega)⟩
              obtain ⟨u2, hu2⟩ : ∃ u, (cellsM (prs es))[j * 3 + 2]? = some u := ⟨_, List.getElem?_eq_getElem (by omega)⟩
              have c1 := (hrow4.cellAt (j * 3 + 1) (by omega)).trans hu1
              have c2 := (hrow4.cellAt (j * 3 + 2) (by omega)).trans hu2
              have g1 := hrow4.frozenAt (j * 3 + 1)
              have g2 := hrow4.frozenAt (j * 3 + 2)
              have HR : Hid (w4.ownsRow w.heap.size 83 3 (.slice (some ⟨g, 0, none⟩) es.length cp) es.length (cellsM (prs es))) := hrow4
              clear hrow4 hu1 hu2 hxl
              go_wp2
              go_ret
              have q1 := HR.out.stored (j * 3 + 1) (.int .i64 ex)
              have q2 := q1.1.stored (j * 3 + 2) (.int .i64 ey)
              have hr5 := q2.1
              have k5 : Below w.heap.size w4 ((w4.setCell ⟨g, j * 3 + 1, none⟩ (.int .i64 ex)).setCell ⟨g, j * 3 + 2, none⟩ (.int .i64 ey)) := ((Below.refl _ _).setCell (p := ⟨g, j * 3 + 1, none⟩) hbg _).setCell (p := ⟨g, j * 3 + 2, none⟩) hbg _
              refine ⟨.slice (some ⟨g, 0, none⟩) es.length cp, (prs es).modify j (fun q => (q.1, ex, ey)), p4, rfl, .inr ⟨g, 0, cp, by rw [List.length_modify, prs_len], by rw [List.length_modify, prs_len]; exact hnc, hcm, (hr5.lt g rfl).2, fun i q hq => ?_⟩, by rw [List.length_modify, prs_len]; omega, ?_, newM_row hr5, by omega, rd_base h r4 k5, aside_base s4 k5⟩
              · rw [List.getElem?_modify] at hq
                have hil : i < es.length := by
                  cases e : (prs es)[i]? with
                  | none => rw [e] at hq; cases hq
                  | some _ => have := (List.getElem?_eq_some_iff.1 e).1; rwa [prs_len] at this
                have hip : i < (prs es).length := by rw [prs_len]; exact hil
                have hp0 : (prs es)[i]? = some (prs es)[i] := List.getElem?_eq_getElem hip
                obtain ⟨t0, t1, t2⟩ := cellsM_at (prs es) i _ hp0
                generalize (prs es)[i] = r0 at hp0 t0 t1 t2
                rw [hp0] at hq
                rw [Nat.zero_add]
                have hL : (cellsM (prs es)).length = es.length * 3 := by rw [cellsM_len, prs_len]
                refine ⟨(hr5.cellAt (i * 3) (by omega)).trans ?_, (hr5.cellAt (i * 3 + 1) (by omega)).trans ?_, (hr5.cellAt (i * 3 + 2) (by omega)).trans ?_⟩
                · rw [List.getElem?_set_ne (by omega), List.getElem?_set_ne (by omega), t0]
                  split at hq <;> (simp at hq; rw [← hq])
                · rw [List.getElem?_set_ne (by omega)]
                  by_cases e : j = i
                  · subst e
                    rw [List.getElem?_set_self (by omega)]
                    simp at hq; rw [← hq]
                  · rw [List.getElem?_set_ne (by omega), t1]
                    simp [e] at hq; rw [← hq]
                · by_cases e : j = i
                  · subst e
                    rw [List.getElem?_set_self (by simp; omega)]
                    simp at hq; rw [← hq]
                  · rw [List.getElem?_set_ne (by omega), List.getElem?_set_ne (by omega), t2]
                    simp [e] at hq; rw [← hq]
              · intro q hq
                obtain ⟨i, hi⟩ := List.mem_iff_getElem?.1 hq
                rw [List.getElem?_modify] at hi
                cases e : (prs es)[i]? with
                | none => rw [e] at hi; cases hi
                | some r0 =>
                  rw [e] at hi
                  have hs := hsm r0 (List.mem_of_getElem? e)
                  by_cases e2 : j = i
                  · simp [e2] at hi
                    subst hi
                    refine ⟨hs.1, ⟨?_, ?_⟩, ⟨?_, ?_⟩⟩ <;> simp <;> omega
                  · simp [e2] at hi
                    subst hi; exact hs
        · have x1' : (x == 1) = false := by simpa using x1
          by_cases x2 : x = 2
          · subst x2
            rcases hrow2.2 with ⟨rfl, h0⟩ | ⟨g, cp, cur, rfl, hbg, hgg, hnc, hcm, _, _⟩
            · go_wp2
              go_ret
              exact ⟨_, prs es, p' + 1, rfl, isM_of_row (by rw [prs_len]; exact hrow2), by rw [prs_len]; omega, hsm, newM_row hrow2, by omega, r2, s2⟩
            · by_cases hl0 : es.length = 0
              · obtain rfl : es = [] := List.length_eq_zero_iff.1 hl0
                go_wp2
                go_ret
                exact ⟨_, prs [], p' + 1, rfl, isM_of_row (by rw [prs_len]; exact hrow2), by rw [prs_len]; omega, hsm, newM_row hrow2, by omega, r2, s2⟩
              · have hl0' : (0 : Int) < (es.length : Int) := by omega
                clear hgg
                have hI : IsM w2 (.slice (some ⟨g, 0, none⟩) es.length cp) (prs es) := isM_of_row (by rw [prs_len]; exact hrow2)
                have hlt := (hrow2.lt g rfl).2
                have hdl : ((prs es).drop 1).length = es.length - 1 := by rw [List.length_drop, prs_len]
                have hsm2 : Small ((prs es).drop 1) := fun q hq => hsm q (List.mem_of_mem_drop hq)
                by_cases hc1 : cp = 1
                · subst hc1
                  have hnil : (prs es).drop 1 = [] := List.length_eq_zero_iff.1 (by rw [hdl]; omega)
                  clear hrow2 hI
                  go_wp2
                  go_ret
                  refine ⟨.slice (some ⟨g, 0, none⟩) 0 0, [], p' + 1, ?_, .inr ⟨g, 0, 0, rfl, Nat.zero_le _, Nat.zero_le _, hlt, ?_⟩, Nat.zero_le _, ?_, ?_, by omega, r2, s2⟩
                  · rfl
                  · intro i q hq; simp at hq
                  · intro q hq; simp at hq
                  · intro g' o n c e; simp at e; omega
                · clear hrow2
                  go_wp2
                  go_ret
                  refine ⟨.slice (some ⟨g, 3, none⟩) (es.length - 1) (cp - 1), (prs es).drop 1, p' + 1, rfl, .inr ⟨g, 3, cp - 1, by rw [hdl], by rw [hdl]; omega, by omega, hlt, fun i q hq => ?_⟩, by rw [hdl]; omega, hsm2, fun g' o n c e => by simp at e; omega, by omega, r2, s2⟩
                  rw [List.getElem?_drop] at hq
                  obtain ⟨_, _, ea, _, _, _, hat⟩ := isM_at hI (1 + i) q hq
                  simp at ea
                  obtain ⟨rfl, rfl⟩ := ea
                  rw [show 3 + i * 3 = 0 + (1 + i) * 3 by omega]; exact hat
          · have x2' : (x == 2) = false := by simpa using x2
            go_wp2
            go_ret
            exact ⟨_, prs es, p' + 1, rfl, isM_of_row (by rw [prs_len]; exact hrow2), by rw [prs_len]; omega, hsm, newM_row hrow2, by omega, r2, s2⟩

end Go.Proofs.YtdggchcapjidjabGreatDoor.DrawM

/- Walks: pairs that are drawn, and the room behind them. -/
namespace Go.Proofs.YtdggchcapjidjabGreatDoor.DrawM
open Go.RowKit Go.Proofs.YtdggchcapjidjabGreatDoor.Kit Go.Proofs.YtdggchcapjidjabGreatDoor.Rd Go.Proofs.YtdggchcapjidjabGreatDoor.Draw Go.Proofs.YtdggchcapjidjabGreatDoor.Mp Go.Proofs.YtdggchcapjidjabGreatDoor.Mm Go.Proofs.YtdggchcapjidjabGreatDoor.App Go.Proofs.YtdggchcapjidjabGreatDoor.Ms
set_option linter.unusedSimpArgs false
set_option linter.unusedVariables false

/-- the block of a slice of pairs has room as far as the slice says -/
def RoomM (W : World) (v : Value) : Prop := ∀ g o n c, v = .slice (some ⟨g, o, none⟩) n c → n ≤ c ∧ ∃ cur, W.heap[g]? = some (.cells cur 83 (0, 0)) ∧ o + c * 3 ≤ cur.size
theorem room_of_row {W : World} {b n : Nat} {v : Value} {xs : List Value} (h : W.ownsRow b 83 3 v n xs) : RoomM W v := by
  intro g o n' c hv
  rcases h.2 with ⟨rfl, _⟩ | ⟨g', cap, cur, rfl, hb, hg, hnc, hcm, hcs, htake⟩
  · cases hv
  · simp at hv
    obtain ⟨⟨rfl, rfl⟩, rfl, rfl⟩ := hv
    exact ⟨hnc, cur, hg, by omega⟩
theorem RoomM.tail {W : World} {g n c : Nat} (h : RoomM W (.slice (some ⟨g, 0, none⟩) n c)) (hn : 0 < n) (hc : 0 < c) : RoomM W (.slice (some ⟨g, 3, none⟩) (n - 1) (c - 1)) := by
  intro g' o n' c' hv
  simp at hv
  obtain ⟨⟨rfl, rfl⟩, rfl, rfl⟩ := hv
  obtain ⟨h1, cur, h2, h3⟩ := h g 0 n c rfl
  exact ⟨by omega, cur, h2, by omega⟩
theorem RoomM.tail1 {W : World} {g n c : Nat} (h : RoomM W (.slice (some ⟨g, 0, none⟩) n c)) : RoomM W (.slice (some ⟨g, 0, none⟩) 0 0) := by
  intro g' o n' c' hv
  simp at hv
  obtain ⟨⟨rfl, rfl⟩, rfl, rfl⟩ := hv
  obtain ⟨h1, cur, h2, h3⟩ := h g 0 n c rfl
  exact ⟨Nat.le_refl _, cur, h2, by omega⟩
theorem RoomM.aside {W W' : World} {v : Value} {b : Nat} (h : RoomM W v) (k : Aside b W W') (hv : ∀ g o n c, v = .slice (some ⟨g, o, none⟩) n c → g ≠ b) : RoomM W' v := by
  intro g o n c e
  obtain ⟨h1, cur, h2, h3⟩ := h g o n c e
  exact ⟨h1, cur, (k.block g (Array.getElem?_eq_some_iff.1 h2).1 (hv g o n c e)).trans h2, h3⟩

set_option maxRecDepth 8000 in
set_option maxHeartbeats 8000000 in
theorem map_room (b : Nat) (a : Option Addr) (len cap : Nat) (z : Nat → Int) (p : Nat) (w : World) (h : Rd w b a len cap z p) (hp : p ≤ 1000000) :
    Calls Tryz.prog 53 #[.pointer (some ⟨b, 0, none⟩)] w fun e w' => ∃ v m p', e = .returned v ∧ IsM w' v m ∧ m.length ≤ 9 ∧ Small m ∧ NewM w.heap.size v ∧ p' ≤ p + 100 ∧ Rd w' b a len cap z p' ∧ Aside b w w' ∧ RoomM w' v := by
  obtain ⟨i0, hi, hz0, hz1, hz2⟩ := info_parts infoM
  have hb : b < w.heap.size := blk h.c0
  have bA : Below w.heap.size w (w.alloc (.cells #[] 83)) := (Below.refl _ _).alloc (Nat.le_refl _) _
  have hnew := World.ownsRow_made (base := w.heap.size) (e := 83) (size := 3) w #[] 0 (Nat.le_refl _) (Nat.zero_le _) rfl
  go_enter Tryz.func53, Tryz.ntmps53
  go_wp2_with fail
  refine (pick_any b a len cap z p _ _ (h.below bA) (by omega) (by omega)).mono ?_
  rintro e w1 ⟨v, rfl, hv0, hv1, r1, k1⟩
  obtain ⟨m, rfl⟩ := Int.eq_ofNat_of_zero_le hv0
  have hm9 : m ≤ 9 := by omega
  have s1 : Aside b w w1 := (Aside.ofBelow bA).but k1
  have hnew1 := row_but hnew k1 hb
  clear hnew k1
  go_wp2
  go_loopw [3, 4] (fun s i wr => ∃ (k : Nat) (es : List (Int × Int)) (p' : Nat), k ≤ m ∧ i = .int .i64 k ∧ GoodE es ∧ wr.ownsRow w.heap.size 83 3 s es.length (cellsM (prs es)) ∧ p' + 2 * k ≤ p + 1 + 2 * m ∧ Rd wr b a len cap z p' ∧ Aside b w wr) (fun s i wr => (intOf i).toNat)
  case atStart => exact ⟨m, [], p + 1, Nat.le_refl _, rfl, GoodE.nil, hnew1, Nat.le_refl _, r1, s1⟩
  case round =>
    obtain ⟨k, es, p', hk, rfl, hg, hrow, hp', r, sd⟩ := hrel
    by_cases h0 : 0 < k
    · have h0' : (0 : Int) < k := by omega
      go_wp2_with fail
      refine (pick_any b a len cap z p' _ _ r (by omega) (by omega)).mono ?_
      rintro e w2 ⟨x, rfl, hx0, hx1, r2, k2⟩
      have hrow2 := row_but hrow k2 hb
      have s2 := sd.but k2
      clear k2 r hrow sd
      go_wp2_with fail
      refine (pick_any b a len cap z (p' + 1) _ _ r2 (by omega) (by omega)).mono ?_
      rintro e w3 ⟨y, rfl, hy0, hy1, r3, k3⟩
      have hrow3 := row_but hrow2 k3 hb
      have s3 := s2.but k3
      clear k3 r2 hrow2 s2
      go_wp2_with fail
      refine (lout_any _ w.heap.size s3.size _ es hg hrow3 (1 + x, 1 + y)).mono ?_
      rintro e w4 ⟨v4, rfl, hrow4, k4⟩
      have r4 := rd_base h r3 k4
      have s4 := aside_base s3 k4
      have hg4 := outE_good es (1 + x, 1 + y) hg (inB_mk _ _ (by omega))
      clear k4 r3 hrow3 s3
      go_wp2
      go_roundw
      case rel => exact ⟨k - 1, _, p' + 1 + 1, by omega, by go_num, hg4, hrow4, by omega, r4, s4⟩
      case measure => simp [intOf]; omega
    · have h0' : (k : Int) ≤ 0 := by omega
      have h8 := hg.len
      have hsm := small_prs es hg
      go_wp2_with fail
      refine (pick_any b a len cap z p' _ _ r (by omega) (by omega)).mono ?_
      rintro e w2 ⟨x, rfl, hx0, hx1, r2, k2⟩
      have hrow2 := row_but hrow k2 hb
      have s2 := sd.but k2
      clear k2 r hrow sd
      by_cases x0 : x = 0
      · subst x0
        go_wp2_with fail
        refine (pick_any b a len cap z (p' + 1) _ _ r2 (by omega) (by omega)).mono ?_
        rintro e w3 ⟨y, rfl, hy0, hy1, r3, k3⟩
        have hrow3 := row_but hrow2 k3 hb
        have s3 := s2.but k3
        clear k3 r2 hrow2 s2
        go_wp2_with fail
        refine (l71_any b a len cap z (p' + 1 + 1) _ r3 (by omega)).mono ?_
        rintro e w4 ⟨ex, ey, p4, rfl, hxy, hp4, r4, k4⟩
        have hrow4 := row_aside hrow3 k4 hb
        have s4 := s3.trans k4
        clear k4 r3 hrow3 s3
        go_wp2_with (at_builtin; refine wpList_append_own_at _ rfl _ _ 23 rfl w.heap.size 83 i0 (.agg #[.int .i64 0, .int .i64 0, .int .i64 0]) 3 24 Tryz.underlying23 hi hz0 hz1 hz2 rfl (by decide) _ _ _ rfl (hrow4.alloc _) ⟨w4.heap.size, 0, none⟩ 1 1 [.int .i64 (10 + y), .int .i64 ex, .int .i64 ey] rfl rfl (three_at _ _ _ _ _ _ rfl) (by simp [Value.oneCell']) (by unfold maxLen; omega) (by omega) (by have := s4.size; simp; omega) ?_; intro v' w5 hown' hgrow _ _)
        go_ret
        have hz4 := s4.size
        have k5 : Below w.heap.size w4 w5 := ((Below.refl _ _).alloc hz4 _).trans (grown_below hgrow (by simp; omega) (fun k hk => (hrow4.lt k hk).1))
        refine ⟨v', prs es ++ [(10 + y, ex, ey)], p4, rfl, isM_of_row (by rw [cellsM_snoc, List.length_append, prs_len]; exact hown'), by rw [List.length_append, prs_len]; simp; omega, ?_, newM_row hown', by omega, rd_base h r4 k5, aside_base s4 k5, room_of_row hown'⟩
        intro q hq
        rw [List.mem_append] at hq
        rcases hq with hq | hq
        · exact hsm q hq
        · simp at hq; subst hq
          refine ⟨⟨?_, ?_⟩, ⟨?_, ?_⟩, ⟨?_, ?_⟩⟩ <;> simp <;> omega
      · have x0' : (x == 0) = false := by simpa using x0
        by_cases x1 : x = 1
        · subst x1
          rcases hrow2.2 with ⟨rfl, h0⟩ | ⟨g, cp, cur, rfl, hbg, hgg, hnc, hcm, _, _⟩
          · go_wp2
            go_ret
            exact ⟨_, prs es, p' + 1, rfl, isM_of_row (by rw [prs_len]; exact hrow2), by rw [prs_len]; omega, hsm, newM_row hrow2, by omega, r2, s2, room_of_row hrow2⟩
          · by_cases hl0 : es.length = 0
            · obtain rfl : es = [] := List.length_eq_zero_iff.1 hl0
              go_wp2
              go_ret
              exact ⟨_, prs [], p' + 1, rfl, isM_of_row (by rw [prs_len]; exact hrow2), by rw [prs_len]; omega, hsm, newM_row hrow2, by omega, r2, s2, room_of_row hrow2⟩
            · have hl0' : (0 : Int) < (es.length : Int) := by omega
              clear hgg
              go_wp2_with fail
              refine (pick_any b a len cap z (p' + 1) _ _ r2 (by omega) (by omega)).mono ?_
              rintro e w3 ⟨y, rfl, hy0, hy1, r3, k3⟩
              obtain ⟨j, rfl⟩ := Int.eq_ofNat_of_zero_le hy0
              have hrow3 := row_but hrow2 k3 hb
              have s3 := s2.but k3
              clear k3 r2 hrow2 s2
              go_wp2_with fail
              refine (l71_any b a len cap z (p' + 1 + 1) _ r3 (by omega)).mono ?_
              rintro e w4 ⟨ex, ey, p4, rfl, hxy, hp4, r4, k4⟩
              have hrow4 := row_aside hrow3 k4 hb
              have s4 := s3.trans k4
              clear k4 r3 hrow3 s3
              have hjl : j < es.length := by omega
              have hxl : (cellsM (prs es)).length = es.length * 3 := by rw [cellsM_len, prs_len]
              obtain ⟨u1, hu1⟩ : ∃ u, (cellsM (prs es))[j * 3 + 1]? = some u := ⟨_, List.getElem?_eq_getElem (by omega)⟩
              obtain ⟨u2, hu2⟩ : ∃ u, (cellsM (prs es))[j * 3 + 2]? = some u := ⟨_, List.getElem?_eq_getElem (by omega)⟩
              have c1 := (hrow4.cellAt (j * 3 + 1) (by omega)).trans hu1
              have c2 := (hrow4.cellAt (j * 3 + 2) (by omega)).trans hu2
              have g1 := hrow4.frozenAt (j * 3 + 1)
              have g2 := hrow4.frozenAt (j * 3 + 2)
              have HR : Hid (w4.ownsRow w.heap.size 83 3 (.slice (some ⟨g, 0, none⟩) es.length cp) es.length (cellsM (prs es))) := hrow4
              clear hrow4 hu1 hu2 hxl
              go_wp2
              go_ret
              have q1 := HR.out.stored (j * 3 + 1) (.int .i64 ex)
              have q2 := q1.1.stored (j * 3 + 2) (.int .i64 ey)
              have hr5 := q2.1
              have k5 : Below w.heap.size w4 ((w4.setCell ⟨g, j * 3 + 1, none⟩ (.int .i64 ex)).setCell ⟨g, j * 3 + 2, none⟩ (.int .i64 ey)) := ((Below.refl _ _).setCell (p := ⟨g, j * 3 + 1, none⟩) hbg _).setCell (p := ⟨g, j * 3 + 2, none⟩) hbg _
              refine ⟨.slice (some ⟨g, 0, none⟩) es.length cp, (prs es).modify j (fun q => (q.1, ex, ey)), p4, rfl, .inr ⟨g, 0, cp, by rw [List.length_modify, prs_len], by rw [List.length_modify, prs_len]; exact hnc, hcm, (hr5.lt g rfl).2, fun i q hq => ?_⟩, by rw [List.length_modify, prs_len]; omega, ?_, newM_row hr5, by omega, rd_base h r4 k5, aside_base s4 k5, room_of_row hr5⟩
              · rw [List.getElem?_modify] at hq
                have hil : i < es.length := by
                  cases e : (prs es)[i]? with
                  | none => rw [e] at hq; cases hq
                  | some _ => have := (List.getElem?_eq_some_iff.1 e).1; rwa [prs_len] at this
                have hip : i < (prs es).length := by rw [prs_len]; exact hil
                have hp0 : (prs es)[i]? = some (prs es)[i] := List.getElem?_eq_getElem hip
                obtain ⟨t0, t1, t2⟩ := cellsM_at (prs es) i _ hp0
                generalize (prs es)[i] = r0 at hp0 t0 t1 t2
                rw [hp0] at hq
                rw [Nat.zero_add]
                have hL : (cellsM (prs es)).length = es.length * 3 := by rw [cellsM_len, prs_len]
                refine ⟨(hr5.cellAt (i * 3) (by omega)).trans ?_, (hr5.cellAt (i * 3 + 1) (by omega)).trans ?_, (hr5.cellAt (i * 3 + 2) (by omega)).trans ?_⟩
                · rw [List.getElem?_set_ne (by omega), List.getElem?_set_ne (by omega), t0]
                  split at hq <;> (simp at hq; rw [← hq])
                · rw [List.getElem?_set_ne (by omega)]
                  by_cases e : j = i
                  · subst e
                    rw [List.getElem?_set_self (by omega)]
                    simp at hq; rw [← hq]
                  · rw [List.getElem?_set_ne (by omega), t1]
                    simp [e] at hq; rw [← hq]
                · by_cases e : j = i
                  · subst e
                    rw [List.getElem?_set_self (by simp; omega)]
                    simp at hq; rw [← hq]
                  · rw [List.getElem?_set_ne (by omega), List.getElem?_set_ne (by omega), t2]
                    simp [e] at hq; rw [← hq]
              · intro q hq
                obtain ⟨i, hi⟩ := List.mem_iff_getElem?.1 hq
                rw [List.getElem?_modify] at hi
                cases e : (prs es)[i]? with
                | none => rw [e] at hi; cases hi
                | some r0 =>
                  rw [e] at hi
                  have hs := hsm r0 (List.mem_of_getElem? e)
                  by_cases e2 : j = i
                  · simp [e2] at hi
                    subst hi
                    refine ⟨hs.1, ⟨?_, ?_⟩, ⟨?_, ?_⟩⟩ <;> simp <;> omega
                  · simp [e2] at hi
                    subst hi; exact hs
        · have x1' : (x == 1) = false := by simpa using x1
          by_cases x2 : x = 2
          · subst x2
            rcases hrow2.2 with ⟨rfl, h0⟩ | ⟨g, cp, cur, rfl, hbg, hgg, hnc, hcm, _, _⟩
            · go_wp2
              go_ret
              exact ⟨_, prs es, p' + 1, rfl, isM_of_row (by rw [prs_len]; exact hrow2), by rw [prs_len]; omega, hsm, newM_row hrow2, by omega, r2, s2, room_of_row hrow2⟩
            · by_cases hl0 : es.length = 0
              · obtain rfl : es = [] := List.length_eq_zero_iff.1 hl0
                go_wp2
                go_ret
                exact ⟨_, prs [], p' + 1, rfl, isM_of_row (by rw [prs_len]; exact hrow2), by rw [prs_len]; omega, hsm, newM_row hrow2, by omega, r2, s2, room_of_row hrow2⟩
              · have hl0' : (0 : Int) < (es.length : Int) := by omega
                clear hgg
                have hI : IsM w2 (.slice (some ⟨g, 0, none⟩) es.length cp) (prs es) := isM_of_row (by rw [prs_len]; exact hrow2)
                have HR2 : Hid (RoomM w2 (.slice (some ⟨g, 0, none⟩) es.length cp)) := room_of_row hrow2
                have hlt := (hrow2.lt g rfl).2
                have hdl : ((prs es).drop 1).length = es.length - 1 := by rw [List.length_drop, prs_len]
                have hsm2 : Small ((prs es).drop 1) := fun q hq => hsm q (List.mem_of_mem_drop hq)
                by_cases hc1 : cp = 1
                · subst hc1
                  have hnil : (prs es).drop 1 = [] := List.length_eq_zero_iff.1 (by rw [hdl]; omega)
                  clear hrow2 hI
                  go_wp2
                  go_ret
                  refine ⟨.slice (some ⟨g, 0, none⟩) 0 0, [], p' + 1, ?_, .inr ⟨g, 0, 0, rfl, Nat.zero_le _, Nat.zero_le _, hlt, ?_⟩, Nat.zero_le _, ?_, ?_, by omega, r2, s2, ?_⟩
                  · rfl
                  · intro i q hq; simp at hq
                  · intro q hq; simp at hq
                  · intro g' o n c e; simp at e; omega
                  · exact HR2.out.tail1
                · clear hrow2
                  go_wp2
                  go_ret
                  refine ⟨.slice (some ⟨g, 3, none⟩) (es.length - 1) (cp - 1), (prs es).drop 1, p' + 1, rfl, .inr ⟨g, 3, cp - 1, by rw [hdl], by rw [hdl]; omega, by omega, hlt, fun i q hq => ?_⟩, by rw [hdl]; omega, hsm2, fun g' o n c e => by simp at e; omega, by omega, r2, s2, HR2.out.tail (by omega) (by omega)⟩
                  rw [List.getElem?_drop] at hq
                  obtain ⟨_, _, ea, _, _, _, hat⟩ := isM_at hI (1 + i) q hq
                  simp at ea
                  obtain ⟨rfl, rfl⟩ := ea
                  rw [show 3 + i * 3 = 0 + (1 + i) * 3 by omega]; exact hat
          · have x2' : (x == 2) = false := by simpa using x2
            go_wp2
            go_ret
            exact ⟨_, prs es, p' + 1, rfl, isM_of_row (by rw [prs_len]; exact hrow2), by rw [prs_len]; omega, hsm, newM_row hrow2, by omega, r2, s2, room_of_row hrow2⟩

/-- appending where there is room, at a slice that lies anywhere in its block -/
theorem run_append_room_at {P : Program} (w : World) (t ty e : TypeId) (i : TypeInfo) (ht : P.underlying t = some (.slice e)) (hi : P.info? e = some i)
    (g o sLen sCap : Nat) (cur : Array Value) (hg : w.heap[g]? = some (.cells cur e (0, 0)))
    (a : Addr) (m c : Nat) (news : List Value) (hl : news.length = m * i.size) (hnews : ∀ j u, news[j]? = some u → w.cell? (a.add j) = some u) (h1 : ∀ u ∈ news, u.oneCell' = true)
    (hroom : sLen + m ≤ sCap) (hfit : o + sLen * i.size + news.length ≤ cur.size) :
    (Builtin.append_ #[t, t] ty #[.slice (some ⟨g, o, none⟩) sLen sCap, .slice (some a) m c]).run P w =
      .ok (.slice (some ⟨g, o, none⟩) (sLen + m) sCap) (w.setRow g (cur.toList.take (o + sLen * i.size) ++ news ++ cur.toList.drop (o + sLen * i.size + news.length)).toArray) := by
  have hf := run_firstCells_some (P := P) w i.size m a m c news hl hnews
  have hst := run_storeCells_at P g (o + sLen * i.size) e news 0 cur w hg (by simpa using hfit) h1
  simp only [Nat.add_zero] at hst
  simp [Builtin.append_, run_underlying ht, sizeOf, typeInfo, hi, Builtin.lenOf, hroom, hf, Addr.add_lit, hst]

/-- a pair more behind pairs that are the call's own -/
theorem run_append_M {P : Program} (w : World) (base : Nat) (hb : base ≤ w.heap.size) (t ty : TypeId) (i : TypeInfo) (ht : P.underlying t = some (.slice 83)) (hi : P.info? 83 = some i) (hz : i.zero = some (.agg #[.int .i64 0, .int .i64 0, .int .i64 0])) (hsize : i.size = 3) (hby : i.bytes = 24)
    (v : Value) (m : List (Int × Int × Int)) (hm : IsM w v m) (hr : RoomM w v) (hn : NewM base v) (hl : m.length ≤ 100) (ad : Addr) (p : Int × Int × Int) (hc : ∀ j u, [Value.int .i64 p.1, .int .i64 p.2.1, .int .i64 p.2.2][j]? = some u → w.cell? (ad.add j) = some u) :
    ∃ v' w', (Builtin.append_ #[t, t] ty #[v, .slice (some ad) 1 1]).run P w = .ok v' w' ∧ IsM w' v' (m ++ [p]) ∧ Below base w w' := by
  have hnl : [Value.int .i64 p.1, .int .i64 p.2.1, .int .i64 p.2.2].length = 1 * 3 := rfl
  have h1c : ∀ u ∈ [Value.int .i64 p.1, .int .i64 p.2.1, .int .i64 p.2.2], u.oneCell' = true := by simp [Value.oneCell']
  rcases hm with ⟨rfl, rfl⟩ | ⟨g, o, cap, rfl, hcap, hmax, hlt, hat⟩
  · obtain ⟨v', w', hrun, hrow, hg, _⟩ := run_append_own2 (P := P) w base t ty 83 i _ 3 24 ht hi hz hsize hby rfl (by omega) (.slice none 0 0) 0 [] (World.ownsRow_nil _ _ _ _) ad 1 1 _ hnl hc h1c (by unfold maxLen; omega) (by omega) hb
    refine ⟨v', w', hrun, isM_of_row (b := base) (e := 83) (by simpa [cellsM] using hrow), ⟨hg.os, hg.tape, hg.output, hg.size, fun k hk => hg.block k (by omega) (by simp [Value.ownBlock])⟩⟩
  · obtain ⟨_, cur, hcur, hfit⟩ := hr g o _ cap rfl
    have hbg := hn g o _ cap rfl
    by_cases hroom : m.length + 1 ≤ cap
    · have hrun := run_append_room_at (P := P) w t ty 83 i ht hi g o m.length cap cur hcur ad 1 1 _ (by rw [hsize]; exact hnl) hc h1c hroom (by rw [hsize, hnl]; omega)
      rw [hsize] at hrun
      refine ⟨_, _, hrun, .inr ⟨g, o, cap, by rw [List.length_append]; rfl, by rw [List.length_append]; exact hroom, hmax, by simpa using hlt, fun k q hq => ?_⟩, ⟨rfl, rfl, rfl, by simp, fun k hk => setRow_other w g k _ (by omega)⟩⟩
      have hsz : cur.toList.length = cur.size := Array.length_toList
      have key : ∀ (j : Nat) (u : Value), (cur.toList.take (o + m.length * 3) ++ [Value.int .i64 p.1, .int .i64 p.2.1, .int .i64 p.2.2] ++ cur.toList.drop (o + m.length * 3 + [Value.int .i64 p.1, .int .i64 p.2.1, .int .i64 p.2.2].length))[j]? = some u → (w.setRow g (cur.toList.take (o + m.length * 3) ++ [Value.int .i64 p.1, .int .i64 p.2.1, .int .i64 p.2.2] ++ cur.toList.drop (o + m.length * 3 + [Value.int .i64 p.1, .int .i64 p.2.1, .int .i64 p.2.2].length)).toArray).cell? ⟨g, j, none⟩ = some u := by
        intro j u hj
        have hh := setRow_heap w g cur (cur.toList.take (o + m.length * 3) ++ [Value.int .i64 p.1, .int .i64 p.2.1, .int .i64 p.2.2] ++ cur.toList.drop (o + m.length * 3 + [Value.int .i64 p.1, .int .i64 p.2.1, .int .i64 p.2.2].length)).toArray 83 (0, 0) hcur
        simp only [World.cell?, hh]
        simpa using hj
      have old : ∀ j u, j < o + m.length * 3 → w.cell? ⟨g, j, none⟩ = some u → (cur.toList.take (o + m.length * 3) ++ [Value.int .i64 p.1, .int .i64 p.2.1, .int .i64 p.2.2] ++ cur.toList.drop (o + m.length * 3 + [Value.int .i64 p.1, .int .i64 p.2.1, .int .i64 p.2.2].length))[j]? = some u := by
        intro j u hj hu
        simp only [World.cell?, hcur] at hu
        have ht : (cur.toList.take (o + m.length * 3)).length = o + m.length * 3 := by rw [List.length_take, hsz]; omega
        rw [List.append_assoc, List.getElem?_append_left (by omega), List.getElem?_take_of_lt hj]
        simpa using hu
      by_cases hk : k < m.length
      · rw [List.getElem?_append_left hk] at hq
        obtain ⟨t0, t1, t2⟩ := hat k q hq
        exact ⟨key _ _ (old _ _ (by omega) t0), key _ _ (old _ _ (by omega) t1), key _ _ (old _ _ (by omega) t2)⟩
      · have hk2 : k = m.length := by
          have := (List.getElem?_eq_some_iff.1 hq).1
          simp at this; omega
        subst hk2
        simp at hq
        subst hq
        have ht : (cur.toList.take (o + m.length * 3)).length = o + m.length * 3 := by rw [List.length_take, hsz]; omega
        refine ⟨key _ _ ?_, key _ _ ?_, key _ _ ?_⟩
        · rw [List.append_assoc, List.getElem?_append_right (by omega), ht, Nat.sub_self]; rfl
        · rw [List.append_assoc, List.getElem?_append_right (by omega), ht, show o + m.length * 3 + 1 - (o + m.length * 3) = 1 by omega]; rfl
        · rw [List.append_assoc, List.getElem?_append_right (by omega), ht, show o + m.length * 3 + 2 - (o + m.length * 3) = 2 by omega]; rfl
    · have holds : ∀ j u, (cellsM m)[j]? = some u → w.cell? ((⟨g, o, none⟩ : Addr).add j) = some u := by
        intro j u hj
        have hjl := (List.getElem?_eq_some_iff.1 hj).1
        rw [cellsM_len] at hjl
        have hk : j / 3 < m.length := by omega
        obtain ⟨a0, a1, a2⟩ := cellsM_at m (j / 3) _ (List.getElem?_eq_getElem hk)
        obtain ⟨t0, t1, t2⟩ := hat (j / 3) _ (List.getElem?_eq_getElem hk)
        rw [Addr.add_lit]
        have hc3 : j = j / 3 * 3 ∨ j = j / 3 * 3 + 1 ∨ j = j / 3 * 3 + 2 := by omega
        rcases hc3 with e | e | e
        · rw [← e] at a0; rw [hj] at a0; rw [show o + j = o + j / 3 * 3 by omega, t0, ← a0]
        · rw [← e] at a1; rw [hj] at a1; rw [show o + j = o + j / 3 * 3 + 1 by omega, t1, ← a1]
        · rw [← e] at a2; rw [hj] at a2; rw [show o + j = o + j / 3 * 3 + 2 by omega, t2, ← a2]
      obtain ⟨v', w', hrun, hrow, hg⟩ := run_append_arg_grows (P := P) w t ty 83 i _ 3 24 ht hi hz hsize hby rfl (by omega) ⟨g, o, none⟩ m.length cap (cellsM m) (cellsM_len m) holds ad 1 1 _ hnl hc (by omega) (by unfold maxLen; omega) (by omega)
      refine ⟨v', w', hrun, isM_of_row (b := w.heap.size) (e := 83) (by rw [cellsM_snoc, List.length_append]; exact hrow), ⟨hg.os, hg.tape, hg.output, hg.size, fun k hk => hg.block k (by omega) (by simp)⟩⟩
theorem wpList_append_M {P : Program} (w : World) {ops : Array Oper} {rest : List Oper} {o : Oper} {a : Act} {Q : Exit → Act → World → Prop} (hgd : o.guard = none) (s x : Operand) (t : TypeId) (hop : o.op = Op.call { callee := Callee.builtin Builtin.append, args := #[s, x], argTypes := #[t, t] })
    (base : Nat) (hb : base ≤ w.heap.size) (i : TypeInfo) (ht : P.underlying t = some (.slice 83)) (hi : P.info? 83 = some i) (hz : i.zero = some (.agg #[.int .i64 0, .int .i64 0, .int .i64 0])) (hsize : i.size = 3) (hby : i.bytes = 24)
    (v : Value) (hs : a.eval s = v) (m : List (Int × Int × Int)) (hm : IsM w v m) (hr : RoomM w v) (hn : NewM base v) (hl : m.length ≤ 100) (ad : Addr) (hx : a.eval x = .slice (some ad) 1 1) (p : Int × Int × Int) (hc : ∀ j u, [Value.int .i64 p.1, .int .i64 p.2.1, .int .i64 p.2.2][j]? = some u → w.cell? (ad.add j) = some u)
    (hK : ∀ v' w', IsM w' v' (m ++ [p]) → Below base w w' → wpList P ops Q rest (a.put o.dst v') w') : wpList P ops Q (o :: rest) a w := by
  refine wpList_plain hgd fun K hK' => ?_
  obtain ⟨v', w', hrun, r1, r2⟩ := run_append_M (P := P) w base hb t o.type i ht hi hz hsize hby v m hm hr hn hl ad p hc
  unfold Oper.wp
  simp [execOp, hop, resolve, invoke, builtin, hs, hx, hrun, Result.andThen]
  exact hK' _ _ (hK v' w' r1 r2)

end Go.Proofs.YtdggchcapjidjabGreatDoor.DrawM

/- Walks: texts that are drawn from a code. Of what is drawn no more is said than that it is short. -/
namespace Go.Proofs.YtdggchcapjidjabGreatDoor.Draw
open Go.RowKit Go.Proofs.YtdggchcapjidjabGreatDoor.Kit Go.Proofs.YtdggchcapjidjabGreatDoor.Rd
open Go.Proofs.YtdggchcapjidjabGreatDoor.Text (txt specText txt_len)
open Go.Proofs.YtdggchcapjidjabGreatDoor.EndW (sideZ)

theorem txt_four (x y : Int) : (txt x y).size ≤ 4 := by
  by_cases h : sideZ x y = 0
  · unfold txt; rw [if_pos h]; exact Nat.le_of_ble_eq_true rfl
  · rw [txt_len x y h]; split <;> omega

set_option maxHeartbeats 1000000 in
theorem ofs_any (b : Nat) (a : Option Addr) (len cap : Nat) (z : Nat → Int) (p : Nat) (lb n : Nat) (S : Nat → ByteArray) (w : World) (h : Rd w b a len cap z p) (hp : p ≤ 999999000) (hn : 1 ≤ (n : Int)) (hb : lb ≠ b)
    (hS : ∀ i, i < n → w.cell? ⟨lb, i, none⟩ = some (.string (S i))) :
    Calls Tryz.prog 54 #[.pointer (some ⟨b, 0, none⟩), .slice (some ⟨lb, 0, none⟩) n n] w fun e w' => ∃ k, k < n ∧ e = .returned (.string (S k)) ∧ Rd w' b a len cap z (p + 1) ∧ But b w w' := by
  go_enter Tryz.func54, Tryz.ntmps54
  go_wp2_with fail
  refine (pick_any b a len cap z p _ _ h (by omega) hn).mono ?_
  rintro e w1 ⟨v, rfl, hv0, hv1, r1, k1⟩
  obtain ⟨k, rfl⟩ := Int.eq_ofNat_of_zero_le hv0
  have hk : k < n := by omega
  have hc : w1.cell? ⟨lb, k, none⟩ = some (.string (S k)) := by rw [k1.cell hb]; exact hS k hk
  clear hS
  go_wp2
  go_ret
  exact ⟨k, hk, rfl, r1, k1⟩

/-- a list of short texts in a block -/
theorem list_cells (W : World) (t : TypeId) (L : List ByteArray) : ∀ i, i < L.length → (W.alloc (.cells (L.map Value.string).toArray t)).cell? ⟨W.heap.size, i, none⟩ = some (.string (L.getD i ⟨#[]⟩)) := by
  intro i hi
  have h := heap_alloc_new W (.cells (L.map Value.string).toArray t)
  unfold World.cell?
  rw [h]
  simp [List.getD_eq_getElem?_getD, List.getElem?_eq_getElem hi]

theorem short_of (L : List ByteArray) (n : Nat) (h : ∀ s ∈ L, s.size ≤ n) (i : Nat) : (L.getD i ⟨#[]⟩).size ≤ n := by
  rw [List.getD_eq_getElem?_getD]
  cases q : L[i]? with
  | none => exact Nat.zero_le _
  | some s => exact h s (List.mem_of_getElem? q)

/-- what a text is drawn from -/
def S10 : List ByteArray := [⟨#[97]⟩, ⟨#[98, 99]⟩, ⟨#[64]⟩, ⟨#[64, 49]⟩, ⟨#[59]⟩, ⟨#[58, 53]⟩, ⟨#[120, 49]⟩, ⟨#[64, 64]⟩, ⟨#[64, 49, 58]⟩, ⟨#[55]⟩]
theorem S10_short (i : Nat) : (S10.getD i ⟨#[]⟩).size ≤ 3 := short_of S10 3 (by decide) i

set_option maxRecDepth 8000 in
set_option maxHeartbeats 4000000 in
theorem text_any (b : Nat) (a : Option Addr) (len cap : Nat) (z : Nat → Int) (p : Nat) (most : Nat) (hm : most ≤ 1000) (w : World) (h : Rd w b a len cap z p) (hp : p ≤ 1000000) :
    Calls Tryz.prog 27 #[.pointer (some ⟨b, 0, none⟩), .int .i64 (most : Nat)] w fun e w' => ∃ s p', e = .returned (.string s) ∧ s.size ≤ most ∧ p' ≤ p + 100 ∧ Rd w' b a len cap z p' ∧ Aside b w w' := by
  go_enter Tryz.func27, Tryz.ntmps27
  go_wp2_with fail
  refine (pick_any b a len cap z p _ _ h (by omega) (by omega)).mono ?_
  rintro e w1 ⟨v, rfl, hv0, hv1, r1, k1⟩
  obtain ⟨m, rfl⟩ := Int.eq_ofNat_of_zero_le hv0
  have hm7 : m ≤ 6 := by omega
  go_wp2
  go_loopw [5, 6] (fun s i wr => ∃ (k : Nat) (S : ByteArray) (p' : Nat), k ≤ m ∧ i = .int .i64 k ∧ s = .string S ∧ S.size ≤ most ∧ p' + 5 * k ≤ p + 1 + 5 * m ∧ Rd wr b a len cap z p' ∧ Aside b w wr) (fun s i wr => (intOf i).toNat)
  case atStart => exact ⟨m, ⟨#[]⟩, p + 1, Nat.le_refl _, rfl, rfl, Nat.zero_le _, Nat.le_refl _, r1, Aside.ofBut k1⟩
  case round =>
    obtain ⟨k, S, p', hk, rfl, rfl, hS, hp', r, sd⟩ := hrel
    by_cases h0 : 0 < k
    · have h0' : (0 : Int) < k := by omega
      have hbl : b < wr.heap.size := blk r.c0
      have r2 := r.below ((Below.refl _ wr).alloc (Nat.le_refl _) (.cells (S10.map Value.string).toArray 9))
      have s2 := sd.alloc (.cells (S10.map Value.string).toArray 9)
      have hl := list_cells wr 9 S10
      go_wp2_with fail
      refine (ofs_any b a len cap z p' wr.heap.size 10 (fun i => S10.getD i ⟨#[]⟩) _ r2 (by omega) (by omega) (by omega) hl).mono ?_
      rintro e w3 ⟨j, _, rfl, r3, k3⟩
      have s3 := s2.but k3
      have hX := S10_short j
      generalize S10.getD j ⟨#[]⟩ = X at hX
      clear r2 s2 hl k3
      go_wp2_with fail
      refine (pick_any b a len cap z (p' + 1) _ _ r3 (by omega) (by omega)).mono ?_
      rintro e w4 ⟨v4, rfl, q0, q1, r4, k4⟩
      have s4 := s3.but k4
      clear k4 r3 s3
      by_cases h3 : v4 < 3
      · go_wp2_with fail
        refine (l71_any b a len cap z (p' + 1 + 1) _ r4 (by omega)).mono ?_
        rintro e w5 ⟨x, y, p5, rfl, hxy, hp5, r5, k5⟩
        have s5 := s4.trans k5
        clear k5 r4 s4
        go_wp2_with fail
        refine (specText _ _ _).mono ?_
        rintro e w6 ⟨rfl, k6⟩
        have r6 := r5.below k6
        have s6 := s5.trans (Aside.ofBelow k6)
        have hz := txt_four x y
        clear k6 r5 s5
        generalize txt x y = T at hz
        go_wp2
        all_goals
          go_roundw
          case rel =>
            refine ⟨k - 1, _, _, by omega, by go_num, rfl, ?_, ?_, r6, s6⟩
            · first | exact hS | (have e64 : (⟨#[64]⟩ : ByteArray).size = 1 := rfl; have e59 : (⟨#[59]⟩ : ByteArray).size = 1 := rfl; simp only [ByteArray.size_append]; omega)
            · omega
          case measure => simp [intOf]; omega
      · have h3' : 3 ≤ v4 := by omega
        go_wp2
        all_goals
          go_roundw
          case rel =>
            refine ⟨k - 1, _, _, by omega, by go_num, rfl, ?_, ?_, r4, s4⟩
            · first | exact hS | (simp only [ByteArray.size_append]; omega)
            · omega
          case measure => simp [intOf]; omega
    · have h0' : (k : Int) ≤ 0 := by omega
      go_wp2
      go_ret
      exact ⟨S, p', rfl, hS, by omega, r, sd⟩



/-- what a text is spoilt with -/
def S4t : List ByteArray := [⟨#[65]⟩, ⟨#[32]⟩, ⟨#[45]⟩, ⟨#[122]⟩]
theorem S4t_short (i : Nat) : (S4t.getD i ⟨#[]⟩).size ≤ 1 := short_of S4t 1 (by decide) i
/-- what a text may end with -/
def S12 : List ByteArray := [⟨#[]⟩, ⟨#[64]⟩, ⟨#[64, 49]⟩, ⟨#[64, 50, 58]⟩, ⟨#[64, 57, 58, 49]⟩, ⟨#[64, 57, 58, 49, 50]⟩, ⟨#[64, 49, 58, 53]⟩, ⟨#[64, 48]⟩, ⟨#[64, 49, 58, 48]⟩, ⟨#[64, 49, 58, 49, 50, 51]⟩, ⟨#[64, 64]⟩, ⟨#[64, 57, 58, 49, 120]⟩]
theorem S12_short (i : Nat) : (S12.getD i ⟨#[]⟩).size ≤ 6 := short_of S12 6 (by decide) i




end Go.Proofs.YtdggchcapjidjabGreatDoor.Draw

/- Walks: texts that are drawn from a code, and are of a text's bytes. -/
namespace Go.Proofs.YtdggchcapjidjabGreatDoor.Draw
open Go.RowKit Go.Proofs.YtdggchcapjidjabGreatDoor.Kit Go.Proofs.YtdggchcapjidjabGreatDoor.Rd Go.Proofs.YtdggchcapjidjabGreatDoor.Tx
open Go.Proofs.YtdggchcapjidjabGreatDoor.Text (txt specText txt_len)
open Go.Proofs.YtdggchcapjidjabGreatDoor.EndW (sideZ)

theorem app_bytes {a b : ByteArray} (ha : ∀ c ∈ a.data.toList, byteB c = true) (hb : ∀ c ∈ b.data.toList, byteB c = true) : ∀ c ∈ (a ++ b).data.toList, byteB c = true := by
  intro c hc
  rw [ByteArray.data_append, Array.toList_append] at hc
  rcases List.mem_append.1 hc with h | h
  · exact ha c h
  · exact hb c h
theorem name_bytes (x y : Int) : ∀ c ∈ (⟨#[64]⟩ ++ txt x y ++ ⟨#[59]⟩ : ByteArray).data.toList, byteB c = true := by
  by_cases h : sideZ x y = 0
  · have e : txt x y = ⟨#[]⟩ := by unfold txt; rw [if_pos h]
    rw [e]; decide
  · rw [SpA.nm_data x y h]; exact nm_bytes (x, y) h
theorem S10_bytes (i : Nat) : ∀ c ∈ (S10.getD i ⟨#[]⟩).data.toList, byteB c = true := by
  have h : ∀ s ∈ S10, ∀ c ∈ s.data.toList, byteB c = true := by decide
  rw [List.getD_eq_getElem?_getD]
  cases q : S10[i]? with
  | none => intro c hc; cases hc
  | some s => exact h s (List.mem_of_getElem? q)

set_option maxRecDepth 8000 in
set_option maxHeartbeats 4000000 in
theorem text_ok (b : Nat) (a : Option Addr) (len cap : Nat) (z : Nat → Int) (p : Nat) (most : Nat) (hm : most ≤ 1000) (w : World) (h : Rd w b a len cap z p) (hp : p ≤ 1000000) :
    Calls Tryz.prog 27 #[.pointer (some ⟨b, 0, none⟩), .int .i64 (most : Nat)] w fun e w' => ∃ s p', e = .returned (.string s) ∧ s.size ≤ most ∧ (∀ c ∈ s.data.toList, byteB c = true) ∧ p' ≤ p + 100 ∧ Rd w' b a len cap z p' ∧ Aside b w w' := by
  go_enter Tryz.func27, Tryz.ntmps27
  go_wp2_with fail
  refine (pick_any b a len cap z p _ _ h (by omega) (by omega)).mono ?_
  rintro e w1 ⟨v, rfl, hv0, hv1, r1, k1⟩
  obtain ⟨m, rfl⟩ := Int.eq_ofNat_of_zero_le hv0
  have hm7 : m ≤ 6 := by omega
  go_wp2
  go_loopw [5, 6] (fun s i wr => ∃ (k : Nat) (S : ByteArray) (p' : Nat), k ≤ m ∧ i = .int .i64 k ∧ s = .string S ∧ S.size ≤ most ∧ (∀ c ∈ S.data.toList, byteB c = true) ∧ p' + 5 * k ≤ p + 1 + 5 * m ∧ Rd wr b a len cap z p' ∧ Aside b w wr) (fun s i wr => (intOf i).toNat)
  case atStart => exact ⟨m, ⟨#[]⟩, p + 1, Nat.le_refl _, rfl, rfl, Nat.zero_le _, (fun c hc => by cases hc), Nat.le_refl _, r1, Aside.ofBut k1⟩
  case round =>
    obtain ⟨k, S, p', hk, rfl, rfl, hS, hSb, hp', r, sd⟩ := hrel
    by_cases h0 : 0 < k
    · have h0' : (0 : Int) < k := by omega
      have hbl : b < wr.heap.size := blk r.c0
      have r2 := r.below ((Below.refl _ wr).alloc (Nat.le_refl _) (.cells (S10.map Value.string).toArray 9))
      have s2 := sd.alloc (.cells (S10.map Value.string).toArray 9)
      have hl := list_cells wr 9 S10
      go_wp2_with fail
      refine (ofs_any b a len cap z p' wr.heap.size 10 (fun i => S10.getD i ⟨#[]⟩) _ r2 (by omega) (by omega) (by omega) hl).mono ?_
      rintro e w3 ⟨j, _, rfl, r3, k3⟩
      have s3 := s2.but k3
      have hX := S10_short j
      have hXb := S10_bytes j
      generalize S10.getD j ⟨#[]⟩ = X at hX hXb
      have HSB := (show Hid (∀ c ∈ S.data.toList, byteB c = true) from hSb)
      have HXB := (show Hid (∀ c ∈ X.data.toList, byteB c = true) from hXb)
      clear hSb hXb
      clear r2 s2 hl k3
      go_wp2_with fail
      refine (pick_any b a len cap z (p' + 1) _ _ r3 (by omega) (by omega)).mono ?_
      rintro e w4 ⟨v4, rfl, q0, q1, r4, k4⟩
      have s4 := s3.but k4
      clear k4 r3 s3
      by_cases h3 : v4 < 3
      · go_wp2_with fail
        refine (l71_any b a len cap z (p' + 1 + 1) _ r4 (by omega)).mono ?_
        rintro e w5 ⟨x, y, p5, rfl, hxy, hp5, r5, k5⟩
        have s5 := s4.trans k5
        clear k5 r4 s4
        go_wp2_with fail
        refine (specText _ _ _).mono ?_
        rintro e w6 ⟨rfl, k6⟩
        have r6 := r5.below k6
        have s6 := s5.trans (Aside.ofBelow k6)
        have hz := txt_four x y
        have hnb := name_bytes x y
        clear k6 r5 s5
        generalize txt x y = T at hz hnb
        have HNB := (show Hid (∀ c ∈ (⟨#[64]⟩ ++ T ++ ⟨#[59]⟩ : ByteArray).data.toList, byteB c = true) from hnb)
        clear hnb
        go_wp2
        all_goals
          go_roundw
          case rel =>
            refine ⟨k - 1, _, _, by omega, by go_num, rfl, ?_, ?_, ?_, r6, s6⟩
            · first | exact hS | (have e64 : (⟨#[64]⟩ : ByteArray).size = 1 := rfl; have e59 : (⟨#[59]⟩ : ByteArray).size = 1 := rfl; simp only [ByteArray.size_append]; omega)
            · first | exact HSB.out | exact app_bytes HSB.out HNB.out | exact app_bytes HSB.out HXB.out
            · omega
          case measure => simp [intOf]; omega
      · have h3' : 3 ≤ v4 := by omega
        go_wp2
        all_goals
          go_roundw
          case rel =>
            refine ⟨k - 1, _, _, by omega, by go_num, rfl, ?_, ?_, ?_, r4, s4⟩
            · first | exact hS | (simp only [ByteArray.size_append]; omega)
            · first | exact HSB.out | exact app_bytes HSB.out HNB.out | exact app_bytes HSB.out HXB.out
            · omega
          case measure => simp [intOf]; omega
    · have h0' : (k : Int) ≤ 0 := by omega
      go_wp2
      go_ret
      exact ⟨S, p', rfl, hS, hSb, by omega, r, sd⟩

end Go.Proofs.YtdggchcapjidjabGreatDoor.Draw

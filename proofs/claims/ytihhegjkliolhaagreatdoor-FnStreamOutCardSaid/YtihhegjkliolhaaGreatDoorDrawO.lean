/- Walks: pairs that are drawn, and the room behind them. -/
import Derived.Test.YtihhegjkliolhaaGreatDoorDrawM
namespace Go.Proofs.YtihhegjkliolhaaGreatDoor.DrawM
open Go.RowKit Go.Proofs.YtihhegjkliolhaaGreatDoor.Kit Go.Proofs.YtihhegjkliolhaaGreatDoor.Rd Go.Proofs.YtihhegjkliolhaaGreatDoor.Draw Go.Proofs.YtihhegjkliolhaaGreatDoor.Mp Go.Proofs.YtihhegjkliolhaaGreatDoor.Mm Go.Proofs.YtihhegjkliolhaaGreatDoor.App Go.Proofs.YtihhegjkliolhaaGreatDoor.Ms
set_option linter.unusedSimpArgs false
set_option linter.unusedVariables false

/-- the block of a slice of pairs has room as far as the slice says -/
def RoomM (W : World) (v : Value) : Prop := ∀ g o n c, v = .slice (some ⟨g, o, none⟩) n c → n ≤ c ∧ ∃ cur, W.heap[g]? = some (.cells cur 79 (0, 0)) ∧ o + c * 3 ≤ cur.size
theorem room_of_row {W : World} {b n : Nat} {v : Value} {xs : List Value} (h : W.ownsRow b 79 3 v n xs) : RoomM W v := by
  intro g o n' c hv
  rcases h.2 with ⟨rfl, _⟩ | ⟨g', cap, cur, rfl, hb, hg, hnc, hcm, hcs, htake⟩
  · cases hv
  · simp at hv
    obtain ⟨⟨rfl, rfl⟩, rfl, rfl⟩ := hv
    exact ⟨hnc, cur, hg, by omega⟩
theorem RoomM.tail {W : World} {g n c : Nat} (h : RoomM W (.slice (some ⟨g, 0, none⟩) n c)) (hn : 0 < n) (hc : 0 < c) : RoomM W (.slice (some ⟨g, 3, none⟩) (n - 1) (c - 1)) := by
  intro g' o n' c' hv
  simp at hv
  obtain ⟨⟨rfl, rfl⟩, rfl, rfl⟩ := hv
  obtain ⟨h1, cur, h2, h3⟩ := h g 0 n c rfl
  exact ⟨by omega, cur, h2, by omega⟩
theorem RoomM.tail1 {W : World} {g n c : Nat} (h : RoomM W (.slice (some ⟨g, 0, none⟩) n c)) : RoomM W (.slice (some ⟨g, 0, none⟩) 0 0) := by
  intro g' o n' c' hv
  simp at hv
  obtain ⟨⟨rfl, rfl⟩, rfl, rfl⟩ := hv
  obtain ⟨h1, cur, h2, h3⟩ := h g 0 n c rfl
  exact ⟨Nat.le_refl _, cur, h2, by omega⟩
theorem RoomM.aside {W W' : World} {v : Value} {b : Nat} (h : RoomM W v) (k : Aside b W W') (hv : ∀ g o n c, v = .slice (some ⟨g, o, none⟩) n c → g ≠ b) : RoomM W' v := by
  intro g o n c e
  obtain ⟨h1, cur, h2, h3⟩ := h g o n c e
  exact ⟨h1, cur, (k.block g (Array.getElem?_eq_some_iff.1 h2).1 (hv g o n c e)).trans h2, h3⟩

set_option maxRecDepth 8000 in
set_option maxHeartbeats 8000000 in
theorem map_room (b : Nat) (a : Option Addr) (len cap : Nat) (z : Nat → Int) (p : Nat) (w : World) (h : Rd w b a len cap z p) (hp : p ≤ 1000000) :
    Calls Tryz.prog 50 #[.pointer (some ⟨b, 0, none⟩)] w fun e w' => ∃ v m p', e = .returned v ∧ IsM w' v m ∧ m.length ≤ 9 ∧ Small m ∧ NewM w.heap.size v ∧ p' ≤ p + 100 ∧ Rd w' b a len cap z p' ∧ Aside b w w' ∧ RoomM w' v := by
  obtain ⟨i0, hi, hz0, hz1, hz2⟩ := info_parts infoM
  have hb : b < w.heap.size := blk h.c0
  have bA : Below w.heap.size w (w.alloc (.cells #[] 79)) := (Below.refl _ _).alloc (Nat.le_refl _) _
  have hnew := World.ownsRow_made (base := w.heap.size) (e := 79) (size := 3) w #[] 0 (Nat.le_refl _) (Nat.zero_le _) rfl
  go_enter Tryz.func50, Tryz.ntmps50
  go_wp2_with fail
  refine (pick_any b a len cap z p _ _ (h.below bA) (by omega) (by omega)).mono ?_
  rintro e w1 ⟨v, rfl, hv0, hv1, r1, k1⟩
  obtain ⟨m, rfl⟩ := Int.eq_ofNat_of_zero_le hv0
  have hm9 : m ≤ 9 := by omega
  have s1 : Aside b w w1 := (Aside.ofBelow bA).but k1
  have hnew1 := row_but hnew k1 hb
  clear hnew k1
  go_wp2
  go_loopw [3, 4] (fun s i wr => ∃ (k : Nat) (es : List (Int × Int)) (p' : Nat), k ≤ m ∧ i = .int .i64 k ∧ GoodE es ∧ wr.ownsRow w.heap.size 79 3 s es.length (cellsM (prs es)) ∧ p' + 2 * k ≤ p + 1 + 2 * m ∧ Rd wr b a len cap z p' ∧ Aside b w wr) (fun s i wr => (intOf i).toNat)
  case atStart => exact ⟨m, [], p + 1, Nat.le_refl _, rfl, GoodE.nil, hnew1, Nat.le_refl _, r1, s1⟩
  case round =>
    obtain ⟨k, es, p', hk, rfl, hg, hrow, hp', r, sd⟩ := hrel
    by_cases h0 : 0 < k
    · have h0' : (0 : Int) < k := by omega
      go_wp2_with fail
      refine (pick_any b a len cap z p' _ _ r (by omega) (by omega)).mono ?_
      rintro e w2 ⟨x, rfl, hx0, hx1, r2, k2⟩
      have hrow2 := row_but hrow k2 hb
      have s2 := sd.but k2
      clear k2 r hrow sd
      go_wp2_with fail
      refine (pick_any b a len cap z (p' + 1) _ _ r2 (by omega) (by omega)).mono ?_
      rintro e w3 ⟨y, rfl, hy0, hy1, r3, k3⟩
      have hrow3 := row_but hrow2 k3 hb
      have s3 := s2.but k3
      clear k3 r2 hrow2 s2
      go_wp2_with fail
      refine (lout_any _ w.heap.size s3.size _ es hg hrow3 (1 + x, 1 + y)).mono ?_
      rintro e w4 ⟨v4, rfl, hrow4, k4⟩
      have r4 := rd_base h r3 k4
      have s4 := aside_base s3 k4
      have hg4 := outE_good es (1 + x, 1 + y) hg (inB_mk _ _ (by omega))
      clear k4 r3 hrow3 s3
      go_wp2
      go_roundw
      case rel => exact ⟨k - 1, _, p' + 1 + 1, by omega, by go_num, hg4, hrow4, by omega, r4, s4⟩
      case measure => simp [intOf]; omega
    · have h0' : (k : Int) ≤ 0 := by omega
      have h8 := hg.len
      have hsm := small_prs es hg
      go_wp2_with fail
      refine (pick_any b a len cap z p' _ _ r (by omega) (by omega)).mono ?_
      rintro e w2 ⟨x, rfl, hx0, hx1, r2, k2⟩
      have hrow2 := row_but hrow k2 hb
      have s2 := sd.but k2
      clear k2 r hrow sd
      by_cases x0 : x = 0
      · subst x0
        go_wp2_with fail
        refine (pick_any b a len cap z (p' + 1) _ _ r2 (by omega) (by omega)).mono ?_
        rintro e w3 ⟨y, rfl, hy0, hy1, r3, k3⟩
        have hrow3 := row_but hrow2 k3 hb
        have s3 := s2.but k3
        clear k3 r2 hrow2 s2
        go_wp2_with fail
        refine (l71_any b a len cap z (p' + 1 + 1) _ r3 (by omega)).mono ?_
        rintro e w4 ⟨ex, ey, p4, rfl, hxy, hp4, r4, k4⟩
        have hrow4 := row_aside hrow3 k4 hb
        have s4 := s3.trans k4
        clear k4 r3 hrow3 s3
        go_wp2_with (at_builtin; refine wpList_append_own_at _ rfl _ _ 23 rfl w.heap.size 79 i0 (.agg #[.int .i64 0, .int .i64 0, .int .i64 0]) 3 24 Tryz.underlying23 hi hz0 hz1 hz2 rfl (by decide) _ _ _ rfl (hrow4.alloc _) ⟨w4.heap.size, 0, none⟩ 1 1 [.int .i64 (10 + y), .int .i64 ex, .int .i64 ey] rfl rfl (three_at _ _ _ _ _ _ rfl) (by simp [Value.oneCell']) (by unfold maxLen; omega) (by omega) (by have := s4.size; simp; omega) ?_; intro v' w5 hown' hgrow _ _)
        go_ret
        have hz4 := s4.size
        have k5 : Below w.heap.size w4 w5 := ((Below.refl _ _).alloc hz4 _).trans (grown_below hgrow (by simp; omega) (fun k hk => (hrow4.lt k hk).1))
        refine ⟨v', prs es ++ [(10 + y, ex, ey)], p4, rfl, isM_of_row (by rw [cellsM_snoc, List.length_append, prs_len]; exact hown'), by rw [List.length_append, prs_len]; simp; omega, ?_, newM_row hown', by omega, rd_base h r4 k5, aside_base s4 k5, room_of_row hown'⟩
        intro q hq
        rw [List.mem_append] at hq
        rcases hq with hq | hq
        · exact hsm q hq
        · simp at hq; subst hq
          refine ⟨⟨?_, ?_⟩, ⟨?_, ?_⟩, ⟨?_, ?_⟩⟩ <;> simp <;> omega
      · have x0' : (x == 0) = false := by simpa using x0
        by_cases x1 : x = 1
        · subst x1
          rcases hrow2.2 with ⟨rfl, h0⟩ | ⟨g, cp, cur, rfl, hbg, hgg, hnc, hcm, _, _⟩
          · go_wp2
            go_ret
            exact ⟨_, prs es, p' + 1, rfl, isM_of_row (by rw [prs_len]; exact hrow2), by rw [prs_len]; omega, hsm, newM_row hrow2, by omega, r2, s2, room_of_row hrow2⟩
          · by_cases hl0 : es.length = 0
            · obtain rfl : es = [] := List.length_eq_zero_iff.1 hl0
              go_wp2
              go_ret
              exact ⟨_, prs [], p' + 1, rfl, isM_of_row (by rw [prs_len]; exact hrow2), by rw [prs_len]; omega, hsm, newM_row hrow2, by omega, r2, s2, room_of_row hrow2⟩
            · have hl0' : (0 : Int) < (es.length : Int) := by omega
              clear hgg
              go_wp2_with fail
              refine (pick_any b a len cap z (p' + 1) _ _ r2 (by omega) (by omega)).mono ?_
              rintro e w3 ⟨y, rfl, hy0, hy1, r3, k3⟩
              obtain ⟨j, rfl⟩ := Int.eq_ofNat_of_zero_le hy0
              have hrow3 := row_but hrow2 k3 hb
              have s3 := s2.but k3
              clear k3 r2 hrow2 s2
              go_wp2_with fail
              refine (l71_any b a len cap z (p' + 1 + 1) _ r3 (by omega)).mono ?_
              rintro e w4 ⟨ex, ey, p4, rfl, hxy, hp4, r4, k4⟩
              have hrow4 := row_aside hrow3 k4 hb
              have s4 := s3.trans k4
              clear k4 r3 hrow3 s3
              have hjl : j < es.length := by omega
              have hxl : (cellsM (prs es)).length = es.length * 3 := by rw [cellsM_len, prs_len]
              obtain ⟨u1, hu1⟩ : ∃ u, (cellsM (prs es))[j * 3 + 1]? = some u := ⟨_, List.getElem?_eq_getElem (by omega)⟩
              obtain ⟨u2, hu2⟩ : ∃ u, (cellsM (prs es))[j * 3 + 2]? = some u := ⟨_, List.getElem?_eq_getElem (by omega)⟩
              have c1 := (hrow4.cellAt (j * 3 + 1) (by omega)).trans hu1
              have c2 := (hrow4.cellAt (j * 3 + 2) (by omega)).trans hu2
              have g1 := hrow4.frozenAt (j * 3 + 1)
              have g2 := hrow4.frozenAt (j * 3 + 2)
              have HR : Hid (w4.ownsRow w.heap.size 79 3 (.slice (some ⟨g, 0, none⟩) es.length cp) es.length (cellsM (prs es))) := hrow4
              clear hrow4 hu1 hu2 hxl
              go_wp2
              go_ret
              have q1 := HR.out.stored (j * 3 + 1) (.int .i64 ex)
              have q2 := q1.1.stored (j * 3 + 2) (.int .i64 ey)
              have hr5 := q2.1
              have k5 : Below w.heap.size w4 ((w4.setCell ⟨g, j * 3 + 1, none⟩ (.int .i64 ex)).setCell ⟨g, j * 3 + 2, none⟩ (.int .i64 ey)) := ((Below.refl _ _).setCell (p := ⟨g, j * 3 + 1, none⟩) hbg _).setCell (p := ⟨g, j * 3 + 2, none⟩) hbg _
              refine ⟨.slice (some ⟨g, 0, none⟩) es.length cp, (prs es).modify j (fun q => (q.1, ex, ey)), p4, rfl, .inr ⟨g, 0, cp, by rw [List.length_modify, prs_len], by rw [List.length_modify, prs_len]; exact hnc, hcm, (hr5.lt g rfl).2, fun i q hq => ?_⟩, by rw [List.length_modify, prs_len]; omega, ?_, newM_row hr5, by omega, rd_base h r4 k5, aside_base s4 k5, room_of_row hr5⟩
              · rw [List.getElem?_modify] at hq
                have hil : i < es.length := by
                  cases e : (prs es)[i]? with
                  | none => rw [e] at hq; cases hq
                  | some _ => have := (List.getElem?_eq_some_iff.1 e).1; rwa [prs_len] at this
                have hip : i < (prs es).length := by rw [prs_len]; exact hil
                have hp0 : (prs es)[i]? = some (prs es)[i] := List.getElem?_eq_getElem hip
                obtain ⟨t0, t1, t2⟩ := cellsM_at (prs es) i _ hp0
                generalize (prs es)[i] = r0 at hp0 t0 t1 t2
                rw [hp0] at hq
                rw [Nat.zero_add]
                have hL : (cellsM (prs es)).length = es.length * 3 := by rw [cellsM_len, prs_len]
                refine ⟨(hr5.cellAt (i * 3) (by omega)).trans ?_, (hr5.cellAt (i * 3 + 1) (by omega)).trans ?_, (hr5.cellAt (i * 3 + 2) (by omega)).trans ?_⟩
                · rw [List.getElem?_set_ne (by omega), List.getElem?_set_ne (by omega), t0]
                  split at hq <;> (simp at hq; rw [← hq])
                · rw [List.getElem?_set_ne (by omega)]
                  by_cases e : j = i
                  · subst e
                    rw [List.getElem?_set_self (by omega)]
                    simp at hq; rw [← hq]
                  · rw [List.getElem?_set_ne (by omega), t1]
                    simp [e] at hq; rw [← hq]
                · by_cases e : j = i
                  · subst e
                    rw [List.getElem?_set_self (by simp; omega)]
                    simp at hq; rw [← hq]
                  · rw [List.getElem?_set_ne (by omega), List.getElem?_set_ne (by omega), t2]
                    simp [e] at hq; rw [← hq]
              · intro q hq
                obtain ⟨i, hi⟩ := List.mem_iff_getElem?.1 hq
                rw [List.getElem?_modify] at hi
                cases e : (prs es)[i]? with
                | none => rw [e] at hi; cases hi
                | some r0 =>
                  rw [e] at hi
                  have hs := hsm r0 (List.mem_of_getElem? e)
                  by_cases e2 : j = i
                  · simp [e2] at hi
                    subst hi
                    refine ⟨hs.1, ⟨?_, ?_⟩, ⟨?_, ?_⟩⟩ <;> simp <;> omega
                  · simp [e2] at hi
                    subst hi; exact hs
        · have x1' : (x == 1) = false := by simpa using x1
          by_cases x2 : x = 2
          · subst x2
            rcases hrow2.2 with ⟨rfl, h0⟩ | ⟨g, cp, cur, rfl, hbg, hgg, hnc, hcm, _, _⟩
            · go_wp2
              go_ret
              exact ⟨_, prs es, p' + 1, rfl, isM_of_row (by rw [prs_len]; exact hrow2), by rw [prs_len]; omega, hsm, newM_row hrow2, by omega, r2, s2, room_of_row hrow2⟩
            · by_cases hl0 : es.length = 0
              · obtain rfl : es = [] := List.length_eq_zero_iff.1 hl0
                go_wp2
                go_ret
                exact ⟨_, prs [], p' + 1, rfl, isM_of_row (by rw [prs_len]; exact hrow2), by rw [prs_len]; omega, hsm, newM_row hrow2, by omega, r2, s2, room_of_row hrow2⟩
              · have hl0' : (0 : Int) < (es.length : Int) := by omega
                clear hgg
                have hI : IsM w2 (.slice (some ⟨g, 0, none⟩) es.length cp) (prs es) := isM_of_row (by rw [prs_len]; exact hrow2)
                have HR2 : Hid (RoomM w2 (.slice (some ⟨g, 0, none⟩) es.length cp)) := room_of_row hrow2
                have hlt := (hrow2.lt g rfl).2
                have hdl : ((prs es).drop 1).length = es.length - 1 := by rw [List.length_drop, prs_len]
                have hsm2 : Small ((prs es).drop 1) := fun q hq => hsm q (List.mem_of_mem_drop hq)
                by_cases hc1 : cp = 1
                · subst hc1
                  have hnil : (prs es).drop 1 = [] := List.length_eq_zero_iff.1 (by rw [hdl]; omega)
                  clear hrow2 hI
                  go_wp2
                  go_ret
                  refine ⟨.slice (some ⟨g, 0, none⟩) 0 0, [], p' + 1, ?_, .inr ⟨g, 0, 0, rfl, Nat.zero_le _, Nat.zero_le _, hlt, ?_⟩, Nat.zero_le _, ?_, ?_, by omega, r2, s2, ?_⟩
                  · rfl
                  · intro i q hq; simp at hq
                  · intro q hq; simp at hq
                  · intro g' o n c e; simp at e; omega
                  · exact HR2.out.tail1
                · clear hrow2
                  go_wp2
                  go_ret
                  refine ⟨.slice (some ⟨g, 3, none⟩) (es.length - 1) (cp - 1), (prs es).drop 1, p' + 1, rfl, .inr ⟨g, 3, cp - 1, by rw [hdl], by rw [hdl]; omega, by omega, hlt, fun i q hq => ?_⟩, by rw [hdl]; omega, hsm2, fun g' o n c e => by simp at e; omega, by omega, r2, s2, HR2.out.tail (by omega) (by omega)⟩
                  rw [List.getElem?_drop] at hq
                  obtain ⟨_, _, ea, _, _, _, hat⟩ := isM_at hI (1 + i) q hq
                  simp at ea
                  obtain ⟨rfl, rfl⟩ := ea
                  rw [show 3 + i * 3 = 0 + (1 + i) * 3 by omega]; exact hat
          · have x2' : (x == 2) = false := by simpa using x2
            go_wp2
            go_ret
            exact ⟨_, prs es, p' + 1, rfl, isM_of_row (by rw [prs_len]; exact hrow2), by rw [prs_len]; omega, hsm, newM_row hrow2, by omega, r2, s2, room_of_row hrow2⟩

/-- appending where there is room, at a slice that lies anywhere in its block -/
theorem run_append_room_at {P : Program} (w : World) (t ty e : TypeId) (i : TypeInfo) (ht : P.underlying t = some (.slice e)) (hi : P.info? e = some i)
    (g o sLen sCap : Nat) (cur : Array Value) (hg : w.heap[g]? = some (.cells cur e (0, 0)))
    (a : Addr) (m c : Nat) (news : List Value) (hl : news.length = m * i.size) (hnews : ∀ j u, news[j]? = some u → w.cell? (a.add j) = some u) (h1 : ∀ u ∈ news, u.oneCell' = true)
    (hroom : sLen + m ≤ sCap) (hfit : o + sLen * i.size + news.length ≤ cur.size) :
    (Builtin.append_ #[t, t] ty #[.slice (some ⟨g, o, none⟩) sLen sCap, .slice (some a) m c]).run P w =
      .ok (.slice (some ⟨g, o, none⟩) (sLen + m) sCap) (w.setRow g (cur.toList.take (o + sLen * i.size) ++ news ++ cur.toList.drop (o + sLen * i.size + news.length)).toArray) := by
  have hf := run_firstCells_some (P := P) w i.size m a m c news hl hnews
  have hst := run_storeCells_at P g (o + sLen * i.size) e news 0 cur w hg (by simpa using hfit) h1
  simp only [Nat.add_zero] at hst
  simp [Builtin.append_, run_underlying ht, sizeOf, typeInfo, hi, Builtin.lenOf, hroom, hf, Addr.add_lit, hst]

/-- a pair more behind pairs that are the call's own -/
theorem run_append_M {P : Program} (w : World) (base : Nat) (hb : base ≤ w.heap.size) (t ty : TypeId) (i : TypeInfo) (ht : P.underlying t = some (.slice 79)) (hi : P.info? 79 = some i) (hz : i.zero = some (.agg #[.int .i64 0, .int .i64 0, .int .i64 0])) (hsize : i.size = 3) (hby : i.bytes = 24)
    (v : Value) (m : List (Int × Int × Int)) (hm : IsM w v m) (hr : RoomM w v) (hn : NewM base v) (hl : m.length ≤ 100) (ad : Addr) (p : Int × Int × Int) (hc : ∀ j u, [Value.int .i64 p.1, .int .i64 p.2.1, .int .i64 p.2.2][j]? = some u → w.cell? (ad.add j) = some u) :
    ∃ v' w', (Builtin.append_ #[t, t] ty #[v, .slice (some ad) 1 1]).run P w = .ok v' w' ∧ IsM w' v' (m ++ [p]) ∧ Below base w w' := by
  have hnl : [Value.int .i64 p.1, .int .i64 p.2.1, .int .i64 p.2.2].length = 1 * 3 := rfl
  have h1c : ∀ u ∈ [Value.int .i64 p.1, .int .i64 p.2.1, .int .i64 p.2.2], u.oneCell' = true := by simp [Value.oneCell']
  rcases hm with ⟨rfl, rfl⟩ | ⟨g, o, cap, rfl, hcap, hmax, hlt, hat⟩
  · obtain ⟨v', w', hrun, hrow, hg, _⟩ := run_append_own2 (P := P) w base t ty 79 i _ 3 24 ht hi hz hsize hby rfl (by omega) (.slice none 0 0) 0 [] (World.ownsRow_nil _ _ _ _) ad 1 1 _ hnl hc h1c (by unfold maxLen; omega) (by omega) hb
    refine ⟨v', w', hrun, isM_of_row (b := base) (e := 79) (by simpa [cellsM] using hrow), ⟨hg.os, hg.tape, hg.output, hg.size, fun k hk => hg.block k (by omega) (by simp [Value.ownBlock])⟩⟩
  · obtain ⟨_, cur, hcur, hfit⟩ := hr g o _ cap rfl
    have hbg := hn g o _ cap rfl
    by_cases hroom : m.length + 1 ≤ cap
    · have hrun := run_append_room_at (P := P) w t ty 79 i ht hi g o m.length cap cur hcur ad 1 1 _ (by rw [hsize]; exact hnl) hc h1c hroom (by rw [hsize, hnl]; omega)
      rw [hsize] at hrun
      refine ⟨_, _, hrun, .inr ⟨g, o, cap, by rw [List.length_append]; rfl, by rw [List.length_append]; exact hroom, hmax, by simpa using hlt, fun k q hq => ?_⟩, ⟨rfl, rfl, rfl, by simp, fun k hk => setRow_other w g k _ (by omega)⟩⟩
      have hsz : cur.toList.length = cur.size := Array.length_toList
      have key : ∀ (j : Nat) (u : Value), (cur.toList.take (o + m.length * 3) ++ [Value.int .i64 p.1, .int .i64 p.2.1, .int .i64 p.2.2] ++ cur.toList.drop (o + m.length * 3 + [Value.int .i64 p.1, .int .i64 p.2.1, .int .i64 p.2.2].length))[j]? = some u → (w.setRow g (cur.toList.take (o + m.length * 3) ++ [Value.int .i64 p.1, .int .i64 p.2.1, .int .i64 p.2.2] ++ cur.toList.drop (o + m.length * 3 + [Value.int .i64 p.1, .int .i64 p.2.1, .int .i64 p.2.2].length)).toArray).cell? ⟨g, j, none⟩ = some u := by
        intro j u hj
        have hh := setRow_heap w g cur (cur.toList.take (o + m.length * 3) ++ [Value.int .i64 p.1, .int .i64 p.2.1, .int .i64 p.2.2] ++ cur.toList.drop (o + m.length * 3 + [Value.int .i64 p.1, .int .i64 p.2.1, .int .i64 p.2.2].length)).toArray 79 (0, 0) hcur
        simp only [World.cell?, hh]
        simpa using hj
      have old : ∀ j u, j < o + m.length * 3 → w.cell? ⟨g, j, none⟩ = some u → (cur.toList.take (o + m.length * 3) ++ [Value.int .i64 p.1, .int .i64 p.2.1, .int .i64 p.2.2] ++ cur.toList.drop (o + m.length * 3 + [Value.int .i64 p.1, .int .i64 p.2.1, .int .i64 p.2.2].length))[j]? = some u := by
        intro j u hj hu
        simp only [World.cell?, hcur] at hu
        have ht : (cur.toList.take (o + m.length * 3)).length = o + m.length * 3 := by rw [List.length_take, hsz]; omega
        rw [List.append_assoc, List.getElem?_append_left (by omega), List.getElem?_take_of_lt hj]
        simpa using hu
      by_cases hk : k < m.length
      · rw [List.getElem?_append_left hk] at hq
        obtain ⟨t0, t1, t2⟩ := hat k q hq
        exact ⟨key _ _ (old _ _ (by omega) t0), key _ _ (old _ _ (by omega) t1), key _ _ (old _ _ (by omega) t2)⟩
      · have hk2 : k = m.length := by
          have := (List.getElem?_eq_some_iff.1 hq).1
          simp at this; omega
        subst hk2
        simp at hq
        subst hq
        have ht : (cur.toList.take (o + m.length * 3)).length = o + m.length * 3 := by rw [List.length_take, hsz]; omega
        refine ⟨key _ _ ?_, key _ _ ?_, key _ _ ?_⟩
        · rw [List.append_assoc, List.getElem?_append_right (by omega), ht, Nat.sub_self]; rfl
        · rw [List.append_assoc, List.getElem?_append_right (by omega), ht, show o + m.length * 3 + 1 - (o + m.length * 3) = 1 by omega]; rfl
        · rw [List.append_assoc, List.getElem?_append_right (by omega), ht, show o + m.length * 3 + 2 - (o + m.length * 3) = 2 by omega]; rfl
    · have holds : ∀ j u, (cellsM m)[j]? = some u → w.cell? ((⟨g, o, none⟩ : Addr).add j) = some u := by
        intro j u hj
        have hjl := (List.getElem?_eq_some_iff.1 hj).1
        rw [cellsM_len] at hjl
        have hk : j / 3 < m.length := by omega
        obtain ⟨a0, a1, a2⟩ := cellsM_at m (j / 3) _ (List.getElem?_eq_getElem hk)
        obtain ⟨t0, t1, t2⟩ := hat (j / 3) _ (List.getElem?_eq_getElem hk)
        rw [Addr.add_lit]
        have hc3 : j = j / 3 * 3 ∨ j = j / 3 * 3 + 1 ∨ j = j / 3 * 3 + 2 := by omega
        rcases hc3 with e | e | e
        · rw [← e] at a0; rw [hj] at a0; rw [show o + j = o + j / 3 * 3 by omega, t0, ← a0]
        · rw [← e] at a1; rw [hj] at a1; rw [show o + j = o + j / 3 * 3 + 1 by omega, t1, ← a1]
        · rw [← e] at a2; rw [hj] at a2; rw [show o + j = o + j / 3 * 3 + 2 by omega, t2, ← a2]
      obtain ⟨v', w', hrun, hrow, hg⟩ := run_append_arg_grows (P := P) w t ty 79 i _ 3 24 ht hi hz hsize hby rfl (by omega) ⟨g, o, none⟩ m.length cap (cellsM m) (cellsM_len m) holds ad 1 1 _ hnl hc (by omega) (by unfold maxLen; omega) (by omega)
      refine ⟨v', w', hrun, isM_of_row (b := w.heap.size) (e := 79) (by rw [cellsM_snoc, List.length_append]; exact hrow), ⟨hg.os, hg.tape, hg.output, hg.size, fun k hk => hg.block k (by omega) (by simp)⟩⟩
theorem wpList_append_M {P : Program} (w : World) {ops : Array Oper} {rest : List Oper} {o : Oper} {a : Act} {Q : Exit → Act → World → Prop} (hgd : o.guard = none) (s x : Operand) (t : TypeId) (hop : o.op = Op.call { callee := Callee.builtin Builtin.append, args := #[s, x], argTypes := #[t, t] })
    (base : Nat) (hb : base ≤ w.heap.size) (i : TypeInfo) (ht : P.underlying t = some (.slice 79)) (hi : P.info? 79 = some i) (hz : i.zero = some (.agg #[.int .i64 0, .int .i64 0, .int .i64 0])) (hsize : i.size = 3) (hby : i.bytes = 24)
    (v : Value) (hs : a.eval s = v) (m : List (Int × Int × Int)) (hm : IsM w v m) (hr : RoomM w v) (hn : NewM base v) (hl : m.length ≤ 100) (ad : Addr) (hx : a.eval x = .slice (some ad) 1 1) (p : Int × Int × Int) (hc : ∀ j u, [Value.int .i64 p.1, .int .i64 p.2.1, .int .i64 p.2.2][j]? = some u → w.cell? (ad.add j) = some u)
    (hK : ∀ v' w', IsM w' v' (m ++ [p]) → Below base w w' → wpList P ops Q rest (a.put o.dst v') w') : wpList P ops Q (o :: rest) a w := by
  refine wpList_plain hgd fun K hK' => ?_
  obtain ⟨v', w', hrun, r1, r2⟩ := run_append_M (P := P) w base hb t o.type i ht hi hz hsize hby v m hm hr hn hl ad p hc
  unfold Oper.wp
  simp [execOp, hop, resolve, invoke, builtin, hs, hx, hrun, Result.andThen]
  exact hK' _ _ (hK v' w' r1 r2)

end Go.Proofs.YtihhegjkliolhaaGreatDoor.DrawM

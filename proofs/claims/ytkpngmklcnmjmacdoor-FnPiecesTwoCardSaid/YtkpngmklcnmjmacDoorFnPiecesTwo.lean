/- The walk of the law on two texts, one behind the other: it answers true. -/
import Derived.Test.YtkpngmklcnmjmacDoorLzP
import Derived.Test.YtkpngmklcnmjmacDoorDrawT
import Derived.Test.YtkpngmklcnmjmacDoorLaid
namespace Go.Proofs.YtkpngmklcnmjmacDoor.LPiecesTwo
open Go.Proofs.YtkpngmklcnmjmacDoor.LzP
open Go.RowKit Go.Shelf Go.Proofs.YtkpngmklcnmjmacDoor.Kit Go.Proofs.YtkpngmklcnmjmacDoor.Draw Go.Proofs.YtkpngmklcnmjmacDoor.Tx Go.Proofs.YtkpngmklcnmjmacDoor.Pcs Go.Proofs.YtkpngmklcnmjmacDoor.Lz Go.Proofs.YtkpngmklcnmjmacDoor.App
open Go.Proofs.YtkpngmklcnmjmacDoor.TxW (sok_any held_any)
open Go.Proofs.YtkpngmklcnmjmacDoor.Read (Errs)
attribute [local go_sem] Oper.semAt_some
set_option linter.unusedSimpArgs false
set_option linter.unusedVariables false

theorem app_l (s t : ByteArray) : (s ++ t).data.toList = s.data.toList ++ t.data.toList := by simp [ByteArray.data_append]

/-- two texts, one behind the other, nothing held of the first -/
theorem pie_two (a b : List UInt8) (ha : okB a = true) (hb : okB b = true) (hl : a.length + b.length ≤ 40) (h0 : heldN a = 0) :
    okB (a ++ b) = true ∧ heldN (a ++ b) = heldN b ∧ pieL (a ++ b) = pieL a ++ pieL b := by
  have ho := ok_app a b ha hb hl
  have hh : heldN (a ++ b) = heldN b := by rw [heldN_app, h0]; rfl
  refine ⟨ho, hh, ?_⟩
  have hlb := heldN_len b
  have e : bd (a ++ b) = a ++ bd b := by
    show (a ++ b).take ((a ++ b).length - heldN (a ++ b)) = _
    rw [hh, List.length_append, List.take_append, List.take_of_length_le (by omega), show a.length + b.length - heldN b - a.length = b.length - heldN b by omega]; rfl
  have e0 : bd a = a := by
    have := bd_hp a
    rw [hp_none a h0, List.append_nil] at this; exact this
  rw [pie_ok _ ho, pie_ok _ ha, pie_ok _ hb, e, pcs_app a _ (nc_held a _ h0), e0]

theorem cells_src {W : World} {g o : Nat} {ps : List Pc} (h : ∀ (i : Nat) (p : Pc), ps[i]? = some p → At4 W g (o + i * 4) p) : ∀ j u, (cellsP ps)[j]? = some u → W.cell? ((⟨g, o, none⟩ : Addr).add j) = some u := by
  intro j u hu
  rw [Addr.add_lit]
  have hlen : (cellsP ps).length = ps.length * 4 := by
    clear h hu
    induction ps with
    | nil => rfl
    | cons p ps ih => simp [cellsP] at ih ⊢; omega
  have hj : j < ps.length * 4 := by
    rw [← hlen]
    rcases Nat.lt_or_ge j (cellsP ps).length with q | q
    · exact q
    · rw [List.getElem?_eq_none q] at hu; cases hu
  have hi : j / 4 < ps.length := by omega
  have hp := List.getElem?_eq_getElem hi
  obtain ⟨c0, c1, c2, c3⟩ := cellsP_at ps (j / 4) _ hp
  obtain ⟨d0, d1, d2, d3⟩ := h (j / 4) _ hp
  have hr : j % 4 = 0 ∨ j % 4 = 1 ∨ j % 4 = 2 ∨ j % 4 = 3 := by omega
  rcases hr with r | r | r | r
  · have e : j = j / 4 * 4 := by omega
    rw [← e] at c0 d0; rw [d0, ← c0]; exact hu
  · have e : j = j / 4 * 4 + 1 := by omega
    rw [← e] at c1; rw [show o + j / 4 * 4 + 1 = o + j by omega] at d1; rw [d1, ← c1]; exact hu
  · have e : j = j / 4 * 4 + 2 := by omega
    rw [← e] at c2; rw [show o + j / 4 * 4 + 2 = o + j by omega] at d2; rw [d2, ← c2]; exact hu
  · have e : j = j / 4 * 4 + 3 := by omega
    rw [← e] at c3; rw [show o + j / 4 * 4 + 3 = o + j by omega] at d3; rw [d3, ← c3]; exact hu
theorem cellsP_len (ps : List Pc) : (cellsP ps).length = ps.length * 4 := by
  induction ps with
  | nil => rfl
  | cons p ps ih => simp [cellsP] at ih ⊢; omega
theorem cellsP_app (ps qs : List Pc) : cellsP (ps ++ qs) = cellsP ps ++ cellsP qs := by simp [cellsP]
theorem cellsP_one (ps : List Pc) : ∀ u ∈ cellsP ps, u.oneCell' = true := by
  intro u hu
  simp [cellsP] at hu
  obtain ⟨p, _, h⟩ := hu
  rcases h with rfl | rfl | rfl | rfl <;> rfl

/-- pieces appended to a row of pieces -/
theorem run_append_ps (w : World) (base : Nat) (ty : TypeId) (v u : Value) (qs ps : List Pc) (hown : w.ownsRow base 34 4 v qs.length (cellsP qs)) (hu : IsP w u ps) (hm : qs.length + ps.length ≤ 1000) (hb : base ≤ w.heap.size) :
    ∃ v' w', (Builtin.append_ #[27, 27] ty #[v, u]).run Tryd.prog w = .ok v' w' ∧ w'.ownsRow base 34 4 v' (qs ++ ps).length (cellsP (qs ++ ps)) ∧ w.grownBy w' v.ownBlock := by
  obtain ⟨i0, hi, hz0, hz1, hz2⟩ := info_parts infoP
  rcases hu with ⟨rfl, rfl⟩ | ⟨g, o, c, rfl, _, _, hat⟩
  · refine ⟨v, w, run_append_owned_none w base _ ty _ i0 4 Tryd.underlying27 hi v _ _ hown, by rw [List.append_nil]; exact hown, ⟨rfl, rfl, rfl, Nat.le_refl _, fun _ _ _ => rfl⟩⟩
  · obtain ⟨v', w', h1, h2, h3, _⟩ := run_append_own2 w base 27 ty 34 i0 (.agg #[.int .i64 0, .bool false, .int .i64 0, .int .i64 0]) 4 32 Tryd.underlying27 hi hz0 hz1 hz2 rfl (by decide) v qs.length (cellsP qs) hown ⟨g, o, none⟩ ps.length c (cellsP ps) (cellsP_len ps) (cells_src hat) (cellsP_one ps) (by unfold maxLen; omega) (by omega) hb
    exact ⟨v', w', h1, by rw [List.length_append, cellsP_app]; exact h2, h3⟩

theorem wpList_append_ps (w : World) {ops : Array Oper} {rest : List Oper} {o : Oper} {a : Act} {Q : Exit → Act → World → Prop}
    (hg : o.guard = none) (s x : Operand) (hop : o.op = Op.call { callee := Callee.builtin Builtin.append, args := #[s, x], argTypes := #[27, 27] })
    (base : Nat) (v u : Value) (qs ps : List Pc) (hs : a.eval s = v) (hown : w.ownsRow base 34 4 v qs.length (cellsP qs)) (hx : a.eval x = u) (hu : IsP w u ps) (hm : qs.length + ps.length ≤ 1000) (hb : base ≤ w.heap.size)
    (hK : ∀ v' w', w'.ownsRow base 34 4 v' (qs ++ ps).length (cellsP (qs ++ ps)) → w.grownBy w' v.ownBlock → wpList Tryd.prog ops Q rest (a.put o.dst v') w') :
    wpList Tryd.prog ops Q (o :: rest) a w := by
  refine wpList_plain hg fun K hK' => ?_
  obtain ⟨v', w', hrun, r1, r2⟩ := run_append_ps w base o.type v u qs ps hown hu hm hb
  unfold Oper.wp execOp
  simp only [hop, resolve, invoke, builtin, Sem.run_bind, Sem.run_pure, Result.andThen_ok, List.map_toArray, List.map_cons, List.map_nil, hs, hx, hrun]
  exact hK' _ _ (hK v' w' r1 r2)

set_option maxHeartbeats 400000 in
theorem long (a0 a1 : Option Addr) (len0 cap0 len1 cap1 : Nat) (w : World) (h : (1048576 : Int) < (len0 : Int)) :
    Calls Tryd.prog 4 #[.slice a0 len0 cap0, .slice a1 len1 cap1] w fun e w' => e = .returned (.bool true) ∧ Below w.heap.size w w' := by
  go_enter Tryd.func4, Tryd.ntmps4
  go_wp2
  go_ret
  exact ⟨rfl, Below.refl _ _⟩
set_option maxHeartbeats 400000 in
theorem long2 (a0 a1 : Option Addr) (len0 cap0 len1 cap1 : Nat) (w : World) (h : (len0 : Int) ≤ 1048576) (h2 : (1048576 : Int) < (len1 : Int)) :
    Calls Tryd.prog 4 #[.slice a0 len0 cap0, .slice a1 len1 cap1] w fun e w' => e = .returned (.bool true) ∧ Below w.heap.size w w' := by
  go_enter Tryd.func4, Tryd.ntmps4
  go_wp2
  go_ret
  exact ⟨rfl, Below.refl _ _⟩

set_option maxRecDepth 8000 in
set_option maxHeartbeats 4000000 in
theorem short (a0 a1 : Option Addr) (len0 cap0 len1 cap1 : Nat) (z z1 : Nat → Int) (w : World) (hc : CodeIn w a0 len0 cap0 z) (hc1 : CodeIn w a1 len1 cap1 z1) (h : (len0 : Int) ≤ 1048576) (h2 : (len1 : Int) ≤ 1048576) (herr : Errs w) :
    Calls Tryd.prog 4 #[.slice a0 len0 cap0, .slice a1 len1 cap1] w fun e w' => e = .returned (.bool true) ∧ Below w.heap.size w w' := by
  go_enter Tryd.func4, Tryd.ntmps4
  go_wp2_with fail
  refine (drawTextPieces a0 len0 cap0 z _ hc).mono ?_
  rintro e w0 ⟨s, rfl, hs, k0⟩
  go_wp2_with fail
  refine (drawTextNames a1 len1 cap1 z1 _ (hc1.below k0)).mono ?_
  rintro e w1 ⟨t, rfl, ht, k1⟩
  have b1 := k0.trans (k1.mono k0.size)
  clear k0 k1
  have hmx : s.size ≤ maxLen := by unfold maxLen; omega
  have hmt : t.size ≤ maxLen := by unfold maxLen; omega
  obtain ⟨ps, hps⟩ : ∃ ps, pieL s.data.toList = ps := ⟨_, rfl⟩
  have hpl : ps.length ≤ 40 := by rw [← hps]; exact len_pie0 _
  go_wp2_with fail
  refine (pieces_is _ _ hps _ (herr.below b1)).mono ?_
  rintro e w2 ⟨v2, rfl, hv2, k2⟩
  have b2 := b1.trans (k2.mono b1.size)
  clear b1 k2
  go_wp2_with fail
  refine (spieces_is _ _ hps (by omega) _).mono ?_
  rintro e w3 ⟨v3, rfl, hv3, k3⟩
  have hv2' := hv2.below k3
  have b3 := b2.trans (k3.mono b2.size)
  clear b2 k3 hv2
  go_wp2_with fail
  refine (lz_true _ ps (by omega) _ _ hv2' hv3).mono ?_
  rintro e w4 ⟨rfl, k4⟩
  have hv4 := hv2'.below k4
  have b4 := b3.trans (k4.mono b3.size)
  clear b3 k4 hv2' hv3
  go_wp2_with fail
  refine (sok_any s hmx _).mono ?_
  rintro e w5 ⟨rfl, rfl⟩
  cases hok : okB s.data.toList
  · clear hmt
    go_wp2_with fail
    refine (spieces_is _ _ hps (by omega) _).mono ?_
    rintro e w6 ⟨v6, rfl, hv6, k6⟩
    have hv4' := hv4.below k6
    have b6 := b4.trans (k6.mono b4.size)
    go_wp2_with fail
    refine (lz_true _ ps (by omega) _ _ hv4' hv6).mono ?_
    rintro e w7 ⟨rfl, k7⟩
    go_wp2
    go_ret
    exact ⟨rfl, b6.trans (k7.mono b6.size)⟩
  · go_wp2_with fail
    refine (sok_any t hmt _).mono ?_
    rintro e w6 ⟨rfl, rfl⟩
    cases hot : okB t.data.toList
    · clear hmt
      go_wp2_with fail
      refine (spieces_is _ _ hps (by omega) _).mono ?_
      rintro e w6 ⟨v6, rfl, hv6, k6⟩
      have hv4' := hv4.below k6
      have b6 := b4.trans (k6.mono b4.size)
      go_wp2_with fail
      refine (lz_true _ ps (by omega) _ _ hv4' hv6).mono ?_
      rintro e w7 ⟨rfl, k7⟩
      go_wp2
      go_ret
      exact ⟨rfl, b6.trans (k7.mono b6.size)⟩
    · by_cases h40 : (40 : Int) < (s.size : Int) + (t.size : Int)
      · clear hmt
        go_wp2_with fail
        refine (spieces_is _ _ hps (by omega) _).mono ?_
        rintro e w6 ⟨v6, rfl, hv6, k6⟩
        have hv4' := hv4.below k6
        have b6 := b4.trans (k6.mono b4.size)
        go_wp2_with fail
        refine (lz_true _ ps (by omega) _ _ hv4' hv6).mono ?_
        rintro e w7 ⟨rfl, k7⟩
        go_wp2
        go_ret
        exact ⟨rfl, b6.trans (k7.mono b6.size)⟩
      · have h40' : (s.size : Int) + (t.size : Int) ≤ 40 := by omega
        clear h40
        obtain ⟨m, hm⟩ : ∃ m, hdN s.data.toList = m := ⟨_, rfl⟩
        have hm5 : m ≤ 5 := by rw [← hm, hd_ok _ hok]; exact heldN_le _
        go_wp2_with fail
        refine (held_is s m hm _).mono ?_
        rintro e w6 ⟨rfl, k6⟩
        have hv5 := hv4.below k6
        have b5 := b4.trans (k6.mono b4.size)
        clear hv4 b4 k6
        by_cases hm0 : 0 < m
        · have hm0' : (0 : Int) < (m : Int) := by omega
          go_wp2_with fail
          refine (spieces_is _ _ hps (by omega) _).mono ?_
          rintro e w8 ⟨v6, rfl, hv6, k6⟩
          have hv4' := hv5.below k6
          have b6 := b5.trans (k6.mono b5.size)
          go_wp2_with fail
          refine (lz_true _ ps (by omega) _ _ hv4' hv6).mono ?_
          rintro e w7 ⟨rfl, k7⟩
          go_wp2
          go_ret
          exact ⟨rfl, b6.trans (k7.mono b6.size)⟩
        · have hm0' : (m : Int) ≤ 0 := by omega
          have h0 : heldN s.data.toList = 0 := by rw [← hd_ok _ hok, hm]; omega
          have two := pie_two _ _ hok hot (by rw [lenL, lenL]; omega) h0
          rw [← app_l] at two
          obtain ⟨ts, hts⟩ : ∃ ts, pieL t.data.toList = ts := ⟨_, rfl⟩
          have htl : ts.length ≤ 40 := by rw [← hts]; exact len_pie0 _
          rw [hps, hts] at two
          obtain ⟨q, hq⟩ : ∃ q, hdN t.data.toList = q := ⟨_, rfl⟩
          have hq2 : hdN (s ++ t).data.toList = q := by rw [hd_ok _ two.1, two.2.1, ← hq, hd_ok _ hot]
          have hP := two.2.2
          clear two h0 hm hmx hmt hps
          go_wp2_with fail
          refine (pieces_is _ _ hP _ (herr.below b5)).mono ?_
          rintro e w8 ⟨v8, rfl, hv8, k8⟩
          have hl8 := hv5.below k8
          have b8 := b5.trans (k8.mono b5.size)
          clear hv5 b5 k8 hP
          have bA : Below w8.heap.size w8 (w8.alloc (.cells #[] 34)) := (Below.refl _ w8).alloc (Nat.le_refl _) _
          have hr0 : (w8.alloc (.cells #[] 34)).ownsRow w8.heap.size 34 4 (.slice (some ⟨w8.heap.size, 0, none⟩) 0 0) ([] : List Pc).length (cellsP []) :=
            World.ownsRow_made (base := w8.heap.size) (e := 34) (size := 4) w8 #[] 0 (Nat.le_refl _) (Nat.zero_le _) rfl
          have hlA := hl8.below bA
          go_wp2_with (at_builtin; refine wpList_append_ps _ rfl _ _ rfl w8.heap.size _ _ [] ps rfl hr0 rfl hlA (by simp; omega) (by simp) ?_; intro v9 w9 hr9 hg9)
          have hr9' : w9.ownsRow w8.heap.size 34 4 v9 ps.length (cellsP ps) := hr9
          have k9 := bA.grown hg9 (by simp) (fun j ej => (hr0.lt j ej).1)
          clear hr9 hg9 hr0 hlA bA
          refine (pieces_is _ _ hts _ (herr.below (b8.trans (k9.mono b8.size)))).mono ?_
          rintro e w10 ⟨v10, rfl, hv10, k10⟩
          have hr10 := row_below hr9' k10
          have k10' := k9.trans (k10.mono k9.size)
          clear hr9' k9 k10
          go_wp2_with (at_builtin; refine wpList_append_ps _ rfl _ _ rfl w8.heap.size _ _ ps ts rfl hr10 rfl hv10 (by omega) k10'.size ?_; intro v11 w11 hr11 hg11)
          have k11 := k10'.grown hg11 k10'.size (fun j ej => (hr10.lt j ej).1)
          clear hg11 hr10 k10'
          refine (lz_true _ (ps ++ ts) (by simp; omega) _ _ (hv8.below k11) (isP_of_row hr11)).mono ?_
          rintro e w12 ⟨rfl, k12⟩
          have b12 := (b8.trans (k11.mono b8.size)).trans (k12.mono (b8.trans (k11.mono b8.size)).size)
          clear k11 k12 hv8 hr11 b8
          go_wp2_with fail
          refine (held_is _ q hq2 _).mono ?_
          rintro e w13 ⟨rfl, k13⟩
          have b13 := b12.trans (k13.mono b12.size)
          clear k13 b12
          go_wp2_with fail
          refine (held_is _ q hq _).mono ?_
          rintro e w14 ⟨rfl, k14⟩
          have b14 := b13.trans (k14.mono b13.size)
          go_wp2
          go_ret
          exact ⟨by first | rfl | simp, b14⟩

end Go.Proofs.YtkpngmklcnmjmacDoor.LPiecesTwo

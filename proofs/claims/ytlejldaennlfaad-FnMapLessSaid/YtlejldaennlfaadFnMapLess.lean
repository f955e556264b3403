/- The walk of the law on the first of pairs: it answers true. -/
import Derived.Test.YtlejldaennlfaadDrawO
import Derived.Test.YtlejldaennlfaadMi
namespace Go.Proofs.Ytlejldaennlfaad.LMapLess
open Go.RowKit Go.Proofs.Ytlejldaennlfaad.Kit Go.Proofs.Ytlejldaennlfaad.Mp Go.Proofs.Ytlejldaennlfaad.Mm Go.Proofs.Ytlejldaennlfaad.Ml Go.Proofs.Ytlejldaennlfaad.Ms Go.Proofs.Ytlejldaennlfaad.App Go.Proofs.Ytlejldaennlfaad.DrawM
set_option linter.unusedVariables false
set_option linter.unusedSimpArgs false

set_option maxHeartbeats 1000000 in
theorem long (a a1 : Option Addr) (len cap len1 cap1 : Nat) (w : World) (h : (1048576 : Int) < (len : Int)) :
    Calls Try.prog 5 #[.slice a len cap, .slice a1 len1 cap1] w fun e w' => e = .returned (.bool true) ∧ Below w.heap.size w w' := by
  go_enter Try.func5, Try.ntmps5
  go_wp2
  go_ret
  exact ⟨rfl, Below.refl _ _⟩
set_option maxHeartbeats 1000000 in
theorem long2 (a a1 : Option Addr) (len cap len1 cap1 : Nat) (w : World) (h0 : (len : Int) ≤ 1048576) (h : (1048576 : Int) < (len1 : Int)) :
    Calls Try.prog 5 #[.slice a len cap, .slice a1 len1 cap1] w fun e w' => e = .returned (.bool true) ∧ Below w.heap.size w w' := by
  go_enter Try.func5, Try.ntmps5
  go_wp2
  go_ret
  exact ⟨rfl, Below.refl _ _⟩

theorem take_ok (m : List (Int × Int × Int)) (h : okM m = true) (k : Nat) : okM (m.take k) = true := by
  obtain ⟨hg, hp⟩ := okM_out m h
  rw [hp, prs_take]
  refine okM_prs _ ⟨?_, ?_, fun e he => hg.ins e (List.mem_of_mem_take he)⟩
  · have := hg.len; rw [List.length_take]; omega
  · exact hg.nd.sublist (List.take_sublist _ _)
theorem drop_no (m : List (Int × Int × Int)) (h : okM m = true) (h2 : 2 ≤ m.length) : okM (m.drop 1) = false := by
  cases q : okM (m.drop 1)
  · rfl
  · obtain ⟨_, hp⟩ := okM_out m h
    obtain ⟨_, hq⟩ := okM_out _ q
    have hl : 1 < (m.map Prod.snd).length := by rw [List.length_map]; omega
    have h1 : m[1]? = some ((11 : Int), (m.map Prod.snd)[1]) := by
      have := prs_at (m.map Prod.snd) 1
      rw [← hp, List.getElem?_eq_getElem hl] at this
      exact this
    have h3 : (m.drop 1)[0]? = m[1]? := by rw [List.getElem?_drop]
    have h4 := prs_at ((m.drop 1).map Prod.snd) 0
    rw [← hq, h3, h1] at h4
    cases r : ((m.drop 1).map Prod.snd)[0]? with
    | none => rw [r] at h4; cases h4
    | some e =>
      rw [r] at h4
      have := congrArg (Option.map Prod.fst) h4
      simp at this
theorem twice_no (m : List (Int × Int × Int)) (k q : Nat) (hk : k < m.length) (hq : q < m.length) (hne : q ≠ k) (e : Int × Int) (he : (m.map Prod.snd)[q]? = some e) : okM (m.modify k fun p => (p.1, e)) = false := by
  cases h : okM (m.modify k fun p => (p.1, e))
  · rfl
  · have hg := (okM_out _ h).1
    have hn := hg.nd
    have hq2 : ((m.modify k fun p => (p.1, e)).map Prod.snd)[q]? = some e := by
      rw [List.getElem?_map] at he ⊢
      rw [List.getElem?_modify]
      cases r : m[q]? with
      | none => rw [r] at he; cases he
      | some x =>
        rw [r] at he
        have hkq : ¬ k = q := fun x => hne x.symm
        simp [hkq]
        simpa using he
    have hk2 : ((m.modify k fun p => (p.1, e)).map Prod.snd)[k]? = some e := by
      rw [List.getElem?_map, List.getElem?_modify, List.getElem?_eq_getElem hk]; simp
    obtain ⟨l1, e1⟩ := List.getElem?_eq_some_iff.1 hq2
    obtain ⟨l2, e2⟩ := List.getElem?_eq_some_iff.1 hk2
    rw [List.nodup_iff_pairwise_ne, List.pairwise_iff_getElem] at hn
    rcases Nat.lt_or_gt_of_ne hne with hlt | hlt
    · exact absurd (e1.trans e2.symm) (hn q k l1 l2 hlt)
    · exact absurd (e2.trans e1.symm) (hn k q l2 l1 hlt)

theorem row_lit {W : World} {b e n : Nat} {v : Value} {xs : List Value} (h : W.ownsRow b e 3 v n xs) (hn : 0 < n) : ∃ g cp, v = .slice (some ⟨g, 0, none⟩) n cp ∧ b ≤ g ∧ n ≤ cp ∧ cp ≤ maxLen := by
  rcases h.2 with ⟨_, h0⟩ | ⟨g, cp, cur, rfl, hb, hg, hnc, hcm, _, _⟩
  · omega
  · exact ⟨g, cp, rfl, hb, hnc, hcm⟩

/-- what there is behind the copy -/
theorem facts {w3 w6 : World} {g o k q : Nat} {m : List (Int × Int × Int)} {pq ea ep : Int} {v' : Value} (hglt : g < w3.heap.size) (hkl : k < m.length) (hat : ∀ (i : Nat) (p : Int × Int × Int), m[i]? = some p → At3 w3 g (o + i * 3) p) (hpq : m[q]? = some (pq, ea, ep))
    (hr6 : w6.ownsRow w3.heap.size 34 3 v' m.length (cellsM m)) (b6 : Below w3.heap.size w3 w6) :
    ∃ g2 cp2 u1 u2, v' = .slice (some ⟨g2, 0, none⟩) m.length cp2 ∧ w3.heap.size ≤ g2 ∧ g ≠ g2 ∧ m.length ≤ cp2 ∧ cp2 ≤ maxLen ∧ w6.cell? ⟨g, o + q * 3 + 1, none⟩ = some (.int .i64 ea) ∧ w6.cell? ⟨g, o + q * 3 + 2, none⟩ = some (.int .i64 ep) ∧
      w6.cell? ⟨g2, k * 3 + 1, none⟩ = some u1 ∧ w6.cell? ⟨g2, k * 3 + 2, none⟩ = some u2 ∧ w6.frozen? ⟨g2, k * 3 + 1, none⟩ = false ∧ w6.frozen? ⟨g2, k * 3 + 2, none⟩ = false := by
  have hxl : (cellsM m).length = m.length * 3 := cellsM_len m
  obtain ⟨u1, hu1⟩ : ∃ u, (cellsM m)[k * 3 + 1]? = some u := ⟨_, List.getElem?_eq_getElem (by omega)⟩
  obtain ⟨u2, hu2⟩ : ∃ u, (cellsM m)[k * 3 + 2]? = some u := ⟨_, List.getElem?_eq_getElem (by omega)⟩
  obtain ⟨g2, cp2, rfl, hb2, hc2, hx2⟩ := row_lit hr6 (by omega)
  obtain ⟨y0, y1, y2⟩ := (hat q _ hpq).below b6
  exact ⟨g2, cp2, u1, u2, rfl, hb2, by omega, hc2, hx2, y1, y2, (hr6.cellAt (k * 3 + 1) (by omega)).trans hu1, (hr6.cellAt (k * 3 + 2) (by omega)).trans hu2, hr6.frozenAt (k * 3 + 1), hr6.frozenAt (k * 3 + 2)⟩
/-- the copy, its pair k with another end -/
theorem stored {w6 : World} {b g2 cp2 k : Nat} {m : List (Int × Int × Int)} {ea ep : Int} (hkl : k < m.length) (hr6 : w6.ownsRow b 34 3 (.slice (some ⟨g2, 0, none⟩) m.length cp2) m.length (cellsM m)) :
    IsM ((w6.setCell ⟨g2, k * 3 + 1, none⟩ (.int .i64 ea)).setCell ⟨g2, k * 3 + 2, none⟩ (.int .i64 ep)) (.slice (some ⟨g2, 0, none⟩) m.length cp2) (m.modify k fun p => (p.1, ea, ep)) := by
  have q1 := hr6.stored (k * 3 + 1) (.int .i64 ea)
  have q2 := q1.1.stored (k * 3 + 2) (.int .i64 ep)
  have hr5 := q2.1
  obtain ⟨_, _, e, _, hnc, hcm⟩ := row_lit hr5 (by omega)
  simp at e
  obtain ⟨rfl, rfl⟩ := e
  refine .inr ⟨g2, 0, cp2, by rw [List.length_modify], by rw [List.length_modify]; exact hnc, hcm, (hr5.lt g2 rfl).2, fun i r hr => ?_⟩
  have hL : (cellsM m).length = m.length * 3 := cellsM_len m
  rw [List.getElem?_modify] at hr
  have hil : i < m.length := by
    cases e : m[i]? with
    | none => rw [e] at hr; cases hr
    | some _ => exact (List.getElem?_eq_some_iff.1 e).1
  have hp0 : m[i]? = some m[i] := List.getElem?_eq_getElem hil
  obtain ⟨t0, t1, t2⟩ := cellsM_at m i _ hp0
  generalize m[i] = r0 at hp0 t0 t1 t2
  rw [hp0] at hr
  rw [Nat.zero_add]
  refine ⟨(hr5.cellAt (i * 3) (by omega)).trans ?_, (hr5.cellAt (i * 3 + 1) (by omega)).trans ?_, (hr5.cellAt (i * 3 + 2) (by omega)).trans ?_⟩
  · rw [List.getElem?_set_ne (by omega), List.getElem?_set_ne (by omega), t0]
    by_cases e : k = i
    · simp [e] at hr; rw [← hr]
    · simp [e] at hr; rw [← hr]
  · rw [List.getElem?_set_ne (by omega)]
    by_cases e : k = i
    · subst e
      rw [List.getElem?_set_self (by omega)]
      simp at hr; rw [← hr]
    · rw [List.getElem?_set_ne (by omega), t1]
      simp [e] at hr; rw [← hr]
  · by_cases e : k = i
    · subst e
      rw [List.getElem?_set_self (by simp; omega)]
      simp at hr; rw [← hr]
    · rw [List.getElem?_set_ne (by omega), List.getElem?_set_ne (by omega), t2]
      simp [e] at hr; rw [← hr]

set_option maxRecDepth 8000 in
set_option maxHeartbeats 16000000 in
theorem short (a a1 : Option Addr) (len cap len1 cap1 : Nat) (z : Nat → Int) (w : World) (hc : CodeIn w a len cap z) (h : (len : Int) ≤ 1048576) (hl1 : (len1 : Int) ≤ 1048576) :
    Calls Try.prog 5 #[.slice a len cap, .slice a1 len1 cap1] w fun e w' => e = .returned (.bool true) ∧ Below w.heap.size w w' := by
  obtain ⟨i0, hi0, hz0, hz1, hz2⟩ := info_parts infoM
  go_enter Try.func5, Try.ntmps5
  go_wp2_with fail
  refine (drawOk a len cap z _ hc).mono ?_
  rintro e w1 ⟨v, m, rfl, hm1, hml, k1⟩
  go_wp2_with fail
  refine (Ml.ok_any _ v m hm1).mono ?_
  rintro e w2 ⟨rfl, k2⟩
  have hm2 := hm1.below k2
  have b2 := k1.trans (k2.mono k1.size)
  clear k1 k2 hm1
  go_wp2_with fail
  refine (sok_any _ v m hm2 (by omega)).mono ?_
  rintro e w3 ⟨rfl, k3⟩
  have hm3 := hm2.below k3
  have b3 := b2.trans (k3.mono b2.size)
  clear b2 k3 hm2
  cases hok : okM m
  · go_wp2_with fail
    refine (sok_any _ v m hm3 (by omega)).mono ?_
    rintro e w4 ⟨rfl, k4⟩
    rw [hok]
    go_wp2
    go_ret
    exact ⟨rfl, b3.trans (k4.mono b3.size)⟩
  have HOK := (show Hid _ from hok)
  rcases hm3 with ⟨rfl, rfl⟩ | ⟨g, o, cp, rfl, hcap, hmax, hglt, hat⟩
  · go_wp2_with fail
    refine (sok_any _ _ [] (.inl ⟨rfl, rfl⟩) (by simp)).mono ?_
    rintro e w4 ⟨rfl, k4⟩
    rw [hok]
    go_wp2
    go_ret
    exact ⟨rfl, b3.trans (k4.mono b3.size)⟩
  have HM3 : Hid (IsM w3 (.slice (some ⟨g, o, none⟩) m.length cp) m) := .inr ⟨g, o, cp, rfl, hcap, hmax, hglt, hat⟩
  by_cases h2 : m.length < 2
  · have h2' : (m.length : Int) < 2 := by omega
    clear hat hok
    go_wp2_with fail
    refine (sok_any _ _ m HM3.out (by omega)).mono ?_
    rintro e w4 ⟨rfl, k4⟩
    rw [HOK.out]
    go_wp2
    go_ret
    exact ⟨rfl, b3.trans (k4.mono b3.size)⟩
  have h2' : ¬ (m.length : Int) < 2 := by omega
  have hpos : (0 : Int) < (m.length : Int) := by omega
  obtain ⟨k, hk, hkl⟩ : ∃ k : Nat, (len1 : Int) % (m.length : Int) = (k : Int) ∧ k < m.length :=
    ⟨len1 % m.length, by simp, Nat.mod_lt _ (by omega)⟩
  obtain ⟨q, hq, hql, hqn⟩ : ∃ q : Nat, ((k : Int) + 1) % (m.length : Int) = (q : Int) ∧ q < m.length ∧ q ≠ k := by
    refine ⟨(k + 1) % m.length, by simp, Nat.mod_lt _ (by omega), ?_⟩
    by_cases e : k + 1 = m.length
    · rw [e, Nat.mod_self]; omega
    · rw [Nat.mod_eq_of_lt (by omega)]; omega
  have hkk : (k : Int) < (m.length : Int) := by omega
  have hqq : (q : Int) < (m.length : Int) := by omega
  obtain ⟨e, he⟩ : ∃ e, (m.map Prod.snd)[q]? = some e := ⟨_, List.getElem?_eq_getElem (by rw [List.length_map]; exact hql)⟩
  have f1 := take_ok m hok k
  have f2 := drop_no m hok (by omega)
  have f3 := twice_no m k q hkl hql hqn e he
  have hmq : ∃ pq, m[q]? = some (pq, e) := by
    rw [List.getElem?_map] at he
    cases r : m[q]? with
    | none => rw [r] at he; cases he
    | some x =>
      rw [r] at he
      obtain ⟨x1, x2⟩ := x
      simp at he
      exact ⟨x1, by rw [he]⟩
  obtain ⟨pq, hpq⟩ := hmq
  have F1 := (show Hid _ from f1)
  have F2 := (show Hid _ from f2)
  have F3 := (show Hid _ from f3)
  have bA : Below w3.heap.size w3 (w3.alloc (.cells #[] 34)) := (Below.refl _ _).alloc (Nat.le_refl _) _
  have hnew := World.ownsRow_made (base := w3.heap.size) (e := 34) (size := 3) w3 #[] 0 (Nat.le_refl _) (Nat.zero_le _) rfl
  have hcell : ∀ j u, (cellsM m)[j]? = some u → (w3.alloc (.cells #[] 34)).cell? ((⟨g, o, none⟩ : Addr).add j) = some u := by
    intro j u hj
    have hjl : j < m.length * 3 := by rw [← cellsM_len]; exact (List.getElem?_eq_some_iff.1 hj).1
    have hi3 : j / 3 < m.length := by omega
    have hp : m[j / 3]? = some m[j / 3] := List.getElem?_eq_getElem hi3
    obtain ⟨a0, a1, a2⟩ := (hat _ _ hp).below bA
    obtain ⟨b0, b1, b2⟩ := cellsM_at m _ _ hp
    rw [Addr.add_lit]
    have e3 : j = j / 3 * 3 ∨ j = j / 3 * 3 + 1 ∨ j = j / 3 * 3 + 2 := by omega
    rcases e3 with e3 | e3 | e3
    · rw [e3] at hj; rw [b0] at hj; rw [e3, ← Option.some.inj hj]; exact a0
    · rw [e3] at hj; rw [b1] at hj; rw [e3, ← Option.some.inj hj, ← Nat.add_assoc]; exact a1
    · rw [e3] at hj; rw [b2] at hj; rw [e3, ← Option.some.inj hj, ← Nat.add_assoc]; exact a2
  have HAT := (show Hid _ from hat)
  clear hat hok f1 f2 f3 he
  obtain ⟨ea, ep⟩ := e
  have HPQ : Hid (m[q]? = some (pq, ea, ep)) := hpq
  have HAT2 : Hid (∀ (i : Nat) (p : Int × Int × Int), m[i]? = some p → At3 w3 g (o + i * 3) p) := HAT.out
  clear hpq HAT
  go_wp2_with (at_builtin; refine wpList_append_own_at _ rfl _ _ 23 rfl w3.heap.size 34 i0 (.agg #[.int .i64 0, .int .i64 0, .int .i64 0]) 3 24 Try.underlying23 hi0 hz0 hz1 hz2 rfl (by decide) _ _ _ rfl hnew ⟨g, o, none⟩ m.length cp (cellsM m) rfl (cellsM_len m) hcell (cellsM_one m) (by unfold maxLen; omega) (by omega) (by simp) ?_; intro v' w6 hown' hgrow _ _; have b6 : Below w3.heap.size w3 w6 := bA.trans (grown_below hgrow (by simp) (fun k hk => (hnew.lt k hk).1)); have hr6 : w6.ownsRow w3.heap.size 34 3 v' m.length (cellsM m) := (by simpa using hown'); obtain ⟨g2, cp2, u1, u2, rfl, hb2, hgne, hc2, hx2, y1, y2, c1, c2, f1, f2⟩ := facts hglt hkl HAT2.out HPQ.out hr6 b6; have HR6 : Hid (w6.ownsRow w3.heap.size 34 3 (.slice (some ⟨g2, 0, none⟩) m.length cp2) m.length (cellsM m)) := hr6; have HB6 : Hid (Below w3.heap.size w3 w6) := b6; clear hown' hgrow hr6 b6 hcell hnew bA)
  have b7 : Below w3.heap.size w3 ((w6.setCell ⟨g2, k * 3 + 1, none⟩ (.int .i64 ea)).setCell ⟨g2, k * 3 + 1 + 1, none⟩ (.int .i64 ep)) := (HB6.out.setCell (p := ⟨g2, k * 3 + 1, none⟩) hb2 _).setCell (p := ⟨g2, k * 3 + 1 + 1, none⟩) hb2 _
  have hst : IsM ((w6.setCell ⟨g2, k * 3 + 1, none⟩ (.int .i64 ea)).setCell ⟨g2, k * 3 + 1 + 1, none⟩ (.int .i64 ep)) (.slice (some ⟨g2, 0, none⟩) m.length cp2) (m.modify k fun p => (p.1, ea, ep)) := stored hkl HR6.out
  have hm7 : IsM ((w6.setCell ⟨g2, k * 3 + 1, none⟩ (.int .i64 ea)).setCell ⟨g2, k * 3 + 1 + 1, none⟩ (.int .i64 ep)) (.slice (some ⟨g, o, none⟩) m.length cp) m := HM3.out.below b7
  have b8 := b3.trans (b7.mono b3.size)
  generalize (w6.setCell ⟨g2, k * 3 + 1, none⟩ (.int .i64 ea)).setCell ⟨g2, k * 3 + 1 + 1, none⟩ (.int .i64 ep) = w7 at hst hm7 b8
  clear b7 HB6 HR6 y1 y2 c1 c2 f1 f2 HAT2 HPQ HM3 b3
  have HST : Hid (IsM w7 (.slice (some ⟨g2, 0, none⟩) m.length cp2) (m.modify k fun p => (p.1, ea, ep))) := hst
  have HM7 : Hid (IsM w7 (.slice (some ⟨g, o, none⟩) m.length cp) m) := hm7
  clear hst hm7 hk hq
  refine (Ml.ok_any _ _ (m.take k) (isM_take HM7.out k (by omega))).mono ?_
  rintro e w8 ⟨rfl, k8⟩
  rw [F1.out]
  have b9 := b8.trans (k8.mono b8.size)
  have hd : IsM w8 (.slice (some ⟨g, o + 3, none⟩) (m.length - 1) (cp - 1)) (m.drop 1) := by
    rcases (HM7.out.below k8) with ⟨e, _⟩ | ⟨g', o', c', e, _, _, hlt, hat'⟩
    · cases e
    · simp at e
      obtain ⟨⟨rfl, rfl⟩, rfl⟩ := e
      refine .inr ⟨g, o + 3, cp - 1, by rw [List.length_drop], by rw [List.length_drop]; omega, by omega, hlt, fun i p hp => ?_⟩
      rw [List.getElem?_drop] at hp
      have := hat' (1 + i) p hp
      rw [show o + 3 + i * 3 = o + (1 + i) * 3 by omega]; exact this
  have HD : Hid (IsM w8 (.slice (some ⟨g, o + 3, none⟩) (m.length - 1) (cp - 1)) (m.drop 1)) := hd
  have HST8 : Hid (IsM w8 (.slice (some ⟨g2, 0, none⟩) m.length cp2) (m.modify k fun p => (p.1, ea, ep))) := HST.out.below k8
  clear hd HM7 HST k8 b8
  have hc1 : ¬ cp = 1 := by omega
  have h1m : (1 : Int) ≤ (m.length : Int) := by omega
  have hcp1 : (1 : Int) ≤ (cp : Int) := by omega
  go_wp2_with fail
  refine (Ml.ok_any _ _ (m.drop 1) HD.out).mono ?_
  rintro e w9 ⟨rfl, k9⟩
  rw [F2.out]
  have b10 := b9.trans (k9.mono b9.size)
  go_wp2_with fail
  refine (Ml.ok_any _ _ (m.modify k fun p => (p.1, ea, ep)) (HST8.out.below k9)).mono ?_
  rintro e w10 ⟨rfl, k10⟩
  rw [F3.out]
  go_wp2
  go_ret
  exact ⟨rfl, b10.trans (k10.mono b10.size)⟩
end Go.Proofs.Ytlejldaennlfaad.LMapLess

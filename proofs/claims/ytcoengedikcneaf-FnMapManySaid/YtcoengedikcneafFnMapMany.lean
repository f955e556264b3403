/- The walk of the law on as many ends as there are ports: it answers true. -/
import Derived.Test.YtcoengedikcneafDrawN
import Derived.Test.YtcoengedikcneafLzM
import Derived.Test.YtcoengedikcneafMi
import Derived.Test.YtcoengedikcneafMq
import Derived.Test.YtcoengedikcneafMpO
namespace Go.Proofs.Ytcoengedikcneaf.LMapMany
open Go.RowKit Go.Proofs.Ytcoengedikcneaf.Kit Go.Proofs.Ytcoengedikcneaf.Mp Go.Proofs.Ytcoengedikcneaf.Mm Go.Proofs.Ytcoengedikcneaf.Ml Go.Proofs.Ytcoengedikcneaf.Ms Go.Proofs.Ytcoengedikcneaf.App Go.Proofs.Ytcoengedikcneaf.DrawM
open Go.Proofs.Ytcoengedikcneaf.LzM (lz_same)
open Go.Proofs.Ytcoengedikcneaf.EndW (endV)
set_option linter.unusedVariables false
set_option linter.unusedSimpArgs false

set_option maxHeartbeats 1000000 in
theorem long (a a1 : Option Addr) (len cap len1 cap1 : Nat) (w : World) (h : (1048576 : Int) < (len : Int)) :
    Calls Try.prog 3 #[.slice a len cap, .slice a1 len1 cap1] w fun e w' => e = .returned (.bool true) ∧ Below w.heap.size w w' := by
  go_enter Try.func3, Try.ntmps3
  go_wp2
  go_ret
  exact ⟨rfl, Below.refl _ _⟩
set_option maxHeartbeats 1000000 in
theorem long2 (a a1 : Option Addr) (len cap len1 cap1 : Nat) (w : World) (h : (len : Int) ≤ 1048576) (h1 : (1048576 : Int) < (len1 : Int)) :
    Calls Try.prog 3 #[.slice a len cap, .slice a1 len1 cap1] w fun e w' => e = .returned (.bool true) ∧ Below w.heap.size w w' := by
  go_enter Try.func3, Try.ntmps3
  go_wp2
  go_ret
  exact ⟨rfl, Below.refl _ _⟩

/-- the end that is asked for in a round -/
def end27 (c i : Nat) : Int × Int := (1 + (((i + c) % 27 % 3 : Nat) : Int), 1 + (((i + c) % 27 / 3 : Nat) : Int))
theorem end27_in (c i : Nat) : inB (end27 c i) = true := inB_mk _ _ (by omega)
theorem end27_ne (c i j : Nat) (h : i < j) (h2 : j < 27) : end27 c i ≠ end27 c j := by
  unfold end27; intro e
  simp at e
  omega
theorem sub_len {α : Type} [BEq α] [LawfulBEq α] (l : List α) : ∀ es : List α, l.Nodup → l ⊆ es → l.length ≤ es.length := by
  induction l with
  | nil => intro es _ _; exact Nat.zero_le _
  | cons x l ih =>
    intro es hn hs
    have hx : x ∈ es := hs (List.mem_cons_self ..)
    have hn2 := List.nodup_cons.1 hn
    have h := ih (es.erase x) hn2.2 (fun y hy => by
      have hne : y ≠ x := fun e => hn2.1 (e ▸ hy)
      exact (List.mem_erase_of_ne hne).2 (hs (List.mem_cons_of_mem _ hy)))
    rw [List.length_erase_of_mem hx] at h
    have := List.length_pos_of_mem hx
    rw [List.length_cons]; omega
/-- after so many rounds all ports are given, or all that were asked for have one -/
theorem many (es : List (Int × Int)) (hg : GoodE es) (c : Nat) (h : ∀ i, i < 27 → end27 c i ∈ es) : False := by
  have h8 := hg.len
  have hnd : ((List.range 9).map (end27 c)).Nodup := by
    unfold List.Nodup
    rw [List.pairwise_map, List.pairwise_iff_getElem]
    intro i j hi hj hij
    simp only [List.length_range] at hi hj
    simp only [List.getElem_range]
    exact end27_ne c i j hij (by omega)
  have hsub : ((List.range 9).map (end27 c)) ⊆ es := by
    intro e he
    obtain ⟨i, hi, rfl⟩ := List.mem_map.1 he
    rw [List.mem_range] at hi
    exact h i (by omega)
  have := sub_len _ _ hnd hsub
  simp at this
  omega

set_option maxRecDepth 8000 in
set_option maxHeartbeats 16000000 in
theorem short (a a1 : Option Addr) (len cap len1 cap1 : Nat) (z : Nat → Int) (w : World) (hc : CodeIn w a len cap z) (h : (len : Int) ≤ 1048576) (h1 : (len1 : Int) ≤ 1048576) :
    Calls Try.prog 3 #[.slice a len cap, .slice a1 len1 cap1] w fun e w' => e = .returned (.bool true) ∧ Below w.heap.size w w' := by
  obtain ⟨i0, hi0, hz0, hz1, hz2⟩ := info_parts infoM
  go_enter Try.func3, Try.ntmps3
  go_wp2_with fail
  refine (drawOut a len cap z _ hc).mono ?_
  rintro e w1 ⟨v, m, x, y, rfl, hm1, hml, hsm, k1⟩
  obtain ⟨mo, HO⟩ : ∃ mo, Hid (mOut m (x, y) = mo) := ⟨_, rfl⟩
  have hmo : mo.1.length ≤ 8 := by rw [← HO.out]; exact mout_len m _
  obtain ⟨W, hW⟩ : ∃ W, W = w1.alloc (.cells #[.int .i64 x, .int .i64 y] 25) := ⟨_, rfl⟩
  have bW : Below w1.heap.size w1 W := by rw [hW]; exact (Below.refl _ _).alloc (Nat.le_refl _) _
  have hm : IsM W v m := hm1.below bW
  have p0 : W.cell? ⟨w1.heap.size, 0, none⟩ = some (.int .i64 x) := by rw [hW]; simp
  have p1 : W.cell? ⟨w1.heap.size, 1, none⟩ = some (.int .i64 y) := by rw [hW]; simp
  have hlW : w1.heap.size < W.heap.size := by rw [hW]; simp
  have b0 := k1.trans (bW.mono k1.size)
  go_wp2_with fail
  rw [← hW]
  clear hW hm1 bW
  refine (sout_any _ v m hm (by omega) (x, y)).mono ?_
  rintro e w2 ⟨vS, rfl, hrS, k2⟩
  rw [HO.out] at hrS
  rw [HO.out]
  have c0 := (k2.cell (p := ⟨w1.heap.size, 0, none⟩) hlW).trans p0
  have c1 := (k2.cell (p := ⟨w1.heap.size, 1, none⟩) hlW).trans p1
  have hS2 := isM_of_row hrS
  clear hrS
  go_wp2_with fail
  refine (out_any _ v m (hm.below k2) (x, y)).mono ?_
  rintro e w3 ⟨vX, rfl, hrX, k3⟩
  rw [HO.out] at hrX
  rw [HO.out]
  have b3 := k2.trans (k3.mono k2.size)
  have hS3 := hS2.below k3
  have hX3 := isM_of_row hrX
  clear hrX hS2 k3 c0 c1
  obtain ⟨ml, mp, mb⟩ := mo
  simp only at hmo hX3 hS3
  go_wp2_with fail
  refine (lz_same _ ml (by omega) _ _ hX3 hS3).mono ?_
  rintro e w4 ⟨rfl, k4⟩
  have b4 := b3.trans (k4.mono b3.size)
  have hX4 := hX3.below k4
  have hS4 := hS3.below k4
  have hm4 := hm.below b4
  clear k4 b3 hX3 hS3
  go_wp2_with fail
  refine (sok_any _ v m hm4 (by omega)).mono ?_
  rintro e w5 ⟨rfl, k5⟩
  have b5 := b4.trans (k5.mono b4.size)
  have hX5 := hX4.below k5
  have hS5 := hS4.below k5
  have hm5 := hm4.below k5
  clear k5 b4 hX4 hS4 hm4
  cases hok : okM m
  · go_wp2_with fail
    refine (lz_same _ ml (by omega) _ _ hX5 hS5).mono ?_
    rintro e w6 ⟨rfl, k6⟩
    go_wp2
    go_ret
    exact ⟨rfl, b0.trans ((b5.trans (k6.mono b5.size)).mono b0.size)⟩
  · obtain ⟨hg, hpr⟩ := okM_out m hok
    have HP : Hid (m = prs (m.map Prod.snd)) := hpr
    have HL : Hid ((m.map Prod.snd).length = m.length) := List.length_map _
    generalize m.map Prod.snd = es0 at hg HP HL
    clear hpr hok hX5 hS5 hm HO
    have bA : Below w5.heap.size w5 (w5.alloc (.cells #[] 38)) := (Below.refl _ _).alloc (Nat.le_refl _) _
    have hnew := World.ownsRow_made (base := w5.heap.size) (e := 38) (size := 3) w5 #[] 0 (Nat.le_refl _) (Nat.zero_le _) rfl
    have hst : ∀ es : List (Int × Int), GoodE es → ∀ k : Nat, k < 27 → (es.length = 8 ∨ ∀ j, j < k → end27 len1 j ∈ es) → ((outE es (end27 len1 k)).1.length = 8 ∨ ∀ j, j < k + 1 → end27 len1 j ∈ (outE es (end27 len1 k)).1) := by
      intro es hge k hk hor
      have hg2 := outE_good es _ hge (end27_in len1 k)
      have hpre := outE_pre es (end27 len1 k)
      have h8 := hg2.len
      have h9 := hpre.length_le
      rcases hor with h8' | hall
      · exact .inl (by omega)
      · by_cases hmem : end27 len1 k ∈ es
        · refine .inr fun j hj => ?_
          rw [outE_has es _ hmem]
          by_cases e : j = k
          · subst e; exact hmem
          · exact hall j (by omega)
        · by_cases hl : es.length < 8
          · refine .inr fun j hj => ?_
            rw [outE_new es _ hmem hl]
            by_cases e : j = k
            · subst e; simp
            · exact List.mem_append_left _ (hall j (by omega))
          · refine .inl ?_
            rw [outE_full es _ hmem (by omega)]
            have := hge.len
            simp only; omega
    have hfine : ∀ es : List (Int × Int), GoodE es → ∀ e, (outE es e).2.2 = false → es.length = 8 := by
      intro es hge e hf
      by_cases hmem : e ∈ es
      · rw [outE_has es _ hmem] at hf; cases hf
      · by_cases hl : es.length < 8
        · rw [outE_new es _ hmem hl] at hf; cases hf
        · have := hge.len; omega
    have HST := (show Hid _ from hst)
    have HF := (show Hid _ from hfine)
    have hmP : ∀ w6 vy, IsM w6 vy m → IsM w6 vy (prs es0) := fun w6 vy q => by rw [← HP.out]; exact q
    have HMP := (show Hid _ from hmP)
    clear hst hfine hmP
    rcases hm5 with ⟨rfl, rfl⟩ | ⟨g, o, cp, rfl, q1, q2, q3, q4⟩
    · have hy6 := HMP.out _ _ (isM_of_row hnew)
      have b6 := b5.trans (bA.mono b5.size)
      go_wp2
      clear bA
      have H6 := (show Hid _ from hy6)
      have HB := (show Hid _ from b6)
      clear hy6 b6
      go_loopw [13, 15] (fun yv i wr => ∃ (k : Nat) (es : List (Int × Int)), k ≤ 27 ∧ i = .int .i64 k ∧ GoodE es ∧ IsM wr yv (prs es) ∧ (es.length = 8 ∨ ∀ j, j < k → end27 len1 j ∈ es) ∧ Below W.heap.size W wr) (fun yv i wr => 27 - (intOf i).toNat)
      case atStart => exact ⟨0, es0, Nat.zero_le _, rfl, hg, H6.out, .inr (fun j hj => by omega), HB.out⟩
      case round =>
        obtain ⟨k, es, hk, rfl, hge, hM, hor, hb⟩ := hrel
        have h8 := hge.len
        obtain ⟨ay, cy, hvy⟩ := isM_slice hM
        rw [prs_len] at hvy
        subst hvy
        by_cases hkl : k < 27
        · have hkl' : (k : Int) < 27 := by omega
          have HE : Hid (((1 + ((k : Int) + (len1 : Int)) % 3, 1 + ((k : Int) + (len1 : Int)) % 27 / 3) : Int × Int) = end27 len1 k) := by
            show _ = _
            unfold end27
            refine Prod.ext ?_ ?_
            · simp only; omega
            · simp only; omega
          have HN := (show Hid _ from HST.out es hge k hkl hor)
          have HQ : Hid (mOut (prs es) (end27 len1 k) = (prs (outE es (end27 len1 k)).1, (outE es (end27 len1 k)).2.1, (outE es (end27 len1 k)).2.2)) := mout_ok es hge _ (end27_in len1 k)
          have HG := (show Hid _ from outE_good es _ hge (end27_in len1 k))
          have hff := (show Hid _ from HF.out es hge (end27 len1 k))
          clear hor
          have r0 := Int.emod_nonneg ((k : Int) + (len1 : Int)) (show (27 : Int) ≠ 0 by omega)
          have r1 := Int.emod_lt_of_pos ((k : Int) + (len1 : Int)) (show (0 : Int) < 27 by omega)
          have r2 := Int.emod_nonneg (((k : Int) + (len1 : Int)) % 27) (show (3 : Int) ≠ 0 by omega)
          have r3 := Int.emod_lt_of_pos (((k : Int) + (len1 : Int)) % 27) (show (0 : Int) < 3 by omega)
          have r4 : 0 ≤ ((k : Int) + (len1 : Int)) % 27 / 3 := by omega
          have r5 : ((k : Int) + (len1 : Int)) % 27 / 3 ≤ 8 := by omega
          go_wp2_with fail
          refine (out_any _ _ (prs es) hM (1 + ((k : Int) + (len1 : Int)) % 3, 1 + ((k : Int) + (len1 : Int)) % 27 / 3)).mono ?_
          rw [HE.out, HQ.out]
          rintro e w7 ⟨v7, rfl, hr7, k7⟩
          have b7 := hb.trans (k7.mono hb.size)
          have hM7 := isM_of_row hr7
          clear hr7 k7 hM
          have hff2 := hff.out
          have HN2 := HN.out
          have HG2 := HG.out
          generalize outE es (end27 len1 k) = q at hff2 HN2 HG2 hM7 ⊢
          obtain ⟨es2, p2, f2⟩ := q
          simp only at hff2 HN2 HG2 hM7
          have HN3 := (show Hid _ from HN2)
          clear HN HG HN2 hff HQ HE
          cases f2
          · have hl8 : es.length = 8 := hff2 rfl
            have hl8' : decide ((es.length : Int) < 8) = false := by simp; omega
            have hl8b : (8 : Int) ≤ (es.length : Int) := by omega
            clear hff2 hl8
            go_wp2
            go_roundw
            case rel => exact ⟨k + 1, es2, by omega, by go_num, HG2, hM7, HN3.out, b7⟩
            case measure => simp [intOf]; omega
          · clear hff2
            go_wp2
            go_roundw
            case rel => exact ⟨k + 1, es2, by omega, by go_num, HG2, hM7, HN3.out, b7⟩
            case measure => simp [intOf]; omega
        · have hge27 : (27 : Int) ≤ (k : Int) := by omega
          have hk27 : k = 27 := by omega
          have hlen : es.length = 8 := by
            rcases hor with h | h
            · exact h
            · exact (many es hge len1 (fun i hi => h i (by omega))).elim
          have hok2 := okM_prs es hge
          have HK := (show Hid _ from hok2)
          have hl8 : ((es.length : Int) == 8) = true := by simp; omega
          clear hor hok2 hk27 hlen
          go_wp2_with fail
          refine (ok_any _ _ (prs es) hM).mono ?_
          rintro e w7 ⟨rfl, k7⟩
          rw [HK.out]
          go_wp2
          go_ret
          exact ⟨rfl, b0.trans ((hb.trans (k7.mono hb.size)).mono b0.size)⟩
    · have hcell : ∀ j u, (cellsM m)[j]? = some u → (w5.alloc (.cells #[] 38)).cell? ((⟨g, o, none⟩ : Addr).add j) = some u := by
        intro j u hj
        have hjl : j < m.length * 3 := by rw [← cellsM_len]; exact (List.getElem?_eq_some_iff.1 hj).1
        have hi3 : j / 3 < m.length := by omega
        have hp : m[j / 3]? = some m[j / 3] := List.getElem?_eq_getElem hi3
        obtain ⟨a0, a1, a2⟩ := (q4 _ _ hp).below bA
        obtain ⟨b0, b1, b2⟩ := cellsM_at m _ _ hp
        rw [Addr.add_lit]
        have e3 : j = j / 3 * 3 ∨ j = j / 3 * 3 + 1 ∨ j = j / 3 * 3 + 2 := by omega
        rcases e3 with e3 | e3 | e3
        · rw [e3] at hj; rw [b0] at hj; rw [e3, ← Option.some.inj hj]; exact a0
        · rw [e3] at hj; rw [b1] at hj; rw [e3, ← Option.some.inj hj, ← Nat.add_assoc]; exact a1
        · rw [e3] at hj; rw [b2] at hj; rw [e3, ← Option.some.inj hj, ← Nat.add_assoc]; exact a2
      clear q4
      go_wp2_with (at_builtin; refine wpList_append_own_at _ rfl _ _ 23 rfl w5.heap.size 38 i0 (.agg #[.int .i64 0, .int .i64 0, .int .i64 0]) 3 24 Try.underlying23 hi0 hz0 hz1 hz2 rfl (by decide) _ _ _ rfl hnew ⟨g, o, none⟩ m.length cp (cellsM m) rfl (cellsM_len m) hcell (cellsM_one m) (by unfold maxLen; omega) (by omega) (by simp) ?_; intro v' w6 hown' hgrow _ _)
      have hy6 := HMP.out _ _ (isM_of_row (by simpa using hown'))
      have b6 := b5.trans ((bA.trans (grown_below hgrow (by simp) (fun k hk => (hnew.lt k hk).1))).mono b5.size)
      clear hown' hgrow hcell hnew
      clear bA
      have H6 := (show Hid _ from hy6)
      have HB := (show Hid _ from b6)
      clear hy6 b6
      go_loopw [13, 15] (fun yv i wr => ∃ (k : Nat) (es : List (Int × Int)), k ≤ 27 ∧ i = .int .i64 k ∧ GoodE es ∧ IsM wr yv (prs es) ∧ (es.length = 8 ∨ ∀ j, j < k → end27 len1 j ∈ es) ∧ Below W.heap.size W wr) (fun yv i wr => 27 - (intOf i).toNat)
      case atStart => exact ⟨0, es0, Nat.zero_le _, rfl, hg, H6.out, .inr (fun j hj => by omega), HB.out⟩
      case round =>
        obtain ⟨k, es, hk, rfl, hge, hM, hor, hb⟩ := hrel
        have h8 := hge.len
        obtain ⟨ay, cy, hvy⟩ := isM_slice hM
        rw [prs_len] at hvy
        subst hvy
        by_cases hkl : k < 27
        · have hkl' : (k : Int) < 27 := by omega
          have HE : Hid (((1 + ((k : Int) + (len1 : Int)) % 3, 1 + ((k : Int) + (len1 : Int)) % 27 / 3) : Int × Int) = end27 len1 k) := by
            show _ = _
            unfold end27
            refine Prod.ext ?_ ?_
            · simp only; omega
            · simp only; omega
          have HN := (show Hid _ from HST.out es hge k hkl hor)
          have HQ : Hid (mOut (prs es) (end27 len1 k) = (prs (outE es (end27 len1 k)).1, (outE es (end27 len1 k)).2.1, (outE es (end27 len1 k)).2.2)) := mout_ok es hge _ (end27_in len1 k)
          have HG := (show Hid _ from outE_good es _ hge (end27_in len1 k))
          have hff := (show Hid _ from HF.out es hge (end27 len1 k))
          clear hor
          have r0 := Int.emod_nonneg ((k : Int) + (len1 : Int)) (show (27 : Int) ≠ 0 by omega)
          have r1 := Int.emod_lt_of_pos ((k : Int) + (len1 : Int)) (show (0 : Int) < 27 by omega)
          have r2 := Int.emod_nonneg (((k : Int) + (len1 : Int)) % 27) (show (3 : Int) ≠ 0 by omega)
          have r3 := Int.emod_lt_of_pos (((k : Int) + (len1 : Int)) % 27) (show (0 : Int) < 3 by omega)
          have r4 : 0 ≤ ((k : Int) + (len1 : Int)) % 27 / 3 := by omega
          have r5 : ((k : Int) + (len1 : Int)) % 27 / 3 ≤ 8 := by omega
          go_wp2_with fail
          refine (out_any _ _ (prs es) hM (1 + ((k : Int) + (len1 : Int)) % 3, 1 + ((k : Int) + (len1 : Int)) % 27 / 3)).mono ?_
          rw [HE.out, HQ.out]
          rintro e w7 ⟨v7, rfl, hr7, k7⟩
          have b7 := hb.trans (k7.mono hb.size)
          have hM7 := isM_of_row hr7
          clear hr7 k7 hM
          have hff2 := hff.out
          have HN2 := HN.out
          have HG2 := HG.out
          generalize outE es (end27 len1 k) = q at hff2 HN2 HG2 hM7 ⊢
          obtain ⟨es2, p2, f2⟩ := q
          simp only at hff2 HN2 HG2 hM7
          have HN3 := (show Hid _ from HN2)
          clear HN HG HN2 hff HQ HE
          cases f2
          · have hl8 : es.length = 8 := hff2 rfl
            have hl8' : decide ((es.length : Int) < 8) = false := by simp; omega
            have hl8b : (8 : Int) ≤ (es.length : Int) := by omega
            clear hff2 hl8
            go_wp2
            go_roundw
            case rel => exact ⟨k + 1, es2, by omega, by go_num, HG2, hM7, HN3.out, b7⟩
            case measure => simp [intOf]; omega
          · clear hff2
            go_wp2
            go_roundw
            case rel => exact ⟨k + 1, es2, by omega, by go_num, HG2, hM7, HN3.out, b7⟩
            case measure => simp [intOf]; omega
        · have hge27 : (27 : Int) ≤ (k : Int) := by omega
          have hk27 : k = 27 := by omega
          have hlen : es.length = 8 := by
            rcases hor with h | h
            · exact h
            · exact (many es hge len1 (fun i hi => h i (by omega))).elim
          have hok2 := okM_prs es hge
          have HK := (show Hid _ from hok2)
          have hl8 : ((es.length : Int) == 8) = true := by simp; omega
          clear hor hok2 hk27 hlen
          go_wp2_with fail
          refine (ok_any _ _ (prs es) hM).mono ?_
          rintro e w7 ⟨rfl, k7⟩
          rw [HK.out]
          go_wp2
          go_ret
          exact ⟨rfl, b0.trans ((hb.trans (k7.mono hb.size)).mono b0.size)⟩
end Go.Proofs.Ytcoengedikcneaf.LMapMany

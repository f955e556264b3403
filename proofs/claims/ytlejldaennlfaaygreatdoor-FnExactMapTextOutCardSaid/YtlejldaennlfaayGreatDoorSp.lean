/- Walks: as what a piece goes out, and comes in, by the model; MapTextOut and MapTextIn of the model. -/
import Derived.Test.YtlejldaennlfaayGreatDoorMo
import Derived.Test.YtlejldaennlfaayGreatDoorMr
import Derived.Test.YtlejldaennlfaayGreatDoorGp
import Derived.Test.YtlejldaennlfaayGreatDoorLzP
import Derived.Test.YtlejldaennlfaayGreatDoorWa
namespace Go.Proofs.YtlejldaennlfaayGreatDoor.Sp
open Go.RowKit Go.Proofs.YtlejldaennlfaayGreatDoor.Kit Go.Proofs.YtlejldaennlfaayGreatDoor.Mp Go.Proofs.YtlejldaennlfaayGreatDoor.Mm Go.Proofs.YtlejldaennlfaayGreatDoor.Ms Go.Proofs.YtlejldaennlfaayGreatDoor.Tx Go.Proofs.YtlejldaennlfaayGreatDoor.Nm Go.Proofs.YtlejldaennlfaayGreatDoor.App Go.Proofs.YtlejldaennlfaayGreatDoor.Gp
open Go.Proofs.YtlejldaennlfaayGreatDoor.EndW (endV sideZ isB spec1)
open Go.Proofs.YtlejldaennlfaayGreatDoor.Text (txt specText)
set_option linter.unusedSimpArgs false
set_option linter.unusedVariables false

theorem txt_four (x y : Int) : (txt x y).size ≤ 4 := by
  by_cases h : sideZ x y = 0
  · unfold txt; rw [if_pos h]; exact Nat.le_of_ble_eq_true rfl
  · rw [Text.txt_len x y h]; split <;> omega

set_option maxRecDepth 8000 in
set_option maxHeartbeats 4000000 in
theorem sout_piece (W : World) (base : Nat) (hB : base ≤ W.heap.size) (v : Value) (es : List (Int × Int)) (hg : GoodE es) (hrow : W.ownsRow base 42 3 v es.length (cellsM (prs es))) (P : Pc) (S : ByteArray) :
    Calls Tryz.prog 15 #[v, pcV P, .string S] W fun r W' => ∃ v' T, r = .returned (.tuple #[v', .string T]) ∧ W'.ownsRow base 42 3 v' (goO es P S.data.toList).1.length (cellsM (prs (goO es P S.data.toList).1)) ∧ T.data.toList = (goO es P S.data.toList).2 ∧ Below base W W' ∧ Gr W W' v v' := by
  obtain ⟨sz, nm, ad, po⟩ := P
  have bA : Below W.heap.size W (W.alloc (.cells #[.int .i64 (sz : Nat), .bool nm, .int .i64 ad, .int .i64 po] 40)) := (Below.refl _ _).alloc (Nat.le_refl _) _
  cases nm
  · have hgo : goO es ⟨sz, false, ad, po⟩ S.data.toList = (es, S.data.toList) := by unfold goO; rw [if_neg (by rintro ⟨e, _⟩; cases e)]
    rw [hgo]
    go_enter Tryz.func15, Tryz.ntmps15
    go_wp2
    refine bodyPost_ret (v := .tuple #[v, .string S]) (by simp [results, Tryz.results15, go_sem]) rfl ?_
    exact ⟨_, _, rfl, row_below hrow bA, rfl, bA.mono hB, Gr.of bA v⟩
  · cases hi : inB (ad, po)
    · have hgo : goO es ⟨sz, true, ad, po⟩ S.data.toList = (es, S.data.toList) := by unfold goO; rw [if_neg (by rintro ⟨_, e, _⟩; simp only at e; rw [hi] at e; cases e)]
      rw [hgo]
      go_enter Tryz.func15, Tryz.ntmps15
      go_wp2_with fail
      refine (spec1 ad po _).mono ?_
      rintro r w1 ⟨rfl, k1⟩
      rw [show isB 1 ad po = inB (ad, po) from isB_inB (ad, po), hi]
      have b1 := bA.trans (k1.mono bA.size)
      go_wp2
      refine bodyPost_ret (v := .tuple #[v, .string S]) (by simp [results, Tryz.results15, go_sem]) rfl ?_
      exact ⟨_, _, rfl, row_below hrow b1, rfl, b1.mono hB, Gr.of b1 v⟩
    · have hgo : goO es ⟨sz, true, ad, po⟩ S.data.toList = if (outE es (ad, po)).2.2 = true then ((outE es (ad, po)).1, nmL (9, (outE es (ad, po)).2.1)) else (es, S.data.toList) := by
        unfold goO; simp only [hi, true_and]
      rw [hgo]
      clear hgo
      have hop := outE_port es (ad, po) hg
      obtain ⟨q, hq⟩ : ∃ q, outE es (ad, po) = q := ⟨_, rfl⟩
      have HQ : Hid (outE es (ad, po) = q) := hq
      have hpre : q.2.2 = false → q.1 = es := by
        rw [← hq]
        intro hf
        by_cases hm : (ad, po) ∈ es
        · rw [outE_has es _ hm]
        · by_cases hl : es.length < 8
          · rw [outE_new es _ hm hl] at hf; cases hf
          · rw [outE_full es _ hm (by omega)]
      rw [hq] at hop ⊢
      clear hq
      obtain ⟨es2, pt, ok⟩ := q
      simp only at hop hpre ⊢
      go_enter Tryz.func15, Tryz.ntmps15
      go_wp2_with fail
      refine (spec1 ad po _).mono ?_
      rintro r w1 ⟨rfl, k1⟩
      rw [show isB 1 ad po = inB (ad, po) from isB_inB (ad, po), hi]
      have z1 := k1.size
      simp at z1
      have b1 := bA.trans (k1.mono bA.size)
      have c1 := keepc k1 W.heap.size (by simp)
      have hrow1 := row_below hrow b1
      go_wp2_with fail
      refine (lout_any2 _ base (by omega) v es hg hrow1 (ad, po)).mono ?_
      rintro r w2 ⟨v2, rfl, hrow2, k2, kgr, kf⟩
      rw [HQ.out] at hrow2 kf
      rw [HQ.out]
      have b2 := (b1.mono hB).trans k2
      simp only at hrow2 kf
      cases ok
      · have he : es2 = es := hpre rfl
        have kf2 := kf rfl
        have hrowv : w2.ownsRow base 42 3 v es.length (cellsM (prs es)) := row_below hrow1 kf2
        go_wp2
        refine bodyPost_ret (v := .tuple #[v, .string S]) (by simp [results, Tryz.results15, go_sem]) rfl ?_
        exact ⟨_, _, rfl, by simpa using hrowv, by simp, b2, Gr.of (b1.trans (kf2.mono b1.size)) v⟩
      · obtain ⟨p1, p2, _⟩ := hop rfl
        have hsd : sideZ 9 pt ≠ 0 := by
          unfold sideZ; simp; omega
        have hz := txt_four 9 pt
        go_wp2_with fail
        refine (specText 9 pt _).mono ?_
        rintro r w3 ⟨rfl, k3⟩
        have hnd := nm_data 9 pt hsd
        generalize txt 9 pt = X at hz hnd
        go_wp2
        refine bodyPost_ret (v := .tuple #[v2, .string (⟨#[64]⟩ ++ X ++ ⟨#[59]⟩)]) (by simp [results, Tryz.results15, go_sem]) rfl ?_
        refine ⟨_, _, rfl, by simpa using row_below hrow2 k3, by simpa using hnd, b2.trans (k3.mono (Nat.le_trans hB b2.size)), ⟨grown_trans (grown_trans (grown_of b1 _) kgr.1) (grown_of k3 _), ?_⟩⟩
        rcases kgr.2 with q | ⟨g, q, hq⟩
        · exact .inl q
        · exact .inr ⟨g, q, by have := b1.size; omega⟩

theorem isP_grown {W W' : World} {row : Option Nat} {v : Value} {ps : List Pc} (h : Lz.IsP W v ps) (k : W.grownBy W' row) (hv : ∀ g o n c, v = .slice (some ⟨g, o, none⟩) n c → row ≠ some g) : Lz.IsP W' v ps := by
  rcases h with h | ⟨g, o, cap, rfl, h2, h3, h4⟩
  · exact .inl h
  · refine .inr ⟨g, o, cap, rfl, h2, h3, fun i p hp => ?_⟩
    have hq := h4 i p hp
    have hlt : g < W.heap.size := blk hq.1
    have e : ∀ j, W'.cell? ⟨g, j, none⟩ = W.cell? ⟨g, j, none⟩ := fun j => World.cell?_of_block (k.block g hlt (fun e => hv g o _ _ rfl e.symm))
    exact ⟨(e _).trans hq.1, (e _).trans hq.2.1, (e _).trans hq.2.2.1, (e _).trans hq.2.2.2⟩
theorem lpieces_any (s : ByteArray) (hsz : s.size ≤ 1073741824) (w : World) :
    Calls Tryz.prog 14 #[.string s] w fun e W' => ∃ v, e = .returned v ∧ W'.ownsRow w.heap.size 40 4 v (pcs (bd s.data.toList)).length (Pcs.cellsP (pcs (bd s.data.toList))) ∧ Below w.heap.size w W' :=
  (callsIn_wide (n := 5)).1 (Pcs.lpieces_in 5 (by omega) s hsz w)
theorem szs_take (ps : List Pc) (k : Nat) (p : Pc) (h : ps[k]? = some p) : szs (ps.take (k + 1)) = szs (ps.take k) + p.sz := by
  rw [List.take_add_one, h]; simp [szs]
theorem szs_take_le (ps : List Pc) (k : Nat) : szs (ps.take k) ≤ szs ps := by
  have : szs (ps.take k ++ ps.drop k) = szs (ps.take k) + szs (ps.drop k) := by unfold szs; rw [List.map_append, List.sum_append]
  rw [List.take_append_drop] at this
  omega
theorem outP_take (es : List (Int × Int)) (ps : List Pc) (k : Nat) (p : Pc) (l : List UInt8) (h : ps[k]? = some p) :
    outP es (ps.take (k + 1)) l = ((goO (outP es (ps.take k) l).1 p ((l.drop (szs (ps.take k))).take p.sz)).1, (outP es (ps.take k) l).2 ++ (goO (outP es (ps.take k) l).1 p ((l.drop (szs (ps.take k))).take p.sz)).2) := by
  rw [List.take_add_one, h]
  exact outP_snoc es (ps.take k) p l
theorem inP_take (es : List (Int × Int)) (ps : List Pc) (k : Nat) (p : Pc) (l : List UInt8) (h : ps[k]? = some p) :
    inP es (ps.take (k + 1)) l = inP es (ps.take k) l ++ goI es p ((l.drop (szs (ps.take k))).take p.sz) := by
  rw [List.take_add_one, h]
  exact inP_snoc es (ps.take k) p l

set_option maxRecDepth 8000 in
set_option maxHeartbeats 8000000 in
theorem stout_any (W : World) (v : Value) (m : List (Int × Int × Int)) (hm : IsM W v m) (hmm : m.length ≤ 1073741824) (s : ByteArray) (hss : s.size ≤ 1073741824) :
    Calls Tryz.prog 5 #[v, .string s] W fun r W' => ∃ v' T, r = .returned (.tuple #[v', .string T]) ∧ W'.ownsRow W.heap.size 42 3 v' (tOut m s.data.toList).1.length (cellsM (tOut m s.data.toList).1) ∧ T.data.toList = (tOut m s.data.toList).2 ∧ Below W.heap.size W W' := by
  have hmx : s.size ≤ maxLen := by unfold maxLen; omega
  cases hok : okM m
  · have ht : tOut m s.data.toList = ([], []) := by unfold tOut; rw [if_neg (by rw [hok]; exact fun h => Bool.false_ne_true h.1)]
    rw [ht]
    go_enter Tryz.func5, Tryz.ntmps5
    go_wp2_with fail
    refine (Ms.sok_any _ v m hm hmm).mono ?_
    rintro r w1 ⟨rfl, k1⟩
    rw [hok]
    have z1 := k1.size
    go_wp2
    refine bodyPost_ret (v := .tuple #[.slice (some ⟨w1.heap.size, 0, none⟩) 0 0, .string ⟨#[]⟩]) (by simp [results, Tryz.results5, go_sem]) rfl ?_
    exact ⟨_, _, rfl, World.ownsRow_made (base := W.heap.size) (e := 42) (size := 3) w1 #[] 0 z1 (Nat.zero_le _) rfl, rfl, k1.alloc k1.size _⟩
  · have hg := (okM_out m hok).1
    have hpr : Hid (m = prs (m.map Prod.snd)) := (okM_out m hok).2
    cases hs : okB s.data.toList
    · have ht : tOut m s.data.toList = ([], []) := by unfold tOut; rw [if_neg (by rw [hs]; exact fun h => Bool.false_ne_true h.2)]
      rw [ht]
      go_enter Tryz.func5, Tryz.ntmps5
      go_wp2_with fail
      refine (Ms.sok_any _ v m hm hmm).mono ?_
      rintro r w1 ⟨rfl, k1⟩
      rw [hok]
      have z1 := k1.size
      go_wp2_with fail
      refine (TxW.sok_any s hmx _).mono ?_
      rintro r w2 ⟨rfl, rfl⟩
      rw [hs]
      go_wp2
      refine bodyPost_ret (v := .tuple #[.slice (some ⟨w2.heap.size, 0, none⟩) 0 0, .string ⟨#[]⟩]) (by simp [results, Tryz.results5, go_sem]) rfl ?_
      exact ⟨_, _, rfl, World.ownsRow_made (base := W.heap.size) (e := 42) (size := 3) w2 #[] 0 z1 (Nat.zero_le _) rfl, rfl, k1.alloc k1.size _⟩
    · have ht : tOut m s.data.toList = (prs (outP (m.map Prod.snd) (pieL s.data.toList) s.data.toList).1, (outP (m.map Prod.snd) (pieL s.data.toList) s.data.toList).2) := by unfold tOut; rw [if_pos ⟨hok, hs⟩]
      rw [ht, pie_ok _ hs]
      clear ht
      have hs40 : s.size ≤ 40 := by have := (ok_parts _ hs).1; rw [lenL] at this; exact this
      have hlp := LzP.len_pie _ hs
      rw [pie_ok _ hs] at hlp
      have hpl : (pcs (bd s.data.toList)).length ≤ 40 := hlp.1
      have hsz : szs (pcs (bd s.data.toList)) ≤ s.size := by rw [hlp.2, lenL]; omega
      have hmrow : ∀ (w' : World) (b : Nat) (vv : Value), w'.ownsRow b 42 3 vv m.length (cellsM m) → w'.ownsRow b 42 3 vv (m.map Prod.snd).length (cellsM (prs (m.map Prod.snd))) := fun w' b vv q => by rw [← hpr.out, List.length_map]; exact q
      have HMR := (show Hid _ from hmrow)
      generalize m.map Prod.snd = es at hg HMR
      clear hmrow hpr hlp
      obtain ⟨ps, HPS⟩ : ∃ ps, Hid (pcs (bd s.data.toList) = ps) := ⟨_, rfl⟩
      rw [HPS.out] at hpl hsz ⊢
      go_enter Tryz.func5, Tryz.ntmps5
      go_wp2_with fail
      refine (Ms.sok_any _ v m hm hmm).mono ?_
      rintro r w1 ⟨rfl, k1⟩
      rw [hok]
      go_wp2_with fail
      refine (TxW.sok_any s hmx _).mono ?_
      rintro r w2 ⟨rfl, rfl⟩
      rw [hs]
      go_wp2_with fail
      refine (copy_any _ v m (hm.below k1) hmm).mono ?_
      rintro r w3 ⟨vx, rfl, hrx, k3⟩
      have hrx3 := HMR.out _ _ _ (ownsRow_base (b' := W.heap.size) hrx k1.size)
      have b3 := k1.trans (k3.mono k1.size)
      clear hrx k3
      go_wp2_with fail
      refine (lpieces_any s hss _).mono ?_
      rintro r w4 ⟨vp, rfl, hrp, k4⟩
      rw [HPS.out] at hrp
      have hrx4 := row_below hrx3 k4
      have b4 := b3.trans (k4.mono b3.size)
      have hdis : ∀ g o n c, vp = .slice (some ⟨g, o, none⟩) n c → vx.ownBlock ≠ some g ∧ g < w4.heap.size := by
        intro g o n c e
        have hob : vp.ownBlock = some g := by
          rcases hrp.2 with ⟨q, _⟩ | ⟨g', cap', cur, q, _⟩
          · rw [q] at e; cases e
          · rw [q] at e ⊢
            simp at e
            rw [e.1.1]; rfl
        have h1 := hrp.lt g hob
        refine ⟨fun h2 => ?_, h1.2⟩
        have h3 := (hrx3.lt g h2).2
        omega
      have hP4 : Lz.IsP w4 vp ps := Lz.isP_of_row hrp
      obtain ⟨ap, cp, hvp⟩ := LzP.isP_slice hP4
      subst hvp
      clear hrp k4 hrx3 b3
      have HL := (show Hid _ from HPS.out)
      go_wp2
      go_loopw [6, 7, 8, 10] (fun xv ov av i wr => ∃ (k : Nat) (S : ByteArray), k ≤ ps.length ∧ i = .int .i64 k ∧ ov = .string S ∧ S.data.toList = (outP es (ps.take k) s.data.toList).2 ∧ av = .int .i64 (szs (ps.take k) : Nat) ∧
          wr.ownsRow W.heap.size 42 3 xv (outP es (ps.take k) s.data.toList).1.length (cellsM (prs (outP es (ps.take k) s.data.toList).1)) ∧ Lz.IsP wr (.slice ap ps.length cp) ps ∧ (∀ g o n c, Value.slice ap ps.length cp = .slice (some ⟨g, o, none⟩) n c → xv.ownBlock ≠ some g ∧ g < wr.heap.size) ∧ Below W.heap.size W wr) (fun xv ov av i wr => ps.length - (intOf i).toNat)
      case atStart => exact ⟨0, ⟨#[]⟩, Nat.zero_le _, rfl, rfl, rfl, rfl, hrx4, hP4, hdis, b4⟩
      case round =>
        obtain ⟨k, S, hk, rfl, rfl, hS, rfl, hrow, hP, hd, hb⟩ := hrel
        have hge := outP_good es (ps.take k) s.data.toList hg
        have hSz : S.size ≤ 300 := by
          have := Wa.outP_len es hg (ps.take k) s.data.toList
          have h2 : (ps.take k).length ≤ 40 := by rw [List.length_take]; omega
          rw [← hS, lenL, lenL] at this; omega
        by_cases hkl : k < ps.length
        · have hkl' : (k : Int) < (ps.length : Int) := by omega
          have hp : ps[k]? = some ps[k] := List.getElem?_eq_getElem hkl
          rcases hP with ⟨_, rfl⟩ | ⟨g, o, cp', hv, c1, c2, c3⟩
          · cases hp
          simp at hv
          obtain ⟨rfl, rfl⟩ := hv
          have hat := c3 k _ hp
          have HP := (show Hid (Lz.IsP wr (.slice (some ⟨g, o, none⟩) ps.length cp) ps) from .inr ⟨g, o, cp, rfl, c1, c2, c3⟩)
          have hst := szs_take ps k _ hp
          have hou := outP_take es ps k _ s.data.toList hp
          have hsl := szs_take_le ps (k + 1)
          generalize ps[k] = P at hp hat hst hou
          obtain ⟨y0, y1, y2, y3⟩ := hat
          have hwr : IntKind.i64.wrap (((szs (ps.take k) : Nat) : Int) + ((P.sz : Nat) : Int)) = ((szs (ps.take k) + P.sz : Nat) : Int) := by simp [IntKind.wrap, IntKind.bits, IntKind.signed]; omega
          have b0' : ((szs (ps.take k) : Nat) : Int) ≤ ((szs (ps.take k) + P.sz : Nat) : Int) := by omega
          have b1' : ((szs (ps.take k) + P.sz : Nat) : Int) ≤ (s.size : Int) := by omega
          have b2' : ((szs (ps.take k) : Nat) : Int) ≤ (s.size : Int) := by omega
          have b3' : ((szs (ps.take k) : Nat) : Int) + ((P.sz : Nat) : Int) ≤ 40 := by omega
          have HPK := (show Hid _ from hp)
          have HST := (show Hid _ from hst)
          have HOU := (show Hid _ from hou)
          have HR := (show Hid _ from hrow)
          have HD := (show Hid _ from hd)
          have HB := (show Hid _ from hb)
          have HG := (show Hid _ from hge)
          have HS := (show Hid _ from hS)
          have hgl := hd g o _ _ rfl
          clear hst hou hrow hd hge hS c3 hp hsl
          go_wp2_with fail
          go_region_with (go_at_call 15; refine (sout_piece _ W.heap.size (by exact HB.out.size) _ _ HG.out (by first | exact HR.out | exact row_below HR.out (Below.refl _ _).drew | exact row_below HR.out (Below.refl _ _).drew.drew | exact row_below HR.out (Below.refl _ _).drew.drew.drew) P (s.extract (szs (ps.take k)) (szs (ps.take k) + P.sz))).mono ?_; rintro r w5 ⟨v5, T, rfl, hr5, hT5, k5, kg5⟩; obtain ⟨kg, kb⟩ : Gr wr w5 _ v5 ∧ Below W.heap.size wr w5 := (by
              refine ⟨⟨?_, kg5.2⟩, ?_⟩
              · first | exact kg5.1 | exact grown_trans (grown_of (Below.refl _ wr).drew _) kg5.1 | exact grown_trans (grown_of (Below.refl _ wr).drew.drew _) kg5.1 | exact grown_trans (grown_of (Below.refl _ wr).drew.drew.drew _) kg5.1
              · first | exact k5 | exact (Below.refl _ wr).drew.trans k5 | exact (Below.refl _ wr).drew.drew.trans k5 | exact (Below.refl _ wr).drew.drew.drew.trans k5); have hP5 := isP_grown HP.out kg.1 (fun g' o' n' c' e => (HD.out g' o' n' c' e).1); have hTz : T.size ≤ 100 := (by have h1 := Wa.goO_len _ HG.out P (s.extract (szs (ps.take k)) (szs (ps.take k) + P.sz)).data.toList; rw [← hT5, lenL, lenL, ByteArray.size_extract] at h1; omega); have HP5 := (show Hid _ from hP5); have HR5 := (show Hid _ from hr5); have HT5 := (show Hid _ from hT5); have HGR := (show Hid _ from kg); have HKB := (show Hid _ from kb); clear hP5 hr5 hT5 kg kb k5 kg5)
          all_goals
            have y5 : w5.cell? ⟨g, o + k * 4, none⟩ = some (.int .i64 (P.sz : Nat)) := by
              rcases HP5.out with ⟨q, _⟩ | ⟨g', o', c', q, _, _, q3⟩
              · cases q
              · simp at q
                obtain ⟨⟨rfl, rfl⟩, _⟩ := q
                have hpk : ps[k]? = some P := HPK.out
                exact (q3 k _ hpk).1
            go_wp2
            go_roundw
            case rel =>
              have hext : (s.extract (szs (ps.take k)) (szs (ps.take k) + P.sz)).data.toList = (s.data.toList.drop (szs (ps.take k))).take P.sz := by
                rw [ext_to, show szs (ps.take k) + P.sz - szs (ps.take k) = P.sz by omega]
              have hr := HR5.out
              have hT := HT5.out
              rw [hext] at hr hT
              have h1 : (outP es (ps.take (k + 1)) s.data.toList).1 = _ := congrArg Prod.fst HOU.out
              have h2 : (outP es (ps.take (k + 1)) s.data.toList).2 = _ := congrArg Prod.snd HOU.out
              simp only at h1 h2
              refine ⟨k + 1, S ++ T, by omega, by go_num, rfl, ?_, ?_, ?_, HP5.out, ?_, HB.out.trans (HKB.out)⟩
              · rw [h2, ByteArray.data_append, Array.toList_append, HS.out, hT]
              · rw [HST.out]; exact congrArg (Value.int IntKind.i64) (by omega)
              · rw [h1]; exact hr
              · intro g' o' n' c' e
                obtain ⟨q1, q2⟩ := HD.out g' o' n' c' e
                refine ⟨fun e2 => ?_, Nat.lt_of_lt_of_le q2 HKB.out.size⟩
                rcases HGR.out.2 with q | ⟨gg, q, hgg⟩
                · rw [q] at e2; exact q1 e2
                · rw [q] at e2; simp at e2; omega
            case measure => simp [intOf]; omega
        · have hge' : (ps.length : Int) ≤ (k : Int) := by omega
          have hkk : ps.take k = ps := List.take_of_length_le (by omega)
          rw [hkk] at hS hrow
          have HS := (show Hid _ from hS)
          have HR := (show Hid _ from hrow)
          clear hkk hS hrow hge hP hd
          go_wp2
          refine bodyPost_ret (v := .tuple #[_, .string S]) (by simp [results, Tryz.results5, go_sem]; rfl) rfl ?_
          exact ⟨_, _, rfl, by rw [prs_len]; exact HR.out, HS.out, hb⟩
end Go.Proofs.YtlejldaennlfaayGreatDoor.Sp

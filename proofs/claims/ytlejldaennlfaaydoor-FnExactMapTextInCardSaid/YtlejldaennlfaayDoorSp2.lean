/- Walks: as what a piece comes in by the model; MapTextIn of the model. -/
import Derived.Test.YtlejldaennlfaayDoorSp
namespace Go.Proofs.YtlejldaennlfaayDoor.Sp
open Go.RowKit Go.Proofs.YtlejldaennlfaayDoor.Kit Go.Proofs.YtlejldaennlfaayDoor.Mp Go.Proofs.YtlejldaennlfaayDoor.Mm Go.Proofs.YtlejldaennlfaayDoor.Ms Go.Proofs.YtlejldaennlfaayDoor.Tx Go.Proofs.YtlejldaennlfaayDoor.Nm Go.Proofs.YtlejldaennlfaayDoor.App Go.Proofs.YtlejldaennlfaayDoor.Gp
open Go.Proofs.YtlejldaennlfaayDoor.EndW (endV sideZ isB spec1)
open Go.Proofs.YtlejldaennlfaayDoor.EndW (spec3)
open Go.Proofs.YtlejldaennlfaayDoor.Text (txt specText)
set_option linter.unusedSimpArgs false
set_option linter.unusedVariables false

set_option maxRecDepth 8000 in
set_option maxHeartbeats 4000000 in
theorem sin_piece (W : World) (v : Value) (es : List (Int × Int)) (hg : GoodE es) (hm : IsM W v (prs es)) (P : Pc) (S : ByteArray) :
    Calls Tryd.prog 12 #[v, pcV P, .string S] W fun r W' => ∃ T, r = .returned (.string T) ∧ T.data.toList = goI es P S.data.toList ∧ Below W.heap.size W W' := by
  obtain ⟨sz, nm, ad, po⟩ := P
  have bA : Below W.heap.size W (W.alloc (.cells #[.int .i64 (sz : Nat), .bool nm, .int .i64 ad, .int .i64 po] 37)) := (Below.refl _ _).alloc (Nat.le_refl _) _
  cases nm
  · have hgo : goI es ⟨sz, false, ad, po⟩ S.data.toList = S.data.toList := by unfold goI; rw [if_neg (by rintro ⟨e, _⟩; cases e)]
    rw [hgo]
    go_enter Tryd.func12, Tryd.ntmps12
    go_wp2
    go_ret
    exact ⟨_, rfl, rfl, bA⟩
  · by_cases hs : sideZ ad po = 3
    · have hdd : isB 3 ad po = true := by rw [isB3]; simp [hs]
      have hgo : goI es ⟨sz, true, ad, po⟩ S.data.toList = if (inE es po).2 = true then nmL (inE es po).1 else S.data.toList := by
        unfold goI; simp only [hs, true_and]
      rw [hgo]
      clear hgo
      have hbd : 10 ≤ po ∧ po ≤ 17 := by
        unfold sideZ at hs
        split at hs
        · omega
        · split at hs
          · omega
          · split at hs <;> omega
      have hin : (inE es po).2 = true → sideZ (inE es po).1.1 (inE es po).1.2 ≠ 0 := by
        intro ht
        rcases inE_cases es po with ⟨i, e, _, he, hq⟩ | ⟨_, hq⟩
        · rw [hq]
          have := hg.ins e (List.mem_of_getElem? he)
          simp only [inB, decide_eq_true_eq] at this
          simp only; omega
        · rw [hq] at ht; cases ht
      obtain ⟨q, hq⟩ : ∃ q, inE es po = q := ⟨_, rfl⟩
      have HQ : Hid (inE es po = q) := hq
      rw [hq] at hin ⊢
      clear hq
      obtain ⟨⟨ea, ep⟩, ok⟩ := q
      simp only at hin ⊢
      go_enter Tryd.func12, Tryd.ntmps12
      go_wp2_with fail
      refine (spec3 ad po _).mono ?_
      rintro r w1 ⟨rfl, k1⟩
      rw [hdd]
      have z1 := k1.size
      simp at z1
      have b1 := bA.trans (k1.mono bA.size)
      have c1 := keepc k1 W.heap.size (by simp)
      go_wp2_with fail
      refine (lin_any _ v es hg.len (hm.below b1) po (by omega) (by omega)).mono ?_
      rintro r w2 ⟨rfl, k2⟩
      rw [HQ.out]
      have b2 := b1.trans (k2.mono b1.size)
      cases ok
      · go_wp2
        go_ret
        exact ⟨_, rfl, by simp, b2.alloc b2.size _⟩
      · have hnz : sideZ ea ep ≠ 0 := hin rfl
        have hz := txt_four ea ep
        go_wp2_with fail
        refine (specText ea ep _).mono ?_
        rintro r w3 ⟨rfl, k3⟩
        have hnd := nm_data ea ep hnz
        have b3 := (b2.alloc (o := .cells #[.int .i64 ea, .int .i64 ep] 35) b2.size).trans (k3.mono (by have := b2.size; simp; omega))
        generalize txt ea ep = X at hz hnd
        go_wp2
        go_ret
        exact ⟨_, rfl, by simpa using hnd, b3⟩
    · have hdd : isB 3 ad po = false := by rw [isB3]; simp [hs]
      have hgo : goI es ⟨sz, true, ad, po⟩ S.data.toList = S.data.toList := by unfold goI; rw [if_neg (by rintro ⟨_, e, _⟩; exact hs e)]
      rw [hgo]
      go_enter Tryd.func12, Tryd.ntmps12
      go_wp2_with fail
      refine (spec3 ad po _).mono ?_
      rintro r w1 ⟨rfl, k1⟩
      rw [hdd]
      have b1 := bA.trans (k1.mono bA.size)
      go_wp2
      go_ret
      exact ⟨_, rfl, rfl, b1⟩

set_option maxRecDepth 8000 in
set_option maxHeartbeats 8000000 in
theorem stin_any (W : World) (v : Value) (m : List (Int × Int × Int)) (hm : IsM W v m) (hmm : m.length ≤ 1073741824) (s : ByteArray) (hss : s.size ≤ 1073741824) :
    Calls Tryd.prog 5 #[v, .string s] W fun r W' => ∃ T, r = .returned (.string T) ∧ T.data.toList = tIn m s.data.toList ∧ Below W.heap.size W W' := by
  have hmx : s.size ≤ maxLen := by unfold maxLen; omega
  cases hok : okM m
  · have ht : tIn m s.data.toList = [] := by unfold tIn; rw [if_neg (by rw [hok]; exact fun h => Bool.false_ne_true h.1)]
    rw [ht]
    go_enter Tryd.func5, Tryd.ntmps5
    go_wp2_with fail
    refine (Ms.sok_any _ v m hm hmm).mono ?_
    rintro r w1 ⟨rfl, k1⟩
    rw [hok]
    go_wp2
    go_ret
    exact ⟨_, rfl, rfl, k1⟩
  · have hg := (okM_out m hok).1
    have hpr : Hid (m = prs (m.map Prod.snd)) := (okM_out m hok).2
    cases hs : okB s.data.toList
    · have ht : tIn m s.data.toList = [] := by unfold tIn; rw [if_neg (by rw [hs]; exact fun h => Bool.false_ne_true h.2)]
      rw [ht]
      go_enter Tryd.func5, Tryd.ntmps5
      go_wp2_with fail
      refine (Ms.sok_any _ v m hm hmm).mono ?_
      rintro r w1 ⟨rfl, k1⟩
      rw [hok]
      go_wp2_with fail
      refine (TxW.sok_any s hmx _).mono ?_
      rintro r w2 ⟨rfl, rfl⟩
      rw [hs]
      go_wp2
      go_ret
      exact ⟨_, rfl, rfl, k1⟩
    · have ht : tIn m s.data.toList = inP (m.map Prod.snd) (pieL s.data.toList) s.data.toList := by unfold tIn; rw [if_pos ⟨hok, hs⟩]
      rw [ht, pie_ok _ hs]
      clear ht
      have hs40 : s.size ≤ 40 := by have := (ok_parts _ hs).1; rw [lenL] at this; exact this
      have hlp := LzP.len_pie _ hs
      rw [pie_ok _ hs] at hlp
      have hpl : (pcs (bd s.data.toList)).length ≤ 40 := hlp.1
      have hsz : szs (pcs (bd s.data.toList)) ≤ s.size := by rw [hlp.2, lenL]; omega
      have hmp : ∀ (w' : World), IsM w' v m → IsM w' v (prs (m.map Prod.snd)) := fun w' q => by rw [← hpr.out]; exact q
      have HMP := (show Hid _ from hmp)
      generalize m.map Prod.snd = es at hg HMP
      clear hmp hpr hlp
      obtain ⟨ps, HPS⟩ : ∃ ps, Hid (pcs (bd s.data.toList) = ps) := ⟨_, rfl⟩
      rw [HPS.out] at hpl hsz ⊢
      go_enter Tryd.func5, Tryd.ntmps5
      go_wp2_with fail
      refine (Ms.sok_any _ v m hm hmm).mono ?_
      rintro r w1 ⟨rfl, k1⟩
      rw [hok]
      go_wp2_with fail
      refine (TxW.sok_any s hmx _).mono ?_
      rintro r w2 ⟨rfl, rfl⟩
      rw [hs]
      go_wp2_with fail
      refine (lpieces_any s hss _).mono ?_
      rintro r w4 ⟨vp, rfl, hrp, k4⟩
      rw [HPS.out] at hrp
      have b4 := k1.trans (k4.mono k1.size)
      have hP4 : Lz.IsP w4 vp ps := Lz.isP_of_row hrp
      have hM4 := HMP.out _ (hm.below b4)
      obtain ⟨ap, cp, hvp⟩ := LzP.isP_slice hP4
      subst hvp
      have HM4 := (show Hid _ from hM4)
      have HP4 := (show Hid _ from hP4)
      have HB4 := (show Hid _ from b4)
      clear hrp k4 hM4 hP4 b4 hm k1
      go_wp2
      go_loopw [5, 6, 8] (fun ov av i wr => ∃ (k : Nat) (S : ByteArray), k ≤ ps.length ∧ i = .int .i64 k ∧ ov = .string S ∧ S.data.toList = inP es (ps.take k) s.data.toList ∧ av = .int .i64 (szs (ps.take k) : Nat) ∧ Below w4.heap.size w4 wr) (fun ov av i wr => ps.length - (intOf i).toNat)
      case atStart => exact ⟨0, ⟨#[]⟩, Nat.zero_le _, rfl, rfl, rfl, rfl, Below.refl _ _⟩
      case round =>
        obtain ⟨k, S, hk, rfl, rfl, hS, rfl, hb⟩ := hrel
        have hSz : S.size ≤ 300 := by
          have := Wa.inP_len es hg (ps.take k) s.data.toList
          have h2 : (ps.take k).length ≤ 40 := by rw [List.length_take]; omega
          rw [← hS, lenL, lenL] at this; omega
        by_cases hkl : k < ps.length
        · have hkl' : (k : Int) < (ps.length : Int) := by omega
          have hp : ps[k]? = some ps[k] := List.getElem?_eq_getElem hkl
          rcases Lz.IsP.below HP4.out hb with ⟨_, rfl⟩ | ⟨g, o, cp', hv, c1, c2, c3⟩
          · cases hp
          simp at hv
          obtain ⟨rfl, rfl⟩ := hv
          have hat := c3 k _ hp
          have hst := szs_take ps k _ hp
          have hou := inP_take es ps k _ s.data.toList hp
          have hsl := szs_take_le ps (k + 1)
          generalize ps[k] = P at hp hat hst hou
          obtain ⟨y0, y1, y2, y3⟩ := hat
          have hgl : g < wr.heap.size := blk y0
          have hwr : IntKind.i64.wrap (((szs (ps.take k) : Nat) : Int) + ((P.sz : Nat) : Int)) = ((szs (ps.take k) + P.sz : Nat) : Int) := by simp [IntKind.wrap, IntKind.bits, IntKind.signed]; omega
          have b0' : ((szs (ps.take k) : Nat) : Int) ≤ ((szs (ps.take k) + P.sz : Nat) : Int) := by omega
          have b1' : ((szs (ps.take k) + P.sz : Nat) : Int) ≤ (s.size : Int) := by omega
          have b2' : ((szs (ps.take k) : Nat) : Int) ≤ (s.size : Int) := by omega
          have b3' : ((szs (ps.take k) : Nat) : Int) + ((P.sz : Nat) : Int) ≤ 40 := by omega
          have HST := (show Hid _ from hst)
          have HOU := (show Hid _ from hou)
          have HB := (show Hid _ from hb)
          have HS := (show Hid _ from hS)
          have HMw := (show Hid (IsM wr v (prs es)) from Mm.IsM.below HM4.out hb)
          clear hst hou hb hS c3 hp hsl
          go_wp2_with fail
          go_region_with (go_at_call 12; refine (sin_piece _ v es hg (by first | exact HMw.out | exact Mm.IsM.below HMw.out (Below.refl _ _).drew | exact Mm.IsM.below HMw.out (Below.refl _ _).drew.drew | exact Mm.IsM.below HMw.out (Below.refl _ _).drew.drew.drew) P (s.extract (szs (ps.take k)) (szs (ps.take k) + P.sz))).mono ?_; rintro r w5 ⟨T, rfl, hT5, k5⟩; obtain ⟨kb, y5⟩ : Below wr.heap.size wr w5 ∧ w5.cell? ⟨g, o + k * 4, none⟩ = some (.int .i64 (P.sz : Nat)) := (by
              have q : Below wr.heap.size wr w5 := (by first | exact k5 | exact (Below.refl _ wr).drew.trans k5 | exact (Below.refl _ wr).drew.drew.trans k5 | exact (Below.refl _ wr).drew.drew.drew.trans k5)
              exact ⟨q, (q.cell (p := ⟨g, o + k * 4, none⟩) hgl).trans y0⟩); have hTz : T.size ≤ 100 := (by have h1 := Wa.goI_len _ hg P (s.extract (szs (ps.take k)) (szs (ps.take k) + P.sz)).data.toList; rw [← hT5, lenL, lenL, ByteArray.size_extract] at h1; omega); have HT5 := (show Hid _ from hT5); have HKB := (show Hid _ from kb); clear hT5 kb k5)
          all_goals
            go_wp2
            go_roundw
            case rel =>
              have hext : (s.extract (szs (ps.take k)) (szs (ps.take k) + P.sz)).data.toList = (s.data.toList.drop (szs (ps.take k))).take P.sz := by
                rw [ext_to, show szs (ps.take k) + P.sz - szs (ps.take k) = P.sz by omega]
              have hT := HT5.out
              rw [hext] at hT
              have bE := HB.out.trans (HKB.out.mono HB.out.size)
              refine ⟨k + 1, S ++ T, by omega, by go_num, rfl, ?_, ?_, ?_⟩
              · rw [HOU.out, ByteArray.data_append, Array.toList_append, HS.out, hT]
              · rw [HST.out]; exact congrArg (Value.int IntKind.i64) (by omega)
              · first | exact bE | exact bE.drew | exact bE.drew.drew | exact bE.drew.drew.drew
            case measure => simp [intOf]; omega
        · have hge' : (ps.length : Int) ≤ (k : Int) := by omega
          have hkk : ps.take k = ps := List.take_of_length_le (by omega)
          rw [hkk] at hS
          have HS := (show Hid _ from hS)
          clear hkk hS
          go_wp2
          go_ret
          exact ⟨_, rfl, HS.out, HB4.out.trans (hb.mono HB4.out.size)⟩
end Go.Proofs.YtlejldaennlfaayDoor.Sp

/- The walk of the law on names: it answers true. -/
import Derived.Test.YtkpngmklcnmjmabDoorLzE
import Derived.Test.YtkpngmklcnmjmabDoorDrawT
import Derived.Test.YtkpngmklcnmjmabDoorLaid
namespace Go.Proofs.YtkpngmklcnmjmabDoor.LNames
open Go.Proofs.YtkpngmklcnmjmabDoor.LzP Go.Proofs.YtkpngmklcnmjmabDoor.LzE
open Go.RowKit Go.Proofs.YtkpngmklcnmjmabDoor.Kit Go.Proofs.YtkpngmklcnmjmabDoor.Draw Go.Proofs.YtkpngmklcnmjmabDoor.Tx Go.Proofs.YtkpngmklcnmjmabDoor.Pcs Go.Proofs.YtkpngmklcnmjmabDoor.Lz Go.Proofs.YtkpngmklcnmjmabDoor.Nas
open Go.Proofs.YtkpngmklcnmjmabDoor.TxW (sok_any)
open Go.Proofs.YtkpngmklcnmjmabDoor.Read (Errs)
set_option linter.unusedSimpArgs false
set_option linter.unusedVariables false

theorem app_l (s t : ByteArray) : (s ++ t).data.toList = s.data.toList ++ t.data.toList := by simp [ByteArray.data_append]

set_option maxHeartbeats 400000 in
theorem long (a0 : Option Addr) (len0 cap0 : Nat) (w : World) (h : (1048576 : Int) < (len0 : Int)) :
    Calls Tryd.prog 6 #[.slice a0 len0 cap0] w fun e w' => e = .returned (.bool true) ∧ Below w.heap.size w w' := by
  go_enter Tryd.func6, Tryd.ntmps6
  go_wp2
  go_ret
  exact ⟨rfl, Below.refl _ _⟩

theorem ends_at (ps : List Pc) (k : Nat) (h : k < ps.length) (hn : ps[k].nm = true) : (ends ps)[(ends (ps.take k)).length]? = some (ps[k].ad, ps[k].po) := by
  have e : ps = ps.take k ++ (ps[k] :: ps.drop (k + 1)) := by
    rw [← List.drop_eq_getElem_cons h, List.take_append_drop]
  have e1 : ends ps = ends (ps.take k) ++ ends (ps[k] :: ps.drop (k + 1)) := by rw [← ends_app, ← e]
  have e2 : ∀ (p : Pc) (l : List Pc), p.nm = true → ends (p :: l) = (p.ad, p.po) :: ends l := fun p l h => by simp [ends, h]
  rw [e1, e2 _ _ hn, List.getElem?_append_right (Nat.le_refl _), Nat.sub_self]; rfl

set_option maxRecDepth 8000 in
set_option maxHeartbeats 8000000 in
theorem short (a0 : Option Addr) (len0 cap0 : Nat) (z : Nat → Int) (w : World) (hc : CodeIn w a0 len0 cap0 z) (h : (len0 : Int) ≤ 1048576) (herr : Errs w) :
    Calls Tryd.prog 6 #[.slice a0 len0 cap0] w fun e w' => e = .returned (.bool true) ∧ Below w.heap.size w w' := by
  go_enter Tryd.func6, Tryd.ntmps6
  go_wp2_with fail
  refine (drawTextNames a0 len0 cap0 z _ hc).mono ?_
  rintro e w1 ⟨s, rfl, hs, k1⟩
  have hmx : s.size ≤ maxLen := by unfold maxLen; omega
  obtain ⟨ps, hps⟩ : ∃ ps, pieL s.data.toList = ps := ⟨_, rfl⟩
  have hpl : ps.length ≤ 40 := by rw [← hps]; exact len_pie0 _
  obtain ⟨es, hes⟩ : ∃ es, ends ps = es := ⟨_, rfl⟩
  have hel : es.length ≤ 40 := by rw [← hes]; exact Nat.le_trans (ends_le ps) hpl
  have hps2 : ends (pieL s.data.toList) = es := by rw [hps]; exact hes
  go_wp2_with fail
  refine (names_is _ _ hps2 _ (herr.below k1)).mono ?_
  rintro e w2 ⟨v2, rfl, hv2, k2⟩
  have b2 := k1.trans (k2.mono k1.size)
  clear k1 k2
  go_wp2_with fail
  refine (snames_is _ _ hps2 (by omega) _).mono ?_
  rintro e w3 ⟨v3, rfl, hv3, k3⟩
  have hv2' := hv2.below k3
  have b3 := b2.trans (k3.mono b2.size)
  clear b2 k3 hv2
  obtain ⟨a3, c3, rfl⟩ := isE_slice hv3
  obtain ⟨a2, c2, ea2⟩ := isE_slice hv2'
  have hv2s := hv2'
  rw [ea2] at hv2s
  subst ea2
  clear hv3 hv2'
  cases hok : okB s.data.toList
  · go_wp2_with fail
    refine (sok_any s hmx _).mono ?_
    rintro e w5 ⟨rfl, rfl⟩
    rw [hok]
    go_wp2
    go_ret
    exact ⟨by first | rfl | simp, b3⟩
  · go_wp2_with fail
    refine (sok_any s hmx _).mono ?_
    rintro e w5 ⟨rfl, rfl⟩
    rw [hok]
    go_wp2_with fail
    refine (pieces_is _ _ hps _ (herr.below b3)).mono ?_
    rintro e w6 ⟨v6, rfl, hv6, k6⟩
    have hl6 := hv2s.below k6
    have b6 := b3.trans (k6.mono b3.size)
    clear hv2s b3 k6
    obtain ⟨a6, c6, ea6⟩ := isP_slice hv6
    have hv6s := hv6
    rw [ea6] at hv6s
    subst ea6
    clear hv6
    have hmore : s.size + 5 ≤ 40 → ends (pieL (s ++ ⟨#[64, 50, 58, 51, 59]⟩).data.toList) = es ++ [(2, 3)] := by
      intro hl
      have e0 : nmL (2, 3) = [64, 50, 58, 51, 59] := rfl
      have := (ends_more s.data.toList (2, 3) hok (by decide) (by rw [lenL, e0]; exact hl)).2.2
      rw [app_l, ← hps2]
      rw [e0] at this; exact this
    clear hps2 hps
    go_wp2
    go_loopw [6, 8] (fun kk i wr => ∃ k : Nat, k ≤ ps.length ∧ i = .int .i64 k ∧ kk = .int .i64 ((ends (ps.take k)).length : Nat) ∧ Below w6.heap.size w6 wr) (fun kk i wr => ps.length - (intOf i).toNat)
    case atStart => exact ⟨0, Nat.zero_le _, rfl, rfl, Below.refl _ _⟩
    case round =>
      obtain ⟨k, hk, rfl, rfl, hb⟩ := hrel
      by_cases hlt : k < ps.length
      · have hlt' : (k : Int) < (ps.length : Int) := by omega
        rcases hv6s with ⟨e6, h0⟩ | ⟨g6, o6, c6', e6, _, _, hat⟩
        · rw [h0] at hlt; exact absurd hlt (by simp)
        · obtain ⟨rfl, _, rfl⟩ : a6 = some ⟨g6, o6, none⟩ ∧ True ∧ c6 = c6' := by simp at e6; exact ⟨e6.1, trivial, e6.2⟩
          obtain ⟨x0, x1, x2, x3⟩ := (hat k _ (List.getElem?_eq_getElem hlt)).below hb
          have htk := take_one ps k hlt
          have hea := ends_at ps k hlt
          rw [hes] at hea
          have hel2 := ends_le (ps.take k)
          have hel3 : (ps.take k).length ≤ 40 := by rw [List.length_take]; omega
          generalize ps[k] = P at x0 x1 x2 x3 htk hea
          obtain ⟨sz, nm, ad, po⟩ := P
          simp only at x0 x1 x2 x3 hea
          have HT : Hid (ps.take (k + 1) = ps.take k ++ [⟨sz, nm, ad, po⟩]) := htk
          clear hat htk e6 hmore
          cases nm
          · clear hea
            go_wp2
            go_roundw
            case rel => exact ⟨k + 1, by omega, by go_num, by rw [HT.out, ends_no _ _ rfl], hb⟩
            case measure => simp [intOf]; omega
          · have hq := hea rfl
            have hkl : (ends (ps.take k)).length < es.length := by
              rcases Nat.lt_or_ge (ends (ps.take k)).length es.length with q | q
              · exact q
              · rw [List.getElem?_eq_none q] at hq; cases hq
            have hkl' : ((ends (ps.take k)).length : Int) < (es.length : Int) := by omega
            rcases hl6 with ⟨e2, h0⟩ | ⟨g2, c2', e2, _, _, hat2⟩
            · rw [h0] at hkl; exact absurd hkl (by simp)
            · obtain ⟨rfl, rfl⟩ : a2 = some ⟨g2, 0, none⟩ ∧ c2 = c2' := by simp at e2; exact e2
              obtain ⟨y0, y1⟩ := (hat2 _ _ hq).below hb
              simp only at y0 y1
              have HL : Hid ((ends (ps.take (k + 1))).length = (ends (ps.take k)).length + 1) := by
                show (ends (ps.take (k + 1))).length = _
                rw [HT.out, ends_yes _ _ rfl, List.length_append]; rfl
              clear hat2 e2 hq hea
              generalize (ends (ps.take k)).length = m at *
              go_wp2_with fail
              go_quiet (fail)
              go_wp2
              go_roundw
              case rel => exact ⟨k + 1, by omega, by go_num, by rw [HL.out]; go_num, hb.trans (Text.below_drewN _ _ _)⟩
              case measure => simp [intOf]; omega
      · have hge : (ps.length : Int) ≤ (k : Int) := by omega
        have e : ps.take k = ps := List.take_of_length_le (by omega)
        rw [e, hes]
        have b7 := b6.trans (hb.mono b6.size)
        by_cases h40 : (40 : Int) < (s.size : Int) + 5
        · go_wp2
          go_ret
          exact ⟨by first | rfl | simp, b7⟩
        · have h40' : (s.size : Int) + 5 ≤ 40 := by omega
          have hm := hmore (by omega)
          clear hmore
          go_wp2_with fail
          refine (names_is _ _ hm _ (herr.below b7)).mono ?_
          rintro e w8 ⟨v8, rfl, hv8, k8⟩
          have b8 := b7.trans (k8.mono b7.size)
          rcases hv8 with ⟨_, h0⟩ | ⟨g8, c8, rfl, _, _, hat8⟩
          · simp at h0
          · obtain ⟨y0, y1⟩ := hat8 es.length (2, 3) (by simp)
            simp only at y0 y1
            have hl8 : (es ++ [((2 : Int), (3 : Int))]).length = es.length + 1 := by simp
            rw [hl8]
            clear hat8 hl8
            go_wp2
            go_ret
            exact ⟨by first | rfl | simp, b8⟩
end Go.Proofs.YtkpngmklcnmjmabDoor.LNames

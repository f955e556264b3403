/- Plain facts: a text that goes out in two. -/
import Derived.Test.YtlejldaennlfaadGreatDoorMpZ
namespace Go.Proofs.YtlejldaennlfaadGreatDoor.Mp
open Go.RowKit
open Go.Proofs.YtlejldaennlfaadGreatDoor.Tx Go.Proofs.YtlejldaennlfaadGreatDoor.It Go.Proofs.YtlejldaennlfaadGreatDoor.Nm
open Go.Proofs.YtlejldaennlfaadGreatDoor.EndW (sideZ)
set_option linter.unusedVariables false

theorem pc1_congr (l m : List UInt8) (h : nameO l = nameO m) : pc1 l = pc1 m := by unfold pc1; rw [h]
/-- pieces, split at a place between two -/
theorem pcs_split (k : Nat) (l : List UInt8) (hk : k ≤ (pcs l).length) : ∃ a b, l = a ++ b ∧ a.length = szs ((pcs l).take k) ∧ pcs a = (pcs l).take k ∧ pcs b = (pcs l).drop k := by
  induction k generalizing l with
  | zero => exact ⟨[], l, rfl, rfl, pcs_nil, rfl⟩
  | succ k ih =>
    by_cases h : l = []
    · subst h; rw [pcs_nil] at hk; simp at hk
    · have hc := pcs_cons l h
      rw [hc, List.length_cons] at hk
      have hz := It.pc1_sz l h
      obtain ⟨a, b, e1, e2, e3, e4⟩ := ih (l.drop (pc1 l).sz) (by omega)
      have el : l = l.take (pc1 l).sz ++ a ++ b := by rw [List.append_assoc, ← e1, List.take_append_drop]
      refine ⟨l.take (pc1 l).sz ++ a, b, el, ?_, ?_, ?_⟩
      · rw [hc, List.take_succ_cons, List.length_append, e2, List.length_take]
        show min (pc1 l).sz l.length + _ = (pc1 l).sz + szs _
        omega
      · rw [hc, List.take_succ_cons, ← e3]
        have hne : l.take (pc1 l).sz ++ a ≠ [] := by
          intro h0
          have := congrArg List.length h0
          rw [List.length_append, List.length_take, List.length_nil] at this; omega
        have hname : nameO (l.take (pc1 l).sz ++ a) = nameO l := by
          refine nameO_congr _ _ fun e => ⟨fun g => ⟨g.1, g.2.trans ?_⟩, fun g => ⟨g.1, ?_⟩⟩
          · exact ⟨b, el.symm⟩
          · have hp : pc1 l = ⟨(nmL e).length, true, e.1, e.2⟩ := by unfold pc1; rw [(nameO_some l e).2 g]
            rw [hp]
            show nmL e <+: l.take (nmL e).length ++ a
            rw [← List.prefix_iff_eq_take.1 g.2]; exact List.prefix_append _ _
        have hp1 : pc1 (l.take (pc1 l).sz ++ a) = pc1 l := pc1_congr _ _ hname
        rw [pcs_cons _ hne, hp1]
        rw [List.drop_append_of_le_length (by rw [List.length_take]; omega), List.drop_of_length_le (by rw [List.length_take]; omega), List.nil_append]
      · rw [hc, List.drop_succ_cons]; exact e4


theorem held_from (a b : List UInt8) (h : heldN a = 0) : heldN (a ++ b) = heldN b := by rw [heldN_app, h]; rfl
theorem outP_first (es : List (Int × Int)) (ps qs : List Pc) (l : List UInt8) (h : ps <+: qs) : (outP es ps l).2 <+: (outP es qs l).2 := by
  obtain ⟨t, rfl⟩ := h
  rw [outP_app]
  exact List.prefix_append _ _
/-- cut at a piece, where nothing is held: one behind the other -/
theorem step_cut (m : List (Int × Int × Int)) (l : List UInt8) (hok : okM m = true) (hs : okB l = true) (j : Nat) (hj : j ≤ (pieL l).length) :
    szs ((pieL l).take j) ≤ l.length ∧
    (heldN (l.take (szs ((pieL l).take j))) = 0 → tOut (tOut m (l.take (szs ((pieL l).take j)))).1 (l.drop (szs ((pieL l).take j))) = ((tOut m l).1, (tOut (tOut m (l.take (szs ((pieL l).take j)))).1 (l.drop (szs ((pieL l).take j)))).2) ∧ (tOut m (l.take (szs ((pieL l).take j)))).2 ++ (tOut (tOut m (l.take (szs ((pieL l).take j)))).1 (l.drop (szs ((pieL l).take j)))).2 = (tOut m l).2) ∧
    (tOut m (l.take (szs ((pieL l).take j)))).2 <+: (tOut m l).2 := by
  have hg := (okM_out m hok).1
  rw [pie_ok _ hs] at hj ⊢
  obtain ⟨a, b, hab, hla, hpa, hpb⟩ := pcs_split j (bd l) hj
  rw [← hla]
  have hl : l = a ++ (b ++ hp l) := by rw [← List.append_assoc, ← hab, bd_hp]
  have hta : l.take a.length = a := by rw [hl]; simp
  have htd : l.drop a.length = b ++ hp l := by conv => lhs; rw [hl]; simp
  have hal : a.length ≤ l.length := by rw [hl]; simp
  rw [hta, htd]
  have hoa : okB a = true := by rw [← hta]; exact ok_take l _ hs
  have hob : okB (b ++ hp l) = true := by rw [← htd]; exact ok_drop l _ hs
  have hT : tOut m l = (prs (outP (m.map Prod.snd) (pcs (bd l)) (bd l)).1, (outP (m.map Prod.snd) (pcs (bd l)) (bd l)).2) := by
    unfold tOut; rw [if_pos ⟨hok, hs⟩, pie_ok _ hs, outP_bd]
  have hpp : pcs (bd l) = pcs a ++ pcs b := by rw [hpa, hpb, List.take_append_drop]
  have hA : tOut m a = (prs (outP (m.map Prod.snd) (pcs (bd a)) (bd a)).1, (outP (m.map Prod.snd) (pcs (bd a)) (bd a)).2) := by
    unfold tOut; rw [if_pos ⟨hok, hoa⟩, pie_ok _ hoa, outP_bd]
  refine ⟨hal, fun h0 => ?_, ?_⟩
  · have hba : bd a = a := by unfold bd; rw [h0, Nat.sub_zero, List.take_length]
    have hhb : heldN (b ++ hp l) = heldN l := by
      have := held_from a (b ++ hp l) h0
      rw [← hl] at this; exact this.symm
    have hbb : bd (b ++ hp l) = b := by
      unfold bd
      rw [hhb, List.length_append, hp_len, Nat.add_sub_cancel, List.take_left' rfl]
    rw [hba] at hA
    have hg2 : GoodE (outP (m.map Prod.snd) (pcs a) a).1 := outP_good _ _ _ hg
    have hok2 : okM (prs (outP (m.map Prod.snd) (pcs a) a).1) = true := okM_prs _ hg2
    have hB : tOut (tOut m a).1 (b ++ hp l) = (prs (outP (outP (m.map Prod.snd) (pcs a) a).1 (pcs b) b).1, (outP (outP (m.map Prod.snd) (pcs a) a).1 (pcs b) b).2) := by
      rw [hA]
      unfold tOut
      rw [if_pos ⟨hok2, hob⟩, pie_ok _ hob, outP_bd, hbb]
      simp only
      rw [prs_snd]
    have hall : outP (m.map Prod.snd) (pcs (bd l)) (bd l) = ((outP (outP (m.map Prod.snd) (pcs a) a).1 (pcs b) b).1, (outP (m.map Prod.snd) (pcs a) a).2 ++ (outP (outP (m.map Prod.snd) (pcs a) a).1 (pcs b) b).2) := by
      rw [hpp, hab, outP_app, outP_text _ (pcs a) a b (by rw [szs_pcs]; exact Nat.le_refl _), szs_pcs, List.drop_left' rfl]
    rw [hB, hT, hall, hA]
    exact ⟨rfl, rfl⟩
  · rw [hA, hT]
    simp only
    have hpre : pcs (bd a) <+: pcs (bd l) := by
      rw [hpp]
      refine List.IsPrefix.trans ?_ (List.prefix_append _ _)
      conv => rhs; rw [← bd_hp a]
      rw [pcs_app _ _ (nc_hp _ _)]
      exact List.prefix_append _ _
    have h1 := outP_first (m.map Prod.snd) _ _ (bd l) hpre
    have hbl : bd l = bd a ++ (hp a ++ b) := by rw [← List.append_assoc, bd_hp, ← hab]
    have h2 : outP (m.map Prod.snd) (pcs (bd a)) (bd l) = outP (m.map Prod.snd) (pcs (bd a)) (bd a) := by
      rw [hbl]
      exact outP_text _ _ _ _ (by rw [szs_pcs]; exact Nat.le_refl _)
    rw [h2] at h1
    exact h1
end Go.Proofs.YtlejldaennlfaadGreatDoor.Mp

/- Pieces: plain facts, and the contracts as the laws' walks use them. -/
import Derived.Test.YtfmjhbdbgcgoiaaGreatDoorLz
import Derived.Test.YtfmjhbdbgcgoiaaGreatDoorTxP
namespace Go.Proofs.YtfmjhbdbgcgoiaaGreatDoor.LzP
open Go.RowKit Go.Proofs.YtfmjhbdbgcgoiaaGreatDoor.Kit Go.Proofs.YtfmjhbdbgcgoiaaGreatDoor.Tx Go.Proofs.YtfmjhbdbgcgoiaaGreatDoor.Pcs Go.Proofs.YtfmjhbdbgcgoiaaGreatDoor.Lz
open Go.Proofs.YtfmjhbdbgcgoiaaGreatDoor.TxW (held_any sok_any ok_any)
open Go.Proofs.YtfmjhbdbgcgoiaaGreatDoor.Read (Errs)

theorem pcs_pos (l : List UInt8) : ∀ p ∈ pcs l, 1 ≤ p.sz := by
  by_cases ha : l = []
  · subst ha; rw [pcs_nil]; simp
  · cases q : nameO l with
    | none =>
      rw [pcs_none l ha q]
      intro p hp
      rcases List.mem_cons.1 hp with rfl | hp
      · exact Nat.le_refl _
      · exact pcs_pos (l.drop 1) p hp
    | some e =>
      rw [pcs_some l e q]
      intro p hp
      rcases List.mem_cons.1 hp with rfl | hp
      · exact nm_pos e
      · exact pcs_pos (l.drop (nmL e).length) p hp
termination_by l.length
decreasing_by
  · have : 0 < l.length := List.length_pos_iff.2 ha
    rw [List.length_drop]; omega
  · have := nm_pos e
    have : 0 < l.length := List.length_pos_iff.2 ha
    rw [List.length_drop]; omega

theorem held_is (s : ByteArray) (n : Nat) (h : hdN s.data.toList = n) (w : World) : Calls Tryz.prog 150 #[.string s] w fun e w' => e = .returned (.int .i64 (n : Nat)) ∧ Below w.heap.size w w' := by
  subst h; exact held_any s w
theorem hp_held (l : List UInt8) : heldN (hp l) = heldN l := by
  have hl := hp_len l
  by_cases h : heldN l = 0
  · rw [hp_none l h, h]; rfl
  · have hb := hp_beg l h
    refine (beg_held (hp l) (heldN l) (by omega) (heldN_le l) (by omega)).1 ?_
    rw [hl, Nat.sub_self, List.drop_zero]; exact hb
theorem hp_ok (l : List UInt8) (h : okB l = true) : okB (hp l) = true := ok_drop _ _ h
theorem hp_pie (l : List UInt8) (h : okB l = true) : pieL (hp l) = [] := by
  rw [pie_ok _ (hp_ok l h)]
  have : bd (hp l) = [] := by
    apply List.length_eq_zero_iff.1
    rw [bd_len, hp_len, hp_held]; omega
  rw [this, pcs_nil]

theorem len_pie (l : List UInt8) (h : okB l = true) : (pieL l).length ≤ 40 ∧ szs (pieL l) = l.length - heldN l := by
  have h40 := (ok_parts _ h).1
  rw [pie_ok _ h]
  have hz := szs_pcs (bd l)
  have hb := bd_len l
  refine ⟨?_, by omega⟩
  have : ∀ ps : List Pc, (∀ p ∈ ps, 1 ≤ p.sz) → ps.length ≤ szs ps := by
    intro ps hp
    induction ps with
    | nil => exact Nat.zero_le _
    | cons p ps ih =>
      have h1 := hp p (by simp)
      have h2 := ih fun q hq => hp q (by simp [hq])
      show ps.length + 1 ≤ p.sz + szs ps
      omega
  have := this (pcs (bd l)) (pcs_pos (bd l))
  omega

theorem spieces_is (s : ByteArray) (ps : List Pc) (h : pieL s.data.toList = ps) (hs : s.size ≤ 1073741824) (w : World) : Calls Tryz.prog 57 #[.string s] w fun e w' => ∃ v, e = .returned v ∧ IsP w' v ps ∧ Below w.heap.size w w' := by
  subst h
  refine (spieces_any s hs w).mono ?_
  rintro e w' ⟨v, he, hr, hb⟩
  exact ⟨v, he, isP_of_row hr, hb⟩
theorem len_pie0 (l : List UInt8) : (pieL l).length ≤ 40 := by
  cases h : okB l
  · rw [pie_no _ h]; exact Nat.zero_le _
  · exact (len_pie _ h).1

theorem isP_slice {W : World} {v : Value} {ps : List Pc} (h : IsP W v ps) : ∃ a c, v = .slice a ps.length c := by
  rcases h with ⟨rfl, rfl⟩ | ⟨g, o, c, rfl, _⟩
  · exact ⟨none, 0, rfl⟩
  · exact ⟨_, _, rfl⟩
theorem isP_pre {W : World} {g o c : Nat} {ps qs : List Pc} (hc : ps.length ≤ c) (hm : c ≤ maxLen) (h : ∀ (i : Nat) (p : Pc), ps[i]? = some p → At4 W g (o + i * 4) p) (k : qs <+: ps) : IsP W (.slice (some ⟨g, o, none⟩) qs.length c) qs := by
  refine .inr ⟨g, o, c, rfl, Nat.le_trans k.length_le hc, hm, fun i p hp => h i p ?_⟩
  obtain ⟨t, rfl⟩ := k
  have hi : i < qs.length := by
    rcases Nat.lt_or_ge i qs.length with q | q
    · exact q
    · rw [List.getElem?_eq_none q] at hp; cases hp
  rw [List.getElem?_append_left hi]; exact hp
theorem isP_suf {W : World} {g o c : Nat} {ps qs rs : List Pc} (hc : ps.length ≤ c) (hm : c ≤ maxLen) (h : ∀ (i : Nat) (p : Pc), ps[i]? = some p → At4 W g (o + i * 4) p) (k : ps = qs ++ rs) : IsP W (.slice (some ⟨g, o + qs.length * 4, none⟩) rs.length (c - qs.length)) rs := by
  subst k
  rw [List.length_append] at hc
  refine .inr ⟨g, o + qs.length * 4, c - qs.length, rfl, by omega, by omega, fun i p hp => ?_⟩
  have := h (qs.length + i) p (by rw [List.getElem?_append_right (by omega)]; simpa using hp)
  rw [show o + qs.length * 4 + i * 4 = o + (qs.length + i) * 4 by omega]
  exact this
end Go.Proofs.YtfmjhbdbgcgoiaaGreatDoor.LzP

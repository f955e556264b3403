/- Plain facts on texts that come in. -/
import Derived.Test.YtlejldaennlfaaeGreatDoorMpZ
namespace Go.Proofs.YtlejldaennlfaaeGreatDoor.Mp
open Go.RowKit
open Go.Proofs.YtlejldaennlfaaeGreatDoor.Tx
open Go.Proofs.YtlejldaennlfaaeGreatDoor.EndW (sideZ)
set_option linter.unusedVariables false

theorem in_names (m : List (Int × Int × Int)) (l : List UInt8) (hok : okM m = true) (hs : okB l = true) : nms (pcs (tIn m l)) = (nms (pcs (bd l))).map (gi (m.map Prod.snd)) := by
  rw [tin_form m l hok hs]
  exact nms_mapN _ (gi_any _ (okM_out m hok).1) _
theorem gi_len (es : List (Int × Int)) (hg : GoodE es) (e : Int × Int) (h : sideZ e.1 e.2 ≠ 0) : (nmL (gi es e)).length ≤ (nmL e).length := by
  unfold gi
  split
  · next q =>
    have hi := inE_in es hg e.2 q.2
    have hb := inB_bd _ hi
    have h1 := nm_len (inE es e.2).1 (by have := in_side _ hi; omega)
    have h2 := nm_len e h
    have h3 := side3 e q.1
    rw [if_pos (by omega)] at h1
    rw [if_neg (by omega)] at h2
    omega
  · exact Nat.le_refl _
theorem in_ok (m : List (Int × Int × Int)) (l : List UInt8) (hok : okM m = true) (hs : okB l = true) : okB (tIn m l) = true ∧ (tIn m l).length ≤ l.length := by
  have hg := (okM_out m hok).1
  have hlen : (tIn m l).length ≤ (bd l).length := by
    rw [tin_form m l hok hs]
    have hl := mapN_len (gi (m.map Prod.snd)) (bd l)
    have key : ∀ ns : List (Int × Int), (∀ e ∈ ns, sideZ e.1 e.2 ≠ 0) → (ns.map fun e => (nmL (gi (m.map Prod.snd) e)).length).sum ≤ (ns.map fun e => (nmL e).length).sum := by
      intro ns
      induction ns with
      | nil => intro _; exact Nat.le_refl _
      | cons e ns ih =>
        intro h
        have h1 := gi_len _ hg e (h e (List.mem_cons_self ..))
        have h2 := ih fun f hf => h f (List.mem_cons_of_mem _ hf)
        simp only [List.map_cons, List.sum_cons]
        omega
    have := key _ (nms_any (bd l))
    omega
  have hb := bd_len l
  have h40 := (ok_parts _ hs).1
  refine ⟨?_, by omega⟩
  rw [ok_iff]
  refine ⟨by omega, ?_⟩
  rw [tin_form m l hok hs]
  exact mapN_bytes _ (gi_any _ hg) _ fun c hc => (ok_parts _ hs).2 c (List.mem_of_mem_take hc)
/-- no name is of a port that stands for anybody -/
theorem in_none (m : List (Int × Int × Int)) (l : List UInt8) (hok : okM m = true) (hs : okB l = true) : ∀ e ∈ nms (pcs (tIn m l)), (sideZ e.1 e.2 = 3 → (mIn m e.2).2 = false) ∧ 1 ≤ e.2 ∧ e.2 ≤ 17 := by
  have hg := (okM_out m hok).1
  intro e he
  have h0 := nms_any _ e he
  have hbd := Text.side_bd e.1 e.2 h0
  refine ⟨fun h3 => ?_, hbd.2.2.1, hbd.2.2.2⟩
  rw [in_names m l hok hs] at he
  obtain ⟨f, hf, rfl⟩ := List.mem_map.1 he
  unfold mIn
  rw [if_pos hok]
  by_cases q : sideZ f.1 f.2 = 3 ∧ (inE (m.map Prod.snd) f.2).2 = true
  · have e1 : gi (m.map Prod.snd) f = (inE (m.map Prod.snd) f.2).1 := if_pos q
    have hi := in_side _ (inE_in _ hg f.2 q.2)
    rw [e1, hi] at h3; cases h3
  · have e1 : gi (m.map Prod.snd) f = f := if_neg q
    rw [e1] at h3 ⊢
    cases hb : (inE (m.map Prod.snd) f.2).2
    · rfl
    · exact absurd ⟨h3, hb⟩ q
/-- all bytes that name nobody -/
def plP : List Pc → List UInt8 → List UInt8
  | [], _ => []
  | p :: ps, l => (if p.nm = true then [] else l.take p.sz) ++ plP ps (l.drop p.sz)
theorem plP_snoc (ps : List Pc) (p : Pc) (l : List UInt8) : plP (ps ++ [p]) l = plP ps l ++ (if p.nm = true then [] else (l.drop (szs ps)).take p.sz) := by
  induction ps generalizing l with
  | nil => simp [plP, szs]
  | cons q ps ih =>
    rw [List.cons_append, plP, ih, plP, List.append_assoc, Wa.szs_cons, List.drop_drop]
theorem plP_in (es : List (Int × Int)) (ps : List Pc) (l : List UInt8) : (plP ps l).length ≤ (inP es ps l).length := by
  induction ps generalizing l with
  | nil => exact Nat.le_refl _
  | cons p ps ih =>
    have h := ih (l.drop p.sz)
    rw [plP, inP, List.length_append, List.length_append]
    by_cases hn : p.nm = true
    · rw [if_pos hn, List.length_nil]; omega
    · rw [if_neg hn]
      have : goI es p (l.take p.sz) = l.take p.sz := if_neg fun q => hn q.1
      rw [this]; omega
theorem plP_le (ps : List Pc) (l : List UInt8) : (plP ps l).length ≤ l.length := by
  induction ps generalizing l with
  | nil => exact Nat.zero_le _
  | cons p ps ih =>
    have h := ih (l.drop p.sz)
    rw [plP, List.length_append]
    have h2 : (l.take p.sz).length + (l.drop p.sz).length = l.length := by rw [← List.length_append, List.take_append_drop]
    split
    · simp only [List.length_nil]; omega
    · omega
theorem nms_none (ps : List Pc) (h : nms ps = []) : ∀ p ∈ ps, p.nm = false := by
  induction ps with
  | nil => intro p hp; cases hp
  | cons q ps ih =>
    rw [nms_cons] at h
    by_cases hn : q.nm = true
    · rw [if_pos hn] at h; cases h
    · rw [if_neg hn] at h
      intro p hp
      rcases List.mem_cons.1 hp with rfl | hp
      · simpa using hn
      · exact ih h p hp
theorem plain_both (es : List (Int × Int)) (ps : List Pc) (l : List UInt8) (h : ∀ p ∈ ps, p.nm = false) : inP es ps l = plP ps l ∧ outP es ps l = (es, plP ps l) := by
  induction ps generalizing l with
  | nil => exact ⟨rfl, rfl⟩
  | cons p ps ih =>
    have hn := h p (List.mem_cons_self ..)
    have hi := ih (l.drop p.sz) fun q hq => h q (List.mem_cons_of_mem _ hq)
    have e1 : goI es p (l.take p.sz) = l.take p.sz := if_neg fun q => by rw [hn] at q; cases q.1
    have e2 : goO es p (l.take p.sz) = (es, l.take p.sz) := if_neg fun q => by rw [hn] at q; cases q.1
    rw [inP, outP, e1, e2, hi.1, hi.2, plP, hn]
    exact ⟨rfl, rfl⟩
theorem tplain (m : List (Int × Int × Int)) (l : List UInt8) (hok : okM m = true) (hs : okB l = true) : (plP (pieL l) l).length ≤ (tIn m l).length ∧ (nms (pieL l) = [] → tIn m l = plP (pieL l) l ∧ tOut m l = (m, plP (pieL l) l)) := by
  have h1 : tIn m l = inP (m.map Prod.snd) (pieL l) l := by unfold tIn; rw [if_pos ⟨hok, hs⟩]
  have h2 : tOut m l = (prs (outP (m.map Prod.snd) (pieL l) l).1, (outP (m.map Prod.snd) (pieL l) l).2) := by unfold tOut; rw [if_pos ⟨hok, hs⟩]
  refine ⟨by rw [h1]; exact plP_in _ _ _, fun hn => ?_⟩
  have hb := plain_both (m.map Prod.snd) (pieL l) l (nms_none _ hn)
  rw [h1, h2, hb.1, hb.2]
  refine ⟨rfl, ?_⟩
  simp only
  rw [← (okM_out m hok).2]
theorem inE_more (es es' : List (Int × Int)) (h : es <+: es') (p : Int) (hb : (inE es p).2 = true) : inE es' p = inE es p := by
  obtain ⟨t, rfl⟩ := h
  unfold inE at *
  split
  · next hp =>
    rw [if_pos hp] at hb
    cases q : es[(p - 10).toNat]? with
    | none => rw [q] at hb; cases hb
    | some e =>
      have hlt := (List.getElem?_eq_some_iff.1 q).1
      rw [List.getElem?_append_left hlt, q]
  · rfl
/-- who comes later does not change who is meant -/
theorem in_more (m : List (Int × Int × Int)) (l : List UInt8) (e : Int × Int) (hok : okM m = true) (hs : okB l = true) (he : inB e = true) (hall : ∀ f ∈ nms (pcs (bd l)), sideZ f.1 f.2 = 3 → (mIn m f.2).2 = true) : tIn (mOut m e).1 l = tIn m l := by
  have hg := (okM_out m hok).1
  have hg2 := outE_good (m.map Prod.snd) e hg he
  have h1 : (mOut m e).1 = prs (outE (m.map Prod.snd) e).1 := by unfold mOut; rw [if_pos ⟨hok, he⟩]
  rw [h1, tin_form _ _ (okM_prs _ hg2) hs, tin_form m l hok hs, prs_snd]
  refine mapN_congr _ _ _ fun f hf => ?_
  have hpre : m.map Prod.snd <+: (outE (m.map Prod.snd) e).1 := by
    unfold outE
    split
    · exact List.prefix_refl _
    · split
      · exact List.prefix_append _ _
      · exact List.prefix_refl _
  by_cases h3 : sideZ f.1 f.2 = 3
  · have hb := hall f hf h3
    unfold mIn at hb
    rw [if_pos hok] at hb
    have hi := inE_more _ _ hpre f.2 hb
    unfold gi
    rw [hi]
  · unfold gi
    rw [if_neg (fun q => h3 q.1), if_neg (fun q => h3 q.1)]
end Go.Proofs.YtlejldaennlfaaeGreatDoor.Mp

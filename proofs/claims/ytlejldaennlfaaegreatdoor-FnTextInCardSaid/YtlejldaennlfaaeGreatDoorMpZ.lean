/- Plain facts on texts that go out and come in, with a letter behind them. -/
import Derived.Test.YtlejldaennlfaaeGreatDoorMpY
import Derived.Test.YtlejldaennlfaaeGreatDoorTxP
import Derived.Test.YtlejldaennlfaaeGreatDoorLzE
namespace Go.Proofs.YtlejldaennlfaaeGreatDoor.Mp
open Go.RowKit
open Go.Proofs.YtlejldaennlfaaeGreatDoor.Tx
open Go.Proofs.YtlejldaennlfaaeGreatDoor.EndW (sideZ)
set_option linter.unusedVariables false

theorem nm_no122 (e : Int × Int) (h : sideZ e.1 e.2 ≠ 0) : (122 : UInt8) ∉ nmL e := by
  rcases nm_shape e h with ⟨a, b, e1, _, h1, h2, h3, h4, _⟩ | ⟨a, b, c, e1, _, h1, h2, h3, h4, h5, h6, _⟩
  · rw [e1]
    simp only [List.mem_cons, List.not_mem_nil, or_false, not_or]
    refine ⟨by decide, ?_, by decide, ?_, by decide⟩
    · rintro rfl; simp at h2
    · rintro rfl; simp at h4
  · rw [e1]
    simp only [List.mem_cons, List.not_mem_nil, or_false, not_or]
    refine ⟨by decide, ?_, by decide, ?_, ?_, by decide⟩
    · rintro rfl; simp at h2
    · rintro rfl; simp at h4
    · rintro rfl; simp at h6
theorem nc_z (a : List UInt8) : Nc a [122] := by
  intro e he c d hc hd q _ hp
  have h1 : d = [122] := by
    rcases d with _ | ⟨x, d⟩
    · exact absurd rfl hd
    · rw [List.cons_prefix_cons] at hp
      rw [hp.1, List.prefix_nil.1 hp.2]
  subst h1
  exact nm_no122 e he (by rw [← q]; simp)
theorem held_z (l : List UInt8) : heldN (l ++ [122]) = 0 := by
  rw [heldN_snoc]
  have h := stepN_le (heldN l) 122
  have h1 := (step1 (heldN l) 122).1
  have h2 := (step2 (heldN l) 122).1
  have h3 := (step3 (heldN l) 122).1
  have h4 := (step4 (heldN l) 122).1
  have h5 := (step5 (heldN l) 122).1
  have e : (122 : UInt8).toNat = 122 := rfl
  rw [e] at h1 h2 h3 h4 h5
  omega
theorem bd_z (l : List UInt8) : bd (l ++ [122]) = l ++ [122] := by
  unfold bd; rw [held_z, Nat.sub_zero, List.take_length]
theorem name_z : nameO [122] = none := (nameO_none _).2 fun e he => by
  have h1 := he.2
  have h2 : (64 : UInt8) ∈ nmL e := by unfold nmL; simp
  have := h1.subset h2
  simp at this
theorem pcs_z (l : List UInt8) : pcs (l ++ [122]) = pcs l ++ [⟨1, false, 0, 0⟩] := by
  rw [pcs_app _ _ (nc_z l), pcs_by 122 [] name_z, pcs_nil]
theorem nms_z (l : List UInt8) : nms (pcs (l ++ [122])) = nms (pcs l) := by
  rw [pcs_z, nms_app]; simp [nms]
theorem mapN_z (f : Int × Int → Int × Int) (l : List UInt8) : mapN f (l ++ [122]) = mapN f l ++ [122] := by
  rw [mapN_app f _ _ (nc_z l), mapN_by f 122 [] name_z, mapN_nil]
theorem ok_z (l : List UInt8) (h : ∀ c ∈ l, byteB c = true) (hl : l.length < 40) : okB (l ++ [122]) = true := by
  rw [ok_iff]
  refine ⟨by simp; omega, fun c hc => ?_⟩
  rcases List.mem_append.1 hc with hc | hc
  · exact h c hc
  · simp at hc; subst hc; decide

/-- what went out, its names -/
theorem out_names (m : List (Int × Int × Int)) (l : List UInt8) (hok : okM m = true) (hs : okB l = true) : nms (pcs (tOut m l).2) = (nms (pcs (bd l))).map (fi (esB m l)) := by
  rw [tout_form m l hok hs]
  exact nms_mapN _ (fi_any _ (esB_good m l hok).len) _
theorem out_bytes (m : List (Int × Int × Int)) (l : List UInt8) (hok : okM m = true) (hs : okB l = true) : ∀ c ∈ (tOut m l).2, byteB c = true := by
  rw [tout_form m l hok hs]
  refine mapN_bytes _ (fi_any _ (esB_good m l hok).len) _ fun c hc => (ok_parts _ hs).2 c ?_
  exact List.mem_of_mem_take hc
theorem out_es (m : List (Int × Int × Int)) (l : List UInt8) (hok : okM m = true) (hs : okB l = true) : (tOut m l).1 = prs (esB m l) := by rw [tout_form m l hok hs]
/-- with ports enough no name is of an end inside -/
theorem fi_out (m : List (Int × Int × Int)) (l : List UInt8) (hok : okM m = true) (h7 : (esB m l).length ≤ 7) (e : Int × Int) (he : e ∈ nms (pcs (bd l))) : inB (fi (esB m l) e) = false := by
  by_cases hi : inB e = true
  · have hin : e ∈ esB m l := by
      rcases esB_all m l hok e he hi with h | h
      · exact h
      · omega
    have h3 := (fi_door _ (esB_good m l hok).len e hi hin).2
    simp [inB, h3]
  · rw [fi_no _ _ (fun q => hi q.1)]; simpa using hi
theorem hides (m : List (Int × Int × Int)) (l : List UInt8) (hok : okM m = true) (hs : okB l = true) (h7 : (tOut m l).1.length ≤ 7) : ∀ e ∈ nms (pcs (tOut m l).2), inB e = false := by
  rw [out_es m l hok hs, prs_len] at h7
  rw [out_names m l hok hs]
  intro e he
  obtain ⟨f, hf, rfl⟩ := List.mem_map.1 he
  exact fi_out m l hok h7 f hf
/-- once more, with a letter behind it, it stays -/
theorem out_twice (m : List (Int × Int × Int)) (l : List UInt8) (hok : okM m = true) (hs : okB l = true) (h7 : (tOut m l).1.length ≤ 7) (h40 : (tOut m l).2.length < 40) :
    tOut (tOut m l).1 ((tOut m l).2 ++ [122]) = ((tOut m l).1, (tOut m l).2 ++ [122]) := by
  have hh := hides m l hok hs h7
  have hoz := ok_z _ (out_bytes m l hok hs) h40
  have hok2 := (tout_pre m l hok hs).2.2
  have hg := esB_good m l hok
  generalize (tOut m l).2 = t at hh hoz
  rw [out_es m l hok hs] at hok2 ⊢
  have hes : esB (prs (esB m l)) (t ++ [122]) = esB m l := by
    unfold esB
    rw [bd_z, prs_snd]
    refine outP_same _ _ hg fun e he hi => ?_
    rw [nms_z] at he
    rw [hh e he] at hi; cases hi
  rw [tout_form _ _ hok2 hoz, hes, bd_z, mapN_z]
  congr 2
  refine mapN_id _ _ fun e he => fi_no _ _ fun q => ?_
  rw [hh e he] at q; cases q.1
/-- there and back -/
theorem out_back (m : List (Int × Int × Int)) (l : List UInt8) (hok : okM m = true) (hs : okB l = true) (hown : ∀ e ∈ nms (pcs (bd l)), sideZ e.1 e.2 ≠ 3) (h7 : (tOut m l).1.length ≤ 7) (h40 : (tOut m l).2.length < 40) :
    tIn (tOut m l).1 ((tOut m l).2 ++ [122]) = bd l ++ [122] := by
  have hoz := ok_z _ (out_bytes m l hok hs) h40
  have hok2 := (tout_pre m l hok hs).2.2
  rw [tin_form _ _ hok2 hoz, bd_z, mapN_z]
  rw [out_es m l hok hs, prs_len] at h7
  rw [out_es m l hok hs, prs_snd, tout_form m l hok hs]
  simp only
  rw [there m l hok hs hown h7]
/-- how long -/
theorem out_long (m : List (Int × Int × Int)) (l : List UInt8) (hok : okM m = true) (hs : okB l = true) (h7 : (tOut m l).1.length ≤ 7) : (tOut m l).2.length = (bd l).length + (nms (pcs (bd l))).countP inB := by
  rw [out_es m l hok hs, prs_len] at h7
  rw [tout_form m l hok hs]
  simp only
  have hl := mapN_len (fi (esB m l)) (bd l)
  have key : ∀ ns : List (Int × Int), (∀ e ∈ ns, e ∈ nms (pcs (bd l))) → (ns.map fun e => (nmL (fi (esB m l) e)).length).sum = (ns.map fun e => (nmL e).length).sum + ns.countP inB := by
    intro ns
    induction ns with
    | nil => intro _; rfl
    | cons e ns ih =>
      intro h
      have he := h e (List.mem_cons_self ..)
      have hi := ih fun f hf => h f (List.mem_cons_of_mem _ hf)
      have h0 := nms_any _ e he
      simp only [List.map_cons, List.sum_cons, List.countP_cons]
      by_cases hb : inB e = true
      · have hin : e ∈ esB m l := by
          rcases esB_all m l hok e he hb with h | h
          · exact h
          · omega
        obtain ⟨h1, h2⟩ := fi_door _ (esB_good m l hok).len e hb hin
        have l1 := nm_len e h0
        have l2 := nm_len (fi (esB m l) e) (by rw [h2]; decide)
        have hbd := inB_bd e hb
        have hx : (fi (esB m l) e).2 = 10 + ((esB m l).idxOf e : Int) := by rw [h1]
        rw [if_pos (by omega)] at l1
        rw [if_neg (by omega)] at l2
        rw [if_pos hb]
        omega
      · rw [fi_no _ _ (fun q => hb q.1), if_neg hb]; omega
  have := key _ fun e he => he
  omega
end Go.Proofs.YtlejldaennlfaaeGreatDoor.Mp

/- Plain facts on texts that are written anew. -/
import Derived.Test.YtlejldaennlfaayDoorGp
import Derived.Test.YtlejldaennlfaayDoorIt4
import Derived.Test.YtlejldaennlfaayDoorPcs
import Derived.Test.YtlejldaennlfaayDoorSqRg
namespace Go.Proofs.YtlejldaennlfaayDoor.Wa
open Go.RowKit Go.Shelf Go.Proofs.YtlejldaennlfaayDoor.Kit Go.Proofs.YtlejldaennlfaayDoor.Mp Go.Proofs.YtlejldaennlfaayDoor.Mj Go.Proofs.YtlejldaennlfaayDoor.Mk Go.Proofs.YtlejldaennlfaayDoor.Mg Go.Proofs.YtlejldaennlfaayDoor.Tx Go.Proofs.YtlejldaennlfaayDoor.Nm Go.Proofs.YtlejldaennlfaayDoor.App Go.Proofs.YtlejldaennlfaayDoor.It Go.Proofs.YtlejldaennlfaayDoor.It4 Go.Proofs.YtlejldaennlfaayDoor.Sq Go.Proofs.YtlejldaennlfaayDoor.Gp Go.Proofs.YtlejldaennlfaayDoor.Pcs
open Go.Proofs.YtlejldaennlfaayDoor.EndW (endV sideZ)
set_option linter.unusedSimpArgs false
set_option linter.unusedVariables false

theorem ba_ext {a b : ByteArray} (h : a.data.toList = b.data.toList) : a = b := by
  cases a; cases b; simp only at h; congr; exact Array.toList_inj.1 h

/-- pieces of a text lie in it -/
theorem pie_in (s : ByteArray) (pre : List Pc) (x : Pc) (h : pre ++ [x] <+: pieL s.data.toList) : szs pre + x.sz ≤ s.size ∧ okB s.data.toList = true := by
  cases hok : okB s.data.toList
  · rw [pie_no _ hok] at h
    have := h.length_le
    simp at this
  · rw [pie_ok _ hok] at h
    obtain ⟨t, ht⟩ := h
    have hl := szs_pcs (bd s.data.toList)
    rw [← ht, bd_len, lenL] at hl
    have e : szs (pre ++ [x] ++ t) = szs pre + x.sz + szs t := by simp [szs]; omega
    rw [e] at hl
    exact ⟨by omega, rfl⟩
theorem szs_snoc (pre : List Pc) (x : Pc) : szs (pre ++ [x]) = szs pre + x.sz := by simp [szs]

theorem nmL_six (e : Int × Int) (h : sideZ e.1 e.2 ≠ 0) : (nmL e).length ≤ 6 := by
  rw [nm_len e h]; split <;> omega
theorem goO_len (es : List (Int × Int)) (hg : GoodE es) (p : Pc) (l : List UInt8) : (goO es p l).2.length ≤ 6 + l.length := by
  unfold goO
  split
  · next h =>
    have hp := outE_port es _ hg h.2.2
    have := nmL_six (9, (outE es (p.ad, p.po)).2.1) (by simp only; unfold sideZ; simp; omega)
    simp only; omega
  · simp only; omega
theorem outP_len (es : List (Int × Int)) (hg : GoodE es) (ps : List Pc) (l : List UInt8) : (outP es ps l).2.length ≤ 6 * ps.length + l.length := by
  induction ps generalizing es l with
  | nil => simp [outP]
  | cons p ps ih =>
    have h1 := goO_len es hg p (l.take p.sz)
    have h2 := ih (goO es p (l.take p.sz)).1 (goO_good es p _ hg) (l.drop p.sz)
    have h3 : (l.take p.sz).length + (l.drop p.sz).length = l.length := by rw [← List.length_append, List.take_append_drop]
    rw [outP, List.length_append, List.length_cons]
    omega
theorem goI_len (es : List (Int × Int)) (hg : GoodE es) (p : Pc) (l : List UInt8) : (goI es p l).length ≤ 6 + l.length := by
  unfold goI
  split
  · next h =>
    have hz : sideZ (inE es p.po).1.1 (inE es p.po).1.2 ≠ 0 := by
      rcases inE_cases es p.po with ⟨i, e, _, he, hq⟩ | ⟨_, hq⟩
      · rw [hq]
        have := hg.ins e (List.mem_of_getElem? he)
        simp only [inB, decide_eq_true_eq] at this
        simp only; omega
      · have := h.2.2; rw [hq] at this; cases this
    have := nmL_six _ hz
    omega
  · omega
theorem inP_len (es : List (Int × Int)) (hg : GoodE es) (ps : List Pc) (l : List UInt8) : (inP es ps l).length ≤ 6 * ps.length + l.length := by
  induction ps generalizing l with
  | nil => simp [inP]
  | cons p ps ih =>
    have h1 := goI_len es hg p (l.take p.sz)
    have h2 := ih (l.drop p.sz)
    have h3 : (l.take p.sz).length + (l.drop p.sz).length = l.length := by rw [← List.length_append, List.take_append_drop]
    rw [inP, List.length_append, List.length_cons]
    omega
theorem pie_sz1 (l : List UInt8) : ∀ p ∈ pieL l, 1 ≤ p.sz := by
  cases hok : okB l
  · rw [pie_no _ hok]; intro p hp; cases hp
  · rw [pie_ok _ hok]
    generalize bd l = m
    have key : ∀ (n : Nat) (m : List UInt8), m.length ≤ n → ∀ p ∈ pcs m, 1 ≤ p.sz := by
      intro n
      induction n with
      | zero =>
        intro m hm p hp
        have : m = [] := List.length_eq_zero_iff.1 (by omega)
        subst this; rw [pcs_nil] at hp; cases hp
      | succ n ih =>
        intro m hm p hp
        by_cases h0 : m = []
        · subst h0; rw [pcs_nil] at hp; cases hp
        · rw [pcs_cons m h0] at hp
          have h1 := pc1_sz m h0
          rcases List.mem_cons.1 hp with rfl | hp
          · exact h1.1
          · exact ih _ (by rw [List.length_drop]; omega) p hp
    exact key m.length m (Nat.le_refl _)
theorem len_szs (ps : List Pc) (h : ∀ p ∈ ps, 1 ≤ p.sz) : ps.length ≤ szs ps := by
  induction ps with
  | nil => exact Nat.zero_le _
  | cons p ps ih =>
    have e : szs (p :: ps) = p.sz + szs ps := by simp [szs]
    have h1 := h p (List.mem_cons_self ..)
    have h2 := ih fun q hq => h q (List.mem_cons_of_mem _ hq)
    rw [e, List.length_cons]; omega
theorem pre_len (s : ByteArray) (pre : List Pc) (x : Pc) (h : pre ++ [x] <+: pieL s.data.toList) : pre.length ≤ szs pre := by
  refine len_szs pre fun p hp => pie_sz1 s.data.toList p (h.subset (List.mem_append_left _ hp))


/-- pieces with their bytes, from a place on -/
def cutL (s : ByteArray) : Nat → List Pc → List (Pc × ByteArray)
  | _, [] => []
  | k, p :: ps => (p, s.extract k (k + p.sz)) :: cutL s (k + p.sz) ps
theorem szs_cons (p : Pc) (ps : List Pc) : szs (p :: ps) = p.sz + szs ps := by simp [szs]
theorem cutL_app (s : ByteArray) (k : Nat) (a b : List Pc) : cutL s k (a ++ b) = cutL s k a ++ cutL s (k + szs a) b := by
  induction a generalizing k with
  | nil => simp [cutL, szs]
  | cons p a ih => simp only [List.cons_append, cutL, ih, szs_cons]; rw [Nat.add_assoc]
theorem cutL_snoc (s : ByteArray) (pre : List Pc) (x : Pc) : cutL s 0 (pre ++ [x]) = cutL s 0 pre ++ [(x, s.extract (szs pre) (szs pre + x.sz))] := by
  rw [cutL_app]; simp [cutL]
theorem cutL_fst (s : ByteArray) (k : Nat) (ps : List Pc) : (cutL s k ps).map Prod.fst = ps := by
  induction ps generalizing k with
  | nil => rfl
  | cons p ps ih => rw [cutL, List.map_cons, ih]
theorem cutL_pre (s : ByteArray) (k : Nat) {a b : List Pc} (h : a <+: b) : cutL s k a <+: cutL s k b := by
  obtain ⟨c, rfl⟩ := h
  exact ⟨_, (cutL_app s k a c).symm⟩
theorem cutL_of (s : ByteArray) (pre : List (Pc × ByteArray)) (k : Nat) (ps : List Pc) (h : pre <+: cutL s k ps) : ∃ qs, qs <+: ps ∧ pre = cutL s k qs := by
  induction pre generalizing k ps with
  | nil => exact ⟨[], List.nil_prefix, rfl⟩
  | cons x pre ih =>
    cases ps with
    | nil => have := h.length_le; simp [cutL] at this
    | cons p ps =>
      rw [cutL, List.cons_prefix_cons] at h
      obtain ⟨rfl, h⟩ := h
      obtain ⟨qs, hq, rfl⟩ := ih _ _ h
      exact ⟨p :: qs, by rw [List.cons_prefix_cons]; exact ⟨rfl, hq⟩, rfl⟩
theorem cutL_snoc_of (s : ByteArray) (pre : List (Pc × ByteArray)) (x : Pc × ByteArray) (ps : List Pc) (h : pre ++ [x] <+: cutL s 0 ps) : ∃ qs p, qs ++ [p] <+: ps ∧ pre = cutL s 0 qs ∧ x = (p, s.extract (szs qs) (szs qs + p.sz)) := by
  obtain ⟨rs, hr, he⟩ := cutL_of s _ 0 ps h
  rcases List.eq_nil_or_concat rs with rfl | ⟨qs, p, rfl⟩
  · simp [cutL] at he
  · rw [List.concat_eq_append] at hr he
    rw [cutL_snoc] at he
    have := List.append_inj' he rfl
    exact ⟨qs, p, hr, this.1, by simpa using this.2⟩
end Go.Proofs.YtlejldaennlfaayDoor.Wa

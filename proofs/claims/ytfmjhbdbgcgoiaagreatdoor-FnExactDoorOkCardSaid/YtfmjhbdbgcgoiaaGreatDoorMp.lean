/- Plain facts on the door's pairs: which are ok, which port an end gets, as what a piece goes out and comes in. No program is named here but for the ends' sides. -/
import Derived.Test.YtfmjhbdbgcgoiaaGreatDoorKit
import Derived.Test.YtfmjhbdbgcgoiaaGreatDoorEndW
namespace Go.Proofs.YtfmjhbdbgcgoiaaGreatDoor.Mp
open Go.RowKit
open Go.Proofs.YtfmjhbdbgcgoiaaGreatDoor.EndW (sideZ)

/-- an end inside -/
def inB (e : Int × Int) : Bool := decide (sideZ e.1 e.2 = 1)
theorem inB_bd (e : Int × Int) (h : inB e = true) : 1 ≤ e.1 ∧ e.1 ≤ 3 ∧ 1 ≤ e.2 ∧ e.2 ≤ 9 := by
  simp only [inB, decide_eq_true_eq] at h
  unfold sideZ at h
  split at h
  · assumption
  · split at h
    · omega
    · split at h <;> omega
theorem inB_mk (a p : Int) (h : 1 ≤ a ∧ a ≤ 3 ∧ 1 ≤ p ∧ p ≤ 9) : inB (a, p) = true := by
  simp only [inB, decide_eq_true_eq]
  unfold sideZ; rw [if_pos h]

/-- the pairs that give ports to ends, in order -/
def prs (es : List (Int × Int)) : List (Int × Int × Int) := es.mapIdx fun i e => ((10 : Int) + i, e)
theorem prs_len (es : List (Int × Int)) : (prs es).length = es.length := by simp [prs]
theorem prs_at (es : List (Int × Int)) (i : Nat) : (prs es)[i]? = es[i]?.map fun e => ((10 : Int) + i, e) := by simp [prs]
theorem prs_snoc (es : List (Int × Int)) (e : Int × Int) : prs (es ++ [e]) = prs es ++ [((10 : Int) + es.length, e)] := by simp [prs, List.mapIdx_append]
theorem prs_snd (es : List (Int × Int)) : (prs es).map Prod.snd = es := by
  apply List.ext_getElem?
  intro i
  rw [List.getElem?_map, prs_at]
  cases es[i]? <;> rfl
theorem prs_inj (a b : List (Int × Int)) (h : prs a = prs b) : a = b := by rw [← prs_snd a, ← prs_snd b, h]

/-- ends that may have ports -/
structure GoodE (es : List (Int × Int)) : Prop where
  len : es.length ≤ 8
  nd : es.Nodup
  ins : ∀ e ∈ es, inB e = true
/-- pairs that are ok -/
def Okm (m : List (Int × Int × Int)) : Prop := ∃ es, GoodE es ∧ m = prs es
open Classical in
noncomputable def okM (m : List (Int × Int × Int)) : Bool := decide (Okm m)
theorem okM_yes (m : List (Int × Int × Int)) : okM m = true ↔ Okm m := by unfold okM; simp
theorem okM_no (m : List (Int × Int × Int)) : okM m = false ↔ ¬ Okm m := by unfold okM; simp
theorem okM_prs (es : List (Int × Int)) (h : GoodE es) : okM (prs es) = true := (okM_yes _).2 ⟨es, h, rfl⟩
theorem okM_out (m : List (Int × Int × Int)) (h : okM m = true) : GoodE (m.map Prod.snd) ∧ m = prs (m.map Prod.snd) := by
  obtain ⟨es, hg, rfl⟩ := (okM_yes m).1 h
  rw [prs_snd]; exact ⟨hg, rfl⟩
theorem GoodE.nil : GoodE [] := ⟨Nat.zero_le _, List.nodup_nil, fun _ h => by cases h⟩
theorem GoodE.snoc {es : List (Int × Int)} {e : Int × Int} (h : GoodE es) (hl : es.length < 8) (hi : inB e = true) (hn : e ∉ es) : GoodE (es ++ [e]) := by
  refine ⟨by rw [List.length_append]; simp; omega, ?_, fun x hx => ?_⟩
  · rw [List.nodup_append]
    refine ⟨h.nd, by simp, fun a ha b hb => ?_⟩
    simp at hb; subst hb
    rintro rfl; exact hn ha
  · rw [List.mem_append] at hx
    rcases hx with hx | hx
    · exact h.ins x hx
    · simp at hx; subst hx; exact hi
theorem GoodE.pre {es fs : List (Int × Int)} (h : GoodE es) (k : fs <+: es) : GoodE fs := by
  obtain ⟨t, rfl⟩ := k
  refine ⟨by have := h.len; rw [List.length_append] at this; omega, (List.nodup_append.1 h.nd).1, fun x hx => h.ins x (List.mem_append_left _ hx)⟩
theorem GoodE.sub {es fs : List (Int × Int)} (h : GoodE es) (k : fs.Sublist es) : GoodE fs :=
  ⟨Nat.le_trans k.length_le h.len, h.nd.sublist k, fun x hx => h.ins x (k.subset hx)⟩

/-- the first so many pairs are those of the first so many ends -/
theorem prs_take (es : List (Int × Int)) (k : Nat) : (prs es).take k = prs (es.take k) := by
  apply List.ext_getElem?
  intro i
  rw [List.getElem?_take, prs_at, prs_at, List.getElem?_take]
  split <;> rfl

/-- a pair at which it shows that pairs are not ok -/
theorem okm_port (m : List (Int × Int × Int)) (i : Nat) (p : Int × Int × Int) (hi : m[i]? = some p) (h : p.1 ≠ 10 + (i : Int)) : okM m = false := by
  rw [okM_no]
  rintro ⟨es, hg, rfl⟩
  rw [prs_at] at hi
  cases q : es[i]? with
  | none => rw [q] at hi; cases hi
  | some e => rw [q] at hi; simp at hi; subst hi; exact h rfl
theorem okm_in (m : List (Int × Int × Int)) (i : Nat) (p : Int × Int × Int) (hi : m[i]? = some p) (h : inB p.2 = false) : okM m = false := by
  rw [okM_no]
  rintro ⟨es, hg, rfl⟩
  rw [prs_at] at hi
  cases q : es[i]? with
  | none => rw [q] at hi; cases hi
  | some e =>
    rw [q] at hi; simp at hi; subst hi
    have := hg.ins e (List.mem_of_getElem? q)
    simp only at h
    rw [this] at h; cases h
theorem okm_two (m : List (Int × Int × Int)) (i k : Nat) (p q : Int × Int × Int) (hk : k < i) (hi : m[i]? = some p) (hq : m[k]? = some q) (h : q.2 = p.2) : okM m = false := by
  rw [okM_no]
  rintro ⟨es, hg, rfl⟩
  rw [prs_at] at hi hq
  cases x : es[i]? with
  | none => rw [x] at hi; cases hi
  | some e =>
    cases y : es[k]? with
    | none => rw [y] at hq; cases hq
    | some f =>
      rw [x] at hi; rw [y] at hq
      simp at hi hq; subst hi; subst hq
      simp only at h
      subst h
      obtain ⟨h1, e1⟩ := List.getElem?_eq_some_iff.1 x
      obtain ⟨h2, e2⟩ := List.getElem?_eq_some_iff.1 y
      have := (List.getElem_inj (h₀ := h1) (h₁ := h2) hg.nd).1 (e1.trans e2.symm)
      omega
theorem okm_long (m : List (Int × Int × Int)) (h : 8 < m.length) : okM m = false := by
  rw [okM_no]
  rintro ⟨es, hg, rfl⟩
  have := hg.len
  rw [prs_len] at h; omega
/-- pairs that are seen to be ok one by one -/
theorem okm_all (m : List (Int × Int × Int)) (h8 : m.length ≤ 8) (h1 : ∀ (i : Nat) (p : Int × Int × Int), m[i]? = some p → p.1 = 10 + (i : Int) ∧ inB p.2 = true) (h2 : ∀ (i k : Nat) (p q : Int × Int × Int), k < i → m[i]? = some p → m[k]? = some q → q.2 ≠ p.2) : okM m = true := by
  rw [okM_yes]
  refine ⟨m.map Prod.snd, ⟨by simpa using h8, ?_, ?_⟩, ?_⟩
  · unfold List.Nodup
    rw [List.pairwise_iff_getElem]
    intro i j hi hj hij
    simp only [List.length_map] at hi hj
    have := h2 j i _ _ hij (List.getElem?_eq_getElem hj) (List.getElem?_eq_getElem hi)
    simpa using this
  · intro e he
    obtain ⟨p, hp, rfl⟩ := List.mem_map.1 he
    obtain ⟨i, hi⟩ := List.mem_iff_getElem?.1 hp
    exact (h1 i p hi).2
  · apply List.ext_getElem?
    intro i
    rw [prs_at, List.getElem?_map]
    cases q : m[i]? with
    | none => rfl
    | some p =>
      have := (h1 i p q).1
      simp only [Option.map_some, Option.some.injEq]
      exact Prod.ext this rfl

/-- the port for an end, and the ends then -/
def outE (es : List (Int × Int)) (e : Int × Int) : List (Int × Int) × Int × Bool :=
  if e ∈ es then (es, 10 + (es.idxOf e : Int), true) else if es.length < 8 then (es ++ [e], 10 + (es.length : Int), true) else (es, 0, false)
theorem outE_has (es : List (Int × Int)) (e : Int × Int) (h : e ∈ es) : outE es e = (es, 10 + (es.idxOf e : Int), true) := if_pos h
theorem outE_new (es : List (Int × Int)) (e : Int × Int) (h : e ∉ es) (hl : es.length < 8) : outE es e = (es ++ [e], 10 + (es.length : Int), true) := by
  unfold outE; rw [if_neg h, if_pos hl]
theorem outE_full (es : List (Int × Int)) (e : Int × Int) (h : e ∉ es) (hl : 8 ≤ es.length) : outE es e = (es, 0, false) := by
  unfold outE; rw [if_neg h, if_neg (by omega)]
theorem outE_good (es : List (Int × Int)) (e : Int × Int) (hg : GoodE es) (hi : inB e = true) : GoodE (outE es e).1 := by
  by_cases h : e ∈ es
  · rw [outE_has es e h]; exact hg
  · by_cases hl : es.length < 8
    · rw [outE_new es e h hl]; exact hg.snoc hl hi h
    · rw [outE_full es e h (by omega)]; exact hg
theorem outE_pre (es : List (Int × Int)) (e : Int × Int) : es <+: (outE es e).1 := by
  by_cases h : e ∈ es
  · rw [outE_has es e h]; exact List.prefix_refl _
  · by_cases hl : es.length < 8
    · rw [outE_new es e h hl]; exact List.prefix_append _ _
    · rw [outE_full es e h (by omega)]; exact List.prefix_refl _
theorem idx_at (es : List (Int × Int)) (e : Int × Int) (h : e ∈ es) : es[es.idxOf e]? = some e := by
  have hl := List.idxOf_lt_length_iff.2 h
  rw [List.getElem?_eq_getElem hl, List.getElem_idxOf hl]
theorem idx_uniq (es : List (Int × Int)) (hn : es.Nodup) (e : Int × Int) (i : Nat) (h : es[i]? = some e) : es.idxOf e = i := by
  obtain ⟨h1, e1⟩ := List.getElem?_eq_some_iff.1 h
  have hm : e ∈ es := List.mem_of_getElem? h
  obtain ⟨h2, e2⟩ := List.getElem?_eq_some_iff.1 (idx_at es e hm)
  exact (List.getElem_inj (h₀ := h2) (h₁ := h1) hn).1 (e2.trans e1.symm)
/-- the port of an end, behind it -/
theorem outE_port (es : List (Int × Int)) (e : Int × Int) (hg : GoodE es) (h : (outE es e).2.2 = true) : 10 ≤ (outE es e).2.1 ∧ (outE es e).2.1 ≤ 17 ∧ (outE es e).1[((outE es e).2.1 - 10).toNat]? = some e := by
  by_cases hm : e ∈ es
  · rw [outE_has es e hm]
    have hl := List.idxOf_lt_length_iff.2 hm
    have := hg.len
    refine ⟨by simp; omega, by simp; omega, ?_⟩
    rw [show ((10 + (es.idxOf e : Int)) - 10).toNat = es.idxOf e by omega]
    exact idx_at es e hm
  · by_cases hl : es.length < 8
    · rw [outE_new es e hm hl]
      refine ⟨by simp; omega, by simp; omega, ?_⟩
      rw [show ((10 + (es.length : Int)) - 10).toNat = es.length by omega]
      simp
    · rw [outE_full es e hm (by omega)] at h; cases h
/-- once more it is the same port -/
theorem outE_again (es : List (Int × Int)) (e : Int × Int) (hg : GoodE es) (hi : inB e = true) (h : (outE es e).2.2 = true) : outE (outE es e).1 e = ((outE es e).1, (outE es e).2.1, true) := by
  have hg2 := outE_good es e hg hi
  obtain ⟨h1, h2, h3⟩ := outE_port es e hg h
  have hm : e ∈ (outE es e).1 := List.mem_of_getElem? h3
  rw [outE_has _ e hm, idx_uniq _ hg2.nd e _ h3]
  rw [show ((10 : Int) + (((outE es e).2.1 - 10).toNat : Int)) = (outE es e).2.1 by omega]

/-- the end of a port -/
def inE (es : List (Int × Int)) (port : Int) : (Int × Int) × Bool :=
  if 10 ≤ port then (match es[(port - 10).toNat]? with | some e => (e, true) | none => ((0, 0), false)) else ((0, 0), false)
theorem inE_low (es : List (Int × Int)) (port : Int) (h : port < 10) : inE es port = ((0, 0), false) := by unfold inE; rw [if_neg (by omega)]
theorem inE_high (es : List (Int × Int)) (port : Int) (h : 10 + (es.length : Int) ≤ port) : inE es port = ((0, 0), false) := by
  unfold inE; rw [if_pos (by omega), List.getElem?_eq_none (by omega)]
theorem inE_at (es : List (Int × Int)) (i : Nat) (e : Int × Int) (h : es[i]? = some e) : inE es (10 + (i : Int)) = (e, true) := by
  unfold inE; rw [if_pos (by omega), show ((10 + (i : Int)) - 10).toNat = i by omega, h]
theorem inE_cases (es : List (Int × Int)) (port : Int) : (∃ (i : Nat) (e : Int × Int), port = 10 + (i : Int) ∧ es[i]? = some e ∧ inE es port = (e, true)) ∨ ((port < 10 ∨ 10 + (es.length : Int) ≤ port) ∧ inE es port = ((0, 0), false)) := by
  by_cases h1 : port < 10
  · exact .inr ⟨.inl h1, inE_low es port h1⟩
  · by_cases h2 : 10 + (es.length : Int) ≤ port
    · exact .inr ⟨.inr h2, inE_high es port h2⟩
    · have hl : (port - 10).toNat < es.length := by omega
      have hp : port = 10 + ((port - 10).toNat : Int) := by omega
      refine .inl ⟨(port - 10).toNat, es[(port - 10).toNat], hp, List.getElem?_eq_getElem hl, ?_⟩
      have := inE_at es (port - 10).toNat _ (List.getElem?_eq_getElem hl)
      rw [← hp] at this; exact this

/-- what MapOut tells -/
noncomputable def mOut (m : List (Int × Int × Int)) (e : Int × Int) : List (Int × Int × Int) × Int × Bool :=
  if okM m = true ∧ inB e = true then (prs (outE (m.map Prod.snd) e).1, (outE (m.map Prod.snd) e).2.1, (outE (m.map Prod.snd) e).2.2) else ([], 0, false)
/-- what MapIn tells -/
noncomputable def mIn (m : List (Int × Int × Int)) (port : Int) : (Int × Int) × Bool := if okM m = true then inE (m.map Prod.snd) port else ((0, 0), false)
end Go.Proofs.YtfmjhbdbgcgoiaaGreatDoor.Mp

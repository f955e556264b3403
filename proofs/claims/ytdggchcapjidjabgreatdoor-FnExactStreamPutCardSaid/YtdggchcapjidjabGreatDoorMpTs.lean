/- Plain facts on pieces that go out and come in. No program is named here but for the ends' sides. -/
import Derived.Test.YtdggchcapjidjabGreatDoorMp
import Derived.Test.YtdggchcapjidjabGreatDoorTxts
namespace Go.Proofs.YtdggchcapjidjabGreatDoor.Mp
open Go.RowKit
open Go.Proofs.YtdggchcapjidjabGreatDoor.Tx
open Go.Proofs.YtdggchcapjidjabGreatDoor.EndW (sideZ)

/-- as what a piece goes out, and the ends then -/
def goO (es : List (Int × Int)) (p : Pc) (l : List UInt8) : List (Int × Int) × List UInt8 :=
  if p.nm = true ∧ inB (p.ad, p.po) = true ∧ (outE es (p.ad, p.po)).2.2 = true then ((outE es (p.ad, p.po)).1, nmL (9, (outE es (p.ad, p.po)).2.1)) else (es, l)
/-- as what a piece comes in -/
def goI (es : List (Int × Int)) (p : Pc) (l : List UInt8) : List UInt8 :=
  if p.nm = true ∧ sideZ p.ad p.po = 3 ∧ (inE es p.po).2 = true then nmL (inE es p.po).1 else l

/-- as what pieces go out, one behind the other -/
def outP : List (Int × Int) → List Pc → List UInt8 → List (Int × Int) × List UInt8
  | es, [], _ => (es, [])
  | es, p :: ps, l => ((outP (goO es p (l.take p.sz)).1 ps (l.drop p.sz)).1, (goO es p (l.take p.sz)).2 ++ (outP (goO es p (l.take p.sz)).1 ps (l.drop p.sz)).2)
/-- as what pieces come in, one behind the other -/
def inP (es : List (Int × Int)) : List Pc → List UInt8 → List UInt8
  | [], _ => []
  | p :: ps, l => goI es p (l.take p.sz) ++ inP es ps (l.drop p.sz)

theorem outP_app (es : List (Int × Int)) (ps qs : List Pc) (l : List UInt8) :
    outP es (ps ++ qs) l = ((outP (outP es ps l).1 qs (l.drop (szs ps))).1, (outP es ps l).2 ++ (outP (outP es ps l).1 qs (l.drop (szs ps))).2) := by
  induction ps generalizing es l with
  | nil => simp [outP, szs]
  | cons p ps ih =>
    have e : szs (p :: ps) = p.sz + szs ps := by simp [szs]
    rw [List.cons_append, outP, outP, ih, e, List.drop_drop]
    simp
theorem inP_app (es : List (Int × Int)) (ps qs : List Pc) (l : List UInt8) : inP es (ps ++ qs) l = inP es ps l ++ inP es qs (l.drop (szs ps)) := by
  induction ps generalizing l with
  | nil => simp [inP, szs]
  | cons p ps ih =>
    have e : szs (p :: ps) = p.sz + szs ps := by simp [szs]
    rw [List.cons_append, inP, inP, ih, e, List.drop_drop, List.append_assoc]
theorem outP_snoc (es : List (Int × Int)) (ps : List Pc) (p : Pc) (l : List UInt8) :
    outP es (ps ++ [p]) l = ((goO (outP es ps l).1 p ((l.drop (szs ps)).take p.sz)).1, (outP es ps l).2 ++ (goO (outP es ps l).1 p ((l.drop (szs ps)).take p.sz)).2) := by
  rw [outP_app]; simp [outP]
theorem inP_snoc (es : List (Int × Int)) (ps : List Pc) (p : Pc) (l : List UInt8) : inP es (ps ++ [p]) l = inP es ps l ++ goI es p ((l.drop (szs ps)).take p.sz) := by
  rw [inP_app]; simp [inP]

theorem goO_good (es : List (Int × Int)) (p : Pc) (l : List UInt8) (hg : GoodE es) : GoodE (goO es p l).1 := by
  unfold goO
  split
  · next h => exact outE_good es _ hg h.2.1
  · exact hg
theorem outP_good (es : List (Int × Int)) (ps : List Pc) (l : List UInt8) (hg : GoodE es) : GoodE (outP es ps l).1 := by
  induction ps generalizing es l with
  | nil => exact hg
  | cons p ps ih => exact ih _ _ (goO_good es p _ hg)
theorem goO_pre (es : List (Int × Int)) (p : Pc) (l : List UInt8) : es <+: (goO es p l).1 := by
  unfold goO
  split
  · exact outE_pre es _
  · exact List.prefix_refl _
theorem outP_pre (es : List (Int × Int)) (ps : List Pc) (l : List UInt8) : es <+: (outP es ps l).1 := by
  induction ps generalizing es l with
  | nil => exact List.prefix_refl _
  | cons p ps ih => exact (goO_pre es p _).trans (ih _ _)

/-- what MapTextOut tells -/
noncomputable def tOut (m : List (Int × Int × Int)) (s : List UInt8) : List (Int × Int × Int) × List UInt8 :=
  if okM m = true ∧ okB s = true then (prs (outP (m.map Prod.snd) (pieL s) s).1, (outP (m.map Prod.snd) (pieL s) s).2) else ([], [])
/-- what MapTextIn tells -/
noncomputable def tIn (m : List (Int × Int × Int)) (s : List UInt8) : List UInt8 := if okM m = true ∧ okB s = true then inP (m.map Prod.snd) (pieL s) s else []
end Go.Proofs.YtdggchcapjidjabGreatDoor.Mp

/- Plain facts on texts whose names are written anew. No program is named here but for the ends' sides. -/
namespace Go.Proofs.YtdggchcapjidjabGreatDoor.Mp
set_option linter.unusedVariables false
open Go.RowKit
open Go.Proofs.YtdggchcapjidjabGreatDoor.Tx
open Go.Proofs.YtdggchcapjidjabGreatDoor.EndW (sideZ)

theorem nmO (e : Int × Int) (h : sideZ e.1 e.2 ≠ 0) (t : List UInt8) : nameO (nmL e ++ t) = some e := (nameO_some _ _).2 ⟨h, List.prefix_append _ _⟩
theorem pcs_nm (e : Int × Int) (h : sideZ e.1 e.2 ≠ 0) (t : List UInt8) : pcs (nmL e ++ t) = ⟨(nmL e).length, true, e.1, e.2⟩ :: pcs t := by
  rw [pcs_some _ e (nmO e h t), List.drop_left' rfl]
theorem pcs_by (b : UInt8) (l : List UInt8) (h : nameO (b :: l) = none) : pcs (b :: l) = ⟨1, false, 0, 0⟩ :: pcs l := pcs_none _ (by simp) h

/-- a text, name by name and byte by byte -/
theorem pc_ind {C : List UInt8 → Prop} (h0 : C []) (h1 : ∀ b l, nameO (b :: l) = none → C l → C (b :: l)) (h2 : ∀ e l, sideZ e.1 e.2 ≠ 0 → C l → C (nmL e ++ l)) (l : List UInt8) : C l := by
  match l with
  | [] => exact h0
  | b :: l' =>
    cases q : nameO (b :: l') with
    | none => exact h1 b l' q (pc_ind h0 h1 h2 l')
    | some e =>
      have hn := (nameO_some _ _).1 q
      obtain ⟨t, ht⟩ := hn.2
      have hl : t.length < (b :: l').length := by
        have := nm_pos e
        rw [← ht, List.length_append]; omega
      rw [← ht]
      exact h2 e t hn.1 (pc_ind h0 h1 h2 t)
termination_by l.length

/-- the ends that pieces name -/
def nms (ps : List Pc) : List (Int × Int) := (ps.filter Pc.nm).map fun p => (p.ad, p.po)
theorem nms_cons (p : Pc) (ps : List Pc) : nms (p :: ps) = if p.nm = true then (p.ad, p.po) :: nms ps else nms ps := by
  unfold nms
  rw [List.filter_cons]
  split <;> rfl
theorem nms_app (a b : List Pc) : nms (a ++ b) = nms a ++ nms b := by simp [nms]
theorem nms_any (l : List UInt8) : ∀ e ∈ nms (pcs l), sideZ e.1 e.2 ≠ 0 := by
  refine pc_ind (C := fun l => ∀ e ∈ nms (pcs l), sideZ e.1 e.2 ≠ 0) ?_ ?_ ?_ l
  · rw [pcs_nil]; intro e he; cases he
  · intro b l h ih e he
    rw [pcs_by b l h, nms_cons] at he
    exact ih e he
  · intro f l h ih e he
    rw [pcs_nm f h, nms_cons] at he
    rcases List.mem_cons.1 he with rfl | he
    · exact h
    · exact ih e he

/-- pieces, each name another one -/
def mapP (f : Int × Int → Int × Int) : List Pc → List UInt8 → List UInt8
  | [], _ => []
  | p :: ps, l => (if p.nm = true then nmL (f (p.ad, p.po)) else l.take p.sz) ++ mapP f ps (l.drop p.sz)
/-- a text, each name another one -/
noncomputable def mapN (f : Int × Int → Int × Int) (l : List UInt8) : List UInt8 := mapP f (pcs l) l
theorem mapN_nil (f : Int × Int → Int × Int) : mapN f [] = [] := by unfold mapN; rw [pcs_nil]; rfl
theorem mapN_by (f : Int × Int → Int × Int) (b : UInt8) (l : List UInt8) (h : nameO (b :: l) = none) : mapN f (b :: l) = b :: mapN f l := by
  unfold mapN; rw [pcs_by b l h]; rfl
theorem mapN_nm (f : Int × Int → Int × Int) (e : Int × Int) (h : sideZ e.1 e.2 ≠ 0) (l : List UInt8) : mapN f (nmL e ++ l) = nmL (f e) ++ mapN f l := by
  unfold mapN; rw [pcs_nm e h]
  show (if true = true then nmL (f (e.1, e.2)) else _) ++ mapP f (pcs l) ((nmL e ++ l).drop (nmL e).length) = _
  rw [if_pos rfl, List.drop_left' rfl]
theorem mapP_app (f : Int × Int → Int × Int) (ps qs : List Pc) (l : List UInt8) : mapP f (ps ++ qs) l = mapP f ps l ++ mapP f qs (l.drop (szs ps)) := by
  induction ps generalizing l with
  | nil => simp [mapP, szs]
  | cons p ps ih =>
    have e : szs (p :: ps) = p.sz + szs ps := by simp [szs]
    rw [List.cons_append, mapP, mapP, ih, e, List.drop_drop, List.append_assoc]
theorem mapP_text (f : Int × Int → Int × Int) (ps : List Pc) (l m : List UInt8) (h : szs ps ≤ l.length) : mapP f ps (l ++ m) = mapP f ps l := by
  induction ps generalizing l with
  | nil => rfl
  | cons p ps ih =>
    have e : szs (p :: ps) = p.sz + szs ps := by simp [szs]
    have h1 : p.sz ≤ l.length := by omega
    rw [mapP, mapP, List.take_append_of_le_length h1, List.drop_append_of_le_length h1, ih _ (by rw [List.length_drop]; omega)]
theorem mapN_app (f : Int × Int → Int × Int) (a b : List UInt8) (h : Nc a b) : mapN f (a ++ b) = mapN f a ++ mapN f b := by
  unfold mapN
  rw [pcs_app a b h, mapP_app, szs_pcs, List.drop_left' rfl, mapP_text _ _ _ _ (by rw [szs_pcs]; exact Nat.le_refl _)]

theorem nm_head (e : Int × Int) : nmL e = 64 :: (nmL e).tail := rfl
/-- bytes without an '@' that what is written anew begins with -/
theorem mapN_pre (f : Int × Int → Int × Int) (l : List UInt8) : ∀ d : List UInt8, (∀ x ∈ d, x.toNat ≠ 64) → d <+: mapN f l → d <+: l := by
  refine pc_ind (C := fun l => ∀ d : List UInt8, (∀ x ∈ d, x.toNat ≠ 64) → d <+: mapN f l → d <+: l) ?_ ?_ ?_ l
  · intro d _ h; rw [mapN_nil] at h; exact h
  · intro b l h ih d hd hp
    rw [mapN_by f b l h] at hp
    cases d with
    | nil => exact List.nil_prefix
    | cons x d =>
      rw [List.cons_prefix_cons] at hp ⊢
      exact ⟨hp.1, ih d (fun y hy => hd y (List.mem_cons_of_mem _ hy)) hp.2⟩
  · intro e l h ih d hd hp
    rw [mapN_nm f e h] at hp
    cases d with
    | nil => exact List.nil_prefix
    | cons x d =>
      rw [nm_head, List.cons_append, List.cons_prefix_cons] at hp
      exact absurd (by rw [hp.1]; rfl) (hd x (by simp))
theorem mapN_noname (f : Int × Int → Int × Int) (b : UInt8) (l : List UInt8) (h : nameO (b :: l) = none) : nameO (b :: mapN f l) = none := by
  refine (nameO_none _).2 fun e he => (nameO_none _).1 h e ⟨he.1, ?_⟩
  have hp := he.2
  rw [nm_head, List.cons_prefix_cons] at hp ⊢
  refine ⟨hp.1, mapN_pre f l _ (fun x hx => ?_) hp.2⟩
  obtain ⟨c, d, hcd⟩ := List.append_of_mem hx
  exact nm_tail e he.1 (64 :: c) d x (by simp) (by rw [List.cons_append, ← hcd]; exact (nm_head e).symm)

/-- ends that are any stay such -/
def Anyp (f : Int × Int → Int × Int) : Prop := ∀ e : Int × Int, sideZ e.1 e.2 ≠ 0 → sideZ (f e).1 (f e).2 ≠ 0
/-- a piece, its name another one -/
def mp (f : Int × Int → Int × Int) (p : Pc) : Pc := if p.nm = true then ⟨(nmL (f (p.ad, p.po))).length, true, (f (p.ad, p.po)).1, (f (p.ad, p.po)).2⟩ else p
theorem pcs_mapN (f : Int × Int → Int × Int) (hf : Anyp f) (l : List UInt8) : pcs (mapN f l) = (pcs l).map (mp f) := by
  refine pc_ind (C := fun l => pcs (mapN f l) = (pcs l).map (mp f)) ?_ ?_ ?_ l
  · rw [mapN_nil, pcs_nil]; rfl
  · intro b l h ih
    rw [mapN_by f b l h, pcs_by b l h, pcs_by b _ (mapN_noname f b l h), ih]; rfl
  · intro e l h ih
    rw [mapN_nm f e h, pcs_nm e h, pcs_nm (f e) (hf e h), ih]; rfl
theorem nms_mapN (f : Int × Int → Int × Int) (hf : Anyp f) (l : List UInt8) : nms (pcs (mapN f l)) = (nms (pcs l)).map f := by
  refine pc_ind (C := fun l => nms (pcs (mapN f l)) = (nms (pcs l)).map f) ?_ ?_ ?_ l
  · rw [mapN_nil, pcs_nil]; rfl
  · intro b l h ih
    rw [mapN_by f b l h, pcs_by b l h, pcs_by b _ (mapN_noname f b l h), nms_cons, nms_cons]; exact ih
  · intro e l h ih
    rw [mapN_nm f e h, pcs_nm e h, pcs_nm (f e) (hf e h), nms_cons, nms_cons]
    show _ :: nms (pcs (mapN f l)) = _
    rw [ih]; rfl
theorem mapN_comp (f g : Int × Int → Int × Int) (hf : Anyp f) (l : List UInt8) : mapN g (mapN f l) = mapN (fun e => g (f e)) l := by
  refine pc_ind (C := fun l => mapN g (mapN f l) = mapN (fun e => g (f e)) l) ?_ ?_ ?_ l
  · rw [mapN_nil, mapN_nil, mapN_nil]
  · intro b l h ih
    rw [mapN_by f b l h, mapN_by _ b l h, mapN_by g b _ (mapN_noname f b l h), ih]
  · intro e l h ih
    rw [mapN_nm f e h, mapN_nm _ e h, mapN_nm g _ (hf e h), ih]
theorem mapN_congr (f g : Int × Int → Int × Int) (l : List UInt8) (h : ∀ e ∈ nms (pcs l), f e = g e) : mapN f l = mapN g l := by
  revert h
  refine pc_ind (C := fun l => (∀ e ∈ nms (pcs l), f e = g e) → mapN f l = mapN g l) ?_ ?_ ?_ l
  · intro _; rw [mapN_nil, mapN_nil]
  · intro b l h ih k
    rw [pcs_by b l h, nms_cons] at k
    rw [mapN_by f b l h, mapN_by g b l h, ih k]
  · intro e l h ih k
    rw [pcs_nm e h, nms_cons] at k
    rw [mapN_nm f e h, mapN_nm g e h, k e (List.mem_cons_self), ih fun x hx => k x (List.mem_cons_of_mem _ hx)]
theorem mapN_same (l : List UInt8) : mapN (fun e => e) l = l := by
  refine pc_ind (C := fun l => mapN (fun e => e) l = l) ?_ ?_ ?_ l
  · exact mapN_nil _
  · intro b l h ih; rw [mapN_by _ b l h, ih]
  · intro e l h ih; rw [mapN_nm _ e h, ih]
theorem mapN_id (f : Int × Int → Int × Int) (l : List UInt8) (h : ∀ e ∈ nms (pcs l), f e = e) : mapN f l = l := (mapN_congr f (fun e => e) l h).trans (mapN_same l)
theorem mapN_bytes (f : Int × Int → Int × Int) (hf : Anyp f) (l : List UInt8) (h : ∀ c ∈ l, byteB c = true) : ∀ c ∈ mapN f l, byteB c = true := by
  revert h
  refine pc_ind (C := fun l => (∀ c ∈ l, byteB c = true) → ∀ c ∈ mapN f l, byteB c = true) ?_ ?_ ?_ l
  · intro _ c hc; rw [mapN_nil] at hc; cases hc
  · intro b l h ih k c hc
    rw [mapN_by f b l h] at hc
    rcases List.mem_cons.1 hc with rfl | hc
    · exact k _ (by simp)
    · exact ih (fun c hc => k c (List.mem_cons_of_mem _ hc)) c hc
  · intro e l h ih k c hc
    rw [mapN_nm f e h, List.mem_append] at hc
    rcases hc with hc | hc
    · exact nm_bytes _ (hf e h) c hc
    · exact ih (fun c hc => k c (List.mem_append_right _ hc)) c hc
/-- how much longer -/
theorem mapN_len (f : Int × Int → Int × Int) (l : List UInt8) : (mapN f l).length + ((nms (pcs l)).map fun e => (nmL e).length).sum = l.length + ((nms (pcs l)).map fun e => (nmL (f e)).length).sum := by
  refine pc_ind (C := fun l => (mapN f l).length + ((nms (pcs l)).map fun e => (nmL e).length).sum = l.length + ((nms (pcs l)).map fun e => (nmL (f e)).length).sum) ?_ ?_ ?_ l
  · rw [mapN_nil, pcs_nil]; rfl
  · intro b l h ih
    rw [mapN_by f b l h, pcs_by b l h, nms_cons]
    simp only [Bool.false_eq_true, if_false, List.length_cons]
    omega
  · intro e l h ih
    rw [mapN_nm f e h, pcs_nm e h, nms_cons, List.length_append, List.length_append]
    obtain ⟨x, y⟩ := e
    simp only [if_true, List.map_cons, List.sum_cons]
    omega

theorem outP_text (es : List (Int × Int)) (ps : List Pc) (l m : List UInt8) (h : szs ps ≤ l.length) : outP es ps (l ++ m) = outP es ps l := by
  induction ps generalizing es l with
  | nil => rfl
  | cons p ps ih =>
    have e : szs (p :: ps) = p.sz + szs ps := by simp [szs]
    have h1 : p.sz ≤ l.length := by omega
    rw [outP, outP, List.take_append_of_le_length h1, List.drop_append_of_le_length h1, ih _ _ (by rw [List.length_drop]; omega)]
theorem inP_text (es : List (Int × Int)) (ps : List Pc) (l m : List UInt8) (h : szs ps ≤ l.length) : inP es ps (l ++ m) = inP es ps l := by
  induction ps generalizing l with
  | nil => rfl
  | cons p ps ih =>
    have e : szs (p :: ps) = p.sz + szs ps := by simp [szs]
    have h1 : p.sz ≤ l.length := by omega
    rw [inP, inP, List.take_append_of_le_length h1, List.drop_append_of_le_length h1, ih _ (by rw [List.length_drop]; omega)]
theorem outP_bd (es : List (Int × Int)) (s : List UInt8) : outP es (pcs (bd s)) s = outP es (pcs (bd s)) (bd s) := by
  conv => lhs; rw [← bd_hp s]
  rw [bd_hp s]
  have := outP_text es (pcs (bd s)) (bd s) (hp s) (by rw [szs_pcs]; exact Nat.le_refl _)
  rw [bd_hp] at this; exact this
theorem inP_bd (es : List (Int × Int)) (s : List UInt8) : inP es (pcs (bd s)) s = inP es (pcs (bd s)) (bd s) := by
  have := inP_text es (pcs (bd s)) (bd s) (hp s) (by rw [szs_pcs]; exact Nat.le_refl _)
  rw [bd_hp] at this; exact this

/-- who stands for an end outside -/
def fi (es : List (Int × Int)) (e : Int × Int) : Int × Int := if inB e = true ∧ e ∈ es then (9, 10 + (es.idxOf e : Int)) else e
/-- whom an end stands for inside -/
def gi (es : List (Int × Int)) (e : Int × Int) : Int × Int := if sideZ e.1 e.2 = 3 ∧ (inE es e.2).2 = true then (inE es e.2).1 else e

theorem door_side (p : Int) (h1 : 10 ≤ p) (h2 : p ≤ 17) : sideZ 9 p = 3 := by
  unfold sideZ; rw [if_neg (by omega), if_neg (by omega), if_pos (by omega)]
theorem side3 (e : Int × Int) (h : sideZ e.1 e.2 = 3) : e.1 = 9 ∧ 10 ≤ e.2 ∧ e.2 ≤ 17 := by
  unfold sideZ at h
  split at h
  · omega
  · split at h
    · omega
    · split at h
      · assumption
      · omega
theorem in_side (e : Int × Int) (h : inB e = true) : sideZ e.1 e.2 = 1 := by simpa [inB] using h
theorem fi_door (es : List (Int × Int)) (hl : es.length ≤ 8) (e : Int × Int) (h1 : inB e = true) (h2 : e ∈ es) : fi es e = (9, 10 + (es.idxOf e : Int)) ∧ sideZ (fi es e).1 (fi es e).2 = 3 := by
  have e1 : fi es e = (9, 10 + (es.idxOf e : Int)) := if_pos ⟨h1, h2⟩
  have := List.idxOf_lt_length_iff.2 h2
  refine ⟨e1, ?_⟩
  rw [e1]; exact door_side _ (by simp; omega) (by simp; omega)
theorem fi_no (es : List (Int × Int)) (e : Int × Int) (h : ¬ (inB e = true ∧ e ∈ es)) : fi es e = e := if_neg h
theorem fi_any (es : List (Int × Int)) (hl : es.length ≤ 8) : Anyp (fi es) := by
  intro e h
  by_cases k : inB e = true ∧ e ∈ es
  · rw [(fi_door es hl e k.1 k.2).2]; decide
  · rw [fi_no es e k]; exact h
theorem inE_in (es : List (Int × Int)) (hg : GoodE es) (port : Int) (h : (inE es port).2 = true) : inB (inE es port).1 = true := by
  rcases inE_cases es port with ⟨i, e, _, he, hi⟩ | ⟨_, hi⟩
  · rw [hi]; exact hg.ins e (List.mem_of_getElem? he)
  · rw [hi] at h; cases h
theorem gi_any (es : List (Int × Int)) (hg : GoodE es) : Anyp (gi es) := by
  intro e h
  unfold gi
  split
  · next k => rw [in_side _ (inE_in es hg _ k.2)]; decide
  · exact h

/-- behind others the place of an end is as it was -/
theorem idx_pre (a b : List (Int × Int)) (h : a <+: b) (e : Int × Int) (he : e ∈ a) : b.idxOf e = a.idxOf e := by
  obtain ⟨t, rfl⟩ := h
  rw [List.idxOf_append]; simp [he]

/-- what goes out is written anew by the pairs that there are in the end -/
theorem outP_mapN (l : List UInt8) : ∀ es : List (Int × Int), GoodE es → (outP es (pcs l) l).2 = mapN (fi (outP es (pcs l) l).1) l ∧ ∀ e ∈ nms (pcs l), inB e = true → e ∈ (outP es (pcs l) l).1 ∨ 8 ≤ (outP es (pcs l) l).1.length := by
  refine pc_ind (C := fun l => ∀ es : List (Int × Int), GoodE es → (outP es (pcs l) l).2 = mapN (fi (outP es (pcs l) l).1) l ∧ ∀ e ∈ nms (pcs l), inB e = true → e ∈ (outP es (pcs l) l).1 ∨ 8 ≤ (outP es (pcs l) l).1.length) ?_ ?_ ?_ l
  · intro es _; rw [pcs_nil, mapN_nil]
    exact ⟨rfl, fun e he => by cases he⟩
  · intro b l h ih es hg
    rw [pcs_by b l h, mapN_by _ b l h, nms_cons]
    have e1 : goO es ⟨1, false, 0, 0⟩ ((b :: l).take 1) = (es, [b]) := by simp [goO]
    have e2 : outP es (⟨1, false, 0, 0⟩ :: pcs l) (b :: l) = ((outP es (pcs l) l).1, b :: (outP es (pcs l) l).2) := by
      rw [outP]; show ((outP (goO es ⟨1, false, 0, 0⟩ ((b :: l).take 1)).1 (pcs l) l).1, _ ++ _) = _
      rw [e1]; rfl
    rw [e2]
    obtain ⟨i1, i2⟩ := ih es hg
    exact ⟨by rw [← i1], i2⟩
  · intro e l h ih es hg
    rw [pcs_nm e h, mapN_nm _ e h, nms_cons]
    have e2 : outP es (⟨(nmL e).length, true, e.1, e.2⟩ :: pcs l) (nmL e ++ l) = ((outP (goO es ⟨(nmL e).length, true, e.1, e.2⟩ (nmL e)).1 (pcs l) l).1, (goO es ⟨(nmL e).length, true, e.1, e.2⟩ (nmL e)).2 ++ (outP (goO es ⟨(nmL e).length, true, e.1, e.2⟩ (nmL e)).1 (pcs l) l).2) := by
      rw [outP]
      show ((outP (goO es _ ((nmL e ++ l).take (nmL e).length)).1 (pcs l) ((nmL e ++ l).drop (nmL e).length)).1, _) = _
      rw [List.take_left' rfl, List.drop_left' rfl]
    rw [e2]
    have hg1 := goO_good es ⟨(nmL e).length, true, e.1, e.2⟩ (nmL e) hg
    obtain ⟨i1, i2⟩ := ih _ hg1
    have hp := outP_pre (goO es ⟨(nmL e).length, true, e.1, e.2⟩ (nmL e)).1 (pcs l) l
    have hgf := outP_good _ (pcs l) l hg1
    simp only [if_true]
    rw [← i1]
    have key : (goO es ⟨(nmL e).length, true, e.1, e.2⟩ (nmL e)).2 = nmL (fi (outP (goO es ⟨(nmL e).length, true, e.1, e.2⟩ (nmL e)).1 (pcs l) l).1 e) ∧ (inB e = true → e ∈ (outP (goO es ⟨(nmL e).length, true, e.1, e.2⟩ (nmL e)).1 (pcs l) l).1 ∨ 8 ≤ (outP (goO es ⟨(nmL e).length, true, e.1, e.2⟩ (nmL e)).1 (pcs l) l).1.length) := by
      cases hi : inB e with
      | false =>
        have e1 : goO es ⟨(nmL e).length, true, e.1, e.2⟩ (nmL e) = (es, nmL e) := by
          unfold goO; rw [if_neg]; rintro ⟨_, k, _⟩
          simp only at k; rw [hi] at k; cases k
        rw [e1]
        exact ⟨by rw [fi_no _ e (fun k => by rw [hi] at k; cases k.1)], fun k => by cases k⟩
      | true =>
        cases ho : (outE es e).2.2 with
        | true =>
          have e1 : goO es ⟨(nmL e).length, true, e.1, e.2⟩ (nmL e) = ((outE es e).1, nmL (9, (outE es e).2.1)) := by
            unfold goO; rw [if_pos ⟨rfl, hi, ho⟩]
          rw [e1] at hp hgf ⊢
          obtain ⟨o1, o2, o3⟩ := outE_port es e hg ho
          have hm : e ∈ (outE es e).1 := List.mem_of_getElem? o3
          have hm2 := hp.subset hm
          refine ⟨?_, fun _ => .inl hm2⟩
          rw [(fi_door _ hgf.len e hi hm2).1, idx_pre _ _ hp e hm, idx_uniq _ (outE_good es e hg hi).nd e _ o3]
          simp only
          rw [show ((10 : Int) + (((outE es e).2.1 - 10).toNat : Int)) = (outE es e).2.1 by omega]
        | false =>
          have e1 : goO es ⟨(nmL e).length, true, e.1, e.2⟩ (nmL e) = (es, nmL e) := by
            unfold goO; rw [if_neg]; rintro ⟨_, _, k⟩
            simp only at k; rw [ho] at k; cases k
          rw [e1] at hp hgf ⊢
          have hne : e ∉ es := fun k => by rw [outE_has es e k] at ho; cases ho
          have hl8 : 8 ≤ es.length := by
            rcases Nat.lt_or_ge es.length 8 with k | k
            · rw [outE_new es e hne k] at ho; cases ho
            · exact k
          have hfe : (outP es (pcs l) l).1 = es := by
            have := hp.length_le
            have := hgf.len
            exact (hp.eq_of_length (by simp only at *; omega)).symm
          simp only [hfe]
          exact ⟨by rw [fi_no _ e (fun k => hne k.2)], fun _ => .inr hl8⟩
    refine ⟨by rw [key.1], fun x hx k => ?_⟩
    rcases List.mem_cons.1 hx with rfl | hx
    · exact key.2 k
    · exact i2 x hx k

/-- what comes in is written anew -/
theorem inP_mapN (es : List (Int × Int)) (l : List UInt8) : inP es (pcs l) l = mapN (gi es) l := by
  refine pc_ind (C := fun l => inP es (pcs l) l = mapN (gi es) l) ?_ ?_ ?_ l
  · rw [pcs_nil, mapN_nil]; rfl
  · intro b l h ih
    rw [pcs_by b l h, mapN_by _ b l h, inP]
    have e1 : goI es ⟨1, false, 0, 0⟩ ((b :: l).take 1) = [b] := by simp [goI]
    show goI es ⟨1, false, 0, 0⟩ ((b :: l).take 1) ++ inP es (pcs l) l = _
    rw [e1, ih]; rfl
  · intro e l h ih
    rw [pcs_nm e h, mapN_nm _ e h, inP]
    show goI es ⟨(nmL e).length, true, e.1, e.2⟩ ((nmL e ++ l).take (nmL e).length) ++ inP es (pcs l) ((nmL e ++ l).drop (nmL e).length) = _
    rw [List.take_left' rfl, List.drop_left' rfl, ih]
    congr 1
    unfold goI gi
    by_cases k : sideZ e.1 e.2 = 3 ∧ (inE es e.2).2 = true
    · rw [if_pos ⟨rfl, k⟩, if_pos k]
    · rw [if_neg (fun h => k h.2), if_neg k]

/-- where all names inside have ports, or none is left, nothing more is given -/
theorem outP_same (l : List UInt8) (es : List (Int × Int)) (hg : GoodE es) (h : ∀ e ∈ nms (pcs l), inB e = true → e ∈ es ∨ 8 ≤ es.length) : (outP es (pcs l) l).1 = es := by
  revert h
  refine pc_ind (C := fun l => (∀ e ∈ nms (pcs l), inB e = true → e ∈ es ∨ 8 ≤ es.length) → (outP es (pcs l) l).1 = es) ?_ ?_ ?_ l
  · intro _; rw [pcs_nil]; rfl
  · intro b l h ih k
    rw [pcs_by b l h, nms_cons] at k
    rw [pcs_by b l h, outP]
    have e1 : goO es ⟨1, false, 0, 0⟩ ((b :: l).take 1) = (es, [b]) := by simp [goO]
    show (outP (goO es ⟨1, false, 0, 0⟩ ((b :: l).take 1)).1 (pcs l) l).1 = es
    rw [e1]; exact ih k
  · intro e l h ih k
    rw [pcs_nm e h, nms_cons] at k
    rw [pcs_nm e h, outP]
    have e1 : (goO es ⟨(nmL e).length, true, e.1, e.2⟩ ((nmL e ++ l).take (nmL e).length)).1 = es := by
      unfold goO
      split
      · next q =>
        rcases k e List.mem_cons_self q.2.1 with k1 | k1
        · rw [outE_has es e k1]
        · by_cases k2 : e ∈ es
          · rw [outE_has es e k2]
          · rw [outE_full es e k2 k1]
      · rfl
    show (outP (goO es ⟨(nmL e).length, true, e.1, e.2⟩ ((nmL e ++ l).take (nmL e).length)).1 (pcs l) ((nmL e ++ l).drop (nmL e).length)).1 = es
    rw [e1, List.drop_left' rfl]
    exact ih fun x hx => k x (List.mem_cons_of_mem _ hx)
end Go.Proofs.YtdggchcapjidjabGreatDoor.Mp

/- Plain facts on texts that go out and come in, as the laws use them. -/
namespace Go.Proofs.YtdggchcapjidjabGreatDoor.Mp
open Go.RowKit
open Go.Proofs.YtdggchcapjidjabGreatDoor.Tx
open Go.Proofs.YtdggchcapjidjabGreatDoor.EndW (sideZ)
set_option linter.unusedVariables false

/-- the ends behind a text that went out -/
noncomputable def esB (m : List (Int × Int × Int)) (l : List UInt8) : List (Int × Int) := (outP (m.map Prod.snd) (pcs (bd l)) (bd l)).1
theorem tout_form (m : List (Int × Int × Int)) (l : List UInt8) (hok : okM m = true) (hs : okB l = true) : tOut m l = (prs (esB m l), mapN (fi (esB m l)) (bd l)) := by
  have hg := (okM_out m hok).1
  unfold tOut esB
  rw [if_pos ⟨hok, hs⟩, pie_ok _ hs, outP_bd]
  rw [← (outP_mapN (bd l) (m.map Prod.snd) hg).1]
theorem esB_good (m : List (Int × Int × Int)) (l : List UInt8) (hok : okM m = true) : GoodE (esB m l) := outP_good _ _ _ (okM_out m hok).1
theorem esB_pre (m : List (Int × Int × Int)) (l : List UInt8) : m.map Prod.snd <+: esB m l := outP_pre _ _ _
theorem esB_all (m : List (Int × Int × Int)) (l : List UInt8) (hok : okM m = true) : ∀ e ∈ nms (pcs (bd l)), inB e = true → e ∈ esB m l ∨ 8 ≤ (esB m l).length := (outP_mapN (bd l) _ (okM_out m hok).1).2
/-- once more it goes out alike -/
theorem tout_again (m : List (Int × Int × Int)) (l : List UInt8) (hok : okM m = true) (hs : okB l = true) : tOut (tOut m l).1 l = tOut m l := by
  have hg := esB_good m l hok
  rw [tout_form m l hok hs]
  have hok2 : okM (prs (esB m l)) = true := okM_prs _ hg
  have he : esB (prs (esB m l)) l = esB m l := by
    show (outP ((prs (esB m l)).map Prod.snd) (pcs (bd l)) (bd l)).1 = _
    rw [prs_snd]
    exact outP_same (bd l) (esB m l) hg (esB_all m l hok)
  rw [tout_form _ l hok2 hs, he]
theorem tout_pre (m : List (Int × Int × Int)) (l : List UInt8) (hok : okM m = true) (hs : okB l = true) : (tOut m l).1.take m.length = m ∧ m.length ≤ (tOut m l).1.length ∧ okM (tOut m l).1 = true := by
  have hg := esB_good m l hok
  obtain ⟨_, hm⟩ := okM_out m hok
  rw [tout_form m l hok hs]
  obtain ⟨t, ht⟩ := esB_pre m l
  refine ⟨?_, ?_, okM_prs _ hg⟩
  · show (prs (esB m l)).take m.length = m
    rw [prs_take, ← ht, show m.length = (m.map Prod.snd).length by simp, List.take_left]
    exact hm.symm
  · show m.length ≤ (prs (esB m l)).length
    rw [prs_len, ← ht]; simp
/-- what comes in -/
theorem tin_form (m : List (Int × Int × Int)) (l : List UInt8) (hok : okM m = true) (hs : okB l = true) : tIn m l = mapN (gi (m.map Prod.snd)) (bd l) := by
  unfold tIn
  rw [if_pos ⟨hok, hs⟩, pie_ok _ hs, inP_bd, inP_mapN]
/-- what goes out is longer by a byte for each name of an end inside -/
theorem gi_fi (es : List (Int × Int)) (hg : GoodE es) (e : Int × Int) (h : sideZ e.1 e.2 ≠ 3) (hin : inB e = true → e ∈ es) : gi es (fi es e) = e := by
  by_cases hi : inB e = true
  · obtain ⟨h1, h2⟩ := fi_door es hg.len e hi (hin hi)
    unfold gi
    rw [h1]
    have h3 : inE es (10 + (es.idxOf e : Int)) = (e, true) := inE_at es _ _ (idx_at es e (hin hi))
    rw [h1] at h2
    simp only at h2 ⊢
    rw [if_pos ⟨h2, by rw [h3]⟩, h3]
  · rw [fi_no es e (fun q => hi q.1)]
    unfold gi
    rw [if_neg (fun q => h q.1)]
/-- what went out, and comes in, is as it was -/
theorem there (m : List (Int × Int × Int)) (l : List UInt8) (hok : okM m = true) (hs : okB l = true) (hown : ∀ e ∈ nms (pcs (bd l)), sideZ e.1 e.2 ≠ 3) (h7 : (esB m l).length ≤ 7) :
    mapN (gi (esB m l)) (mapN (fi (esB m l)) (bd l)) = bd l := by
  have hg := esB_good m l hok
  rw [mapN_comp _ _ (fi_any _ hg.len)]
  refine mapN_id _ _ fun e he => gi_fi _ hg e (hown e he) fun hi => ?_
  rcases esB_all m l hok e he hi with q | q
  · exact q
  · omega
theorem tout_len (m : List (Int × Int × Int)) (l : List UInt8) : (tOut m l).1.length ≤ 8 := by
  by_cases h : okM m = true ∧ okB l = true
  · rw [tout_form m l h.1 h.2]
    simp only
    rw [prs_len]
    exact (esB_good m l h.1).len
  · unfold tOut; rw [if_neg h]; exact Nat.zero_le _
end Go.Proofs.YtdggchcapjidjabGreatDoor.Mp

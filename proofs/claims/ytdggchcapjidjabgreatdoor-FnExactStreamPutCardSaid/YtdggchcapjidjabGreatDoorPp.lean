/- Plain facts on parts: what becomes of pieces, one part each. -/
import Derived.Test.YtdggchcapjidjabGreatDoorStA
import Derived.Test.YtdggchcapjidjabGreatDoorMpTs
namespace Go.Proofs.YtdggchcapjidjabGreatDoor.St
open Go.RowKit Go.Proofs.YtdggchcapjidjabGreatDoor.Tx Go.Proofs.YtdggchcapjidjabGreatDoor.Mp
open Go.Proofs.YtdggchcapjidjabGreatDoor.EndW (sideZ)
set_option linter.unusedSimpArgs false
set_option linter.unusedVariables false

theorem ba_ext {a b : ByteArray} (h : a.data.toList = b.data.toList) : a = b := by
  cases a; cases b; simp only at h; congr; exact Array.toList_inj.1 h
/-- as what a piece goes on, either way, and the ends then -/
def goY : Bool → List (Int × Int) → Pc → List UInt8 → List (Int × Int) × List UInt8
  | true, es, p, l => goO es p l
  | false, es, p, l => (es, goI es p l)
/-- a text of its bytes -/
def mkB (l : List UInt8) : ByteArray := ⟨l.toArray⟩
theorem mkB_list (l : List UInt8) : (mkB l).data.toList = l := by simp [mkB]
theorem mkB_of {T : ByteArray} {l : List UInt8} (h : T.data.toList = l) : T = mkB l := ba_ext (h.trans (mkB_list l).symm)
theorem mkB_size (l : List UInt8) : (mkB l).size = l.length := by rw [← lenL, mkB_list]
/-- the parts of pieces, and the ends then -/
def prt (o : Bool) : List (Int × Int) → List Pc → List UInt8 → List (Int × Int) × List (Int × ByteArray)
  | es, [], _ => (es, [])
  | es, p :: ps, l => ((prt o (goY o es p (l.take p.sz)).1 ps (l.drop p.sz)).1, ((p.sz : Int), mkB (goY o es p (l.take p.sz)).2) :: (prt o (goY o es p (l.take p.sz)).1 ps (l.drop p.sz)).2)
theorem szs_cons (p : Pc) (ps : List Pc) : szs (p :: ps) = p.sz + szs ps := by simp [szs]
theorem szs_app (a b : List Pc) : szs (a ++ b) = szs a + szs b := by simp [szs]
theorem prt_app (o : Bool) (es : List (Int × Int)) (a b : List Pc) (l : List UInt8) :
    prt o es (a ++ b) l = ((prt o (prt o es a l).1 b (l.drop (szs a))).1, (prt o es a l).2 ++ (prt o (prt o es a l).1 b (l.drop (szs a))).2) := by
  induction a generalizing es l with
  | nil => simp [prt, szs]
  | cons p a ih =>
    rw [List.cons_append, prt, prt, ih, szs_cons, List.drop_drop]
    simp
theorem prt_snoc (o : Bool) (es : List (Int × Int)) (a : List Pc) (p : Pc) (l : List UInt8) :
    prt o es (a ++ [p]) l = ((goY o (prt o es a l).1 p ((l.drop (szs a)).take p.sz)).1, (prt o es a l).2 ++ [((p.sz : Int), mkB (goY o (prt o es a l).1 p ((l.drop (szs a)).take p.sz)).2)]) := by
  rw [prt_app]; simp [prt]
theorem prt_len (o : Bool) (es : List (Int × Int)) (a : List Pc) (l : List UInt8) : (prt o es a l).2.length = a.length := by
  induction a generalizing es l with
  | nil => rfl
  | cons p a ih => rw [prt, List.length_cons, List.length_cons, ih]
theorem goY_good (o : Bool) (es : List (Int × Int)) (p : Pc) (l : List UInt8) (hg : GoodE es) : GoodE (goY o es p l).1 := by
  cases o
  · exact hg
  · exact goO_good es p l hg
theorem prt_good (o : Bool) (es : List (Int × Int)) (a : List Pc) (l : List UInt8) (hg : GoodE es) : GoodE (prt o es a l).1 := by
  induction a generalizing es l with
  | nil => exact hg
  | cons p a ih => rw [prt]; exact ih _ _ (goY_good o es p _ hg)
theorem goY_pre (o : Bool) (es : List (Int × Int)) (p : Pc) (l : List UInt8) : es <+: (goY o es p l).1 := by
  cases o
  · exact List.prefix_refl _
  · exact goO_pre es p l
theorem prt_pre (o : Bool) (es : List (Int × Int)) (a : List Pc) (l : List UInt8) : es <+: (prt o es a l).1 := by
  induction a generalizing es l with
  | nil => exact List.prefix_refl _
  | cons p a ih => rw [prt]; exact (goY_pre o es p _).trans (ih _ _)
theorem goY_by (o : Bool) (es : List (Int × Int)) (n : Nat) (l : List UInt8) : goY o es ⟨n, false, 0, 0⟩ l = (es, l) := by
  cases o
  · show (es, goI es _ l) = _; unfold goI; rw [if_neg (by rintro ⟨e, _⟩; cases e)]
  · show goO es _ l = _; unfold goO; rw [if_neg (by rintro ⟨e, _⟩; cases e)]
theorem goY_nm (o : Bool) (es : List (Int × Int)) (hg : GoodE es) (e : Int × Int) (h : sideZ e.1 e.2 ≠ 0) (n : Nat) : ∃ f : Int × Int, sideZ f.1 f.2 ≠ 0 ∧ (goY o es ⟨n, true, e.1, e.2⟩ (nmL e)).2 = nmL f := by
  cases o
  · show ∃ f : Int × Int, _ ∧ goI es _ (nmL e) = nmL f
    unfold goI
    split
    · rename_i hc
      refine ⟨_, ?_, rfl⟩
      have := inE_in es hg e.2 hc.2.2
      rw [in_side _ this]; decide
    · exact ⟨e, h, rfl⟩
  · show ∃ f : Int × Int, _ ∧ (goO es _ (nmL e)).2 = nmL f
    unfold goO
    split
    · rename_i hc
      refine ⟨_, ?_, rfl⟩
      obtain ⟨p1, p2, _⟩ := outE_port es _ hg hc.2.2
      rw [door_side _ p1 p2]; decide
    · exact ⟨e, h, rfl⟩
theorem partB_mk (x : Pc) (l : List UInt8) (h0 : l ≠ []) (h6 : l.length ≤ 6) (hb : ∀ c ∈ l, byteB c = true) : partB x ((x.sz : Int), mkB l) = true := by
  unfold partB
  have h1 : (mkB l).toList.isEmpty = false := by
    rw [Go.ByteArray.toList_eq, mkB_list]
    cases l with
    | nil => exact absurd rfl h0
    | cons a l => rfl
  have h2 : okB (mkB l).data.toList = true := by
    rw [mkB_list]; exact ok_good _ (by omega) (List.all_eq_true.2 hb)
  simp [h1, h2, mkB_size, h6]
theorem prt_fit (o : Bool) (r : List UInt8) : (∀ c ∈ r, byteB c = true) → ∀ es, GoodE es → ∀ (t : List UInt8) (i : Nat) (x : Pc) (p : Int × ByteArray), (pcs r)[i]? = some x → (prt o es (pcs r) (r ++ t)).2[i]? = some p → partB x p = true := by
  refine pc_ind (C := fun r => (∀ c ∈ r, byteB c = true) → ∀ es, GoodE es → ∀ (t : List UInt8) (i : Nat) (x : Pc) (p : Int × ByteArray), (pcs r)[i]? = some x → (prt o es (pcs r) (r ++ t)).2[i]? = some p → partB x p = true) ?_ ?_ ?_ r
  · intro _ es _ t i x p hx; rw [pcs_nil] at hx; simp at hx
  · intro b l hn ih hb es hg t i x p hx hp
    rw [pcs_by b l hn] at hx hp
    rw [prt] at hp
    have e1 : ((b :: l) ++ t).take 1 = [b] := rfl
    have e2 : ((b :: l) ++ t).drop 1 = l ++ t := rfl
    simp only [e1, e2, goY_by] at hp
    cases i with
    | zero =>
      simp at hx hp
      subst hx hp
      exact partB_mk ⟨1, false, 0, 0⟩ [b] (by simp) (by simp) (fun c hc => hb c (by simp at hc; simp [hc]))
    | succ i =>
      simp at hx hp
      exact ih (fun c hc => hb c (by simp [hc])) es hg t i x p hx hp
  · intro e l hs ih hb es hg t i x p hx hp
    rw [pcs_nm e hs l] at hx hp
    rw [prt] at hp
    have e1 : (nmL e ++ l ++ t).take (nmL e).length = nmL e := by rw [List.append_assoc, List.take_left]
    have e2 : (nmL e ++ l ++ t).drop (nmL e).length = l ++ t := by rw [List.append_assoc, List.drop_left]
    simp only [e1, e2] at hp
    cases i with
    | zero =>
      simp at hx hp
      subst hx hp
      obtain ⟨f, hf, hq⟩ := goY_nm o es hg e hs (nmL e).length
      rw [hq]
      exact partB_mk ⟨(nmL e).length, true, e.1, e.2⟩ (nmL f) (fun h => by have := nm_pos f; rw [h] at this; simp at this) (by rw [nm_len f hf]; split <;> omega) (nm_bytes f hf)
    | succ i =>
      simp at hx hp
      exact ih (fun c hc => hb c (by simp [hc])) _ (goY_good o es _ _ hg) t i x p hx hp

/-- what is held begins with the last sign that may begin a name -/
theorem held_hp (a b : List UInt8) : heldN (a ++ b) = heldN (hp a ++ b) := by
  have e : a ++ b = bd a ++ (hp a ++ b) := by rw [← List.append_assoc, bd_hp]
  by_cases h0 : heldN a = 0
  · rw [hp_none a h0, List.nil_append, heldN_app, h0]; rfl
  · rcases hp_head a with hh | ⟨x, t, hh, hx⟩
    · have := hp_len a
      rw [hh] at this; simp at this; omega
    · rw [e, heldN_app, hh, List.cons_append, List.foldl_cons, (step1 _ x).2 hx]
      show _ = ((x :: (t ++ b)).foldl stepN 0)
      rw [List.foldl_cons, (step1 _ x).2 hx]
theorem bd_hp_app (a b : List UInt8) : bd (a ++ b) = bd a ++ bd (hp a ++ b) := by
  have e : a ++ b = bd a ++ (hp a ++ b) := by rw [← List.append_assoc, bd_hp]
  have hh := held_hp a b
  have h1 := heldN_len (hp a ++ b)
  show (a ++ b).take ((a ++ b).length - heldN (a ++ b)) = bd a ++ (hp a ++ b).take ((hp a ++ b).length - heldN (hp a ++ b))
  rw [hh, e, List.take_append, List.length_append]
  rw [List.take_of_length_le (by omega)]
  congr 2
  omega
/-- pieces of a longer text: those of its beginning, and those behind -/
theorem pie_split (a b : List UInt8) (h : okB (a ++ b) = true) : pieL (a ++ b) = pieL a ++ pieL (hp a ++ b) ∧ szs (pieL a) = (bd a).length ∧ (a ++ b).drop (szs (pieL a)) = hp a ++ b ∧ okB (hp a ++ b) = true := by
  have ha : okB a = true := by
    obtain ⟨h1, h2⟩ := ok_parts _ h
    exact ok_good _ (by rw [List.length_append] at h1; omega) (List.all_eq_true.2 fun c hc => h2 c (by simp [hc]))
  have hr : okB (hp a ++ b) = true := by
    obtain ⟨h1, h2⟩ := ok_parts _ h
    have hl := hp_len a
    have hl2 := heldN_len a
    refine ok_good _ (by rw [List.length_append] at h1 ⊢; omega) (List.all_eq_true.2 fun c hc => h2 c ?_)
    rcases List.mem_append.1 hc with hc | hc
    · exact List.mem_append.2 (.inl (List.mem_of_mem_drop hc))
    · exact List.mem_append.2 (.inr hc)
  have hz : szs (pieL a) = (bd a).length := by rw [pie_ok _ ha, szs_pcs]
  refine ⟨?_, hz, ?_, hr⟩
  · rw [pie_ok _ h, pie_ok _ ha, pie_ok _ hr, bd_hp_app]
    refine pcs_app _ _ ?_
    by_cases h0 : heldN a = 0
    · have : bd a = a := by
        have := bd_hp a
        rw [hp_none a h0, List.append_nil] at this; exact this
      rw [this]
      exact nc_held a _ h0
    · rcases hp_head a with hh | ⟨x, t, hh, hx⟩
      · have := hp_len a
        rw [hh] at this; simp at this; omega
      · rw [hh]
        show Nc _ ((x :: t ++ b).take _)
        generalize (x :: t ++ b).length - heldN (x :: t ++ b) = N
        cases N with
        | zero => rw [List.take_zero]; exact nc_nil _
        | succ N => rw [List.cons_append, List.take_succ_cons]; exact nc_at _ _ x hx
  · rw [hz]
    have e : a ++ b = bd a ++ (hp a ++ b) := by rw [← List.append_assoc, bd_hp]
    rw [e, List.drop_left]

/-- what StreamPut answers of a map and a stream that are ok -/
noncomputable def putF (o : Bool) (es : List (Int × Int)) (S : ByteArray) (ps : List (Int × ByteArray)) (pos : Int) (T : ByteArray) : List (Int × Int) × ByteArray × List (Int × ByteArray) × Bool :=
  if (S.size : Int) < pos ∨ 40 < pos + (T.size : Int) then (es, S, ps, false)
  else if pos + (T.size : Int) ≤ (S.size : Int) then (es, S, ps, true)
  else ((prt o es (pieL (hp S.data.toList ++ T.data.toList.drop (S.size - pos.toNat))) (hp S.data.toList ++ T.data.toList.drop (S.size - pos.toNat))).1, mkB (S.data.toList ++ T.data.toList.drop (S.size - pos.toNat)), ps ++ (prt o es (pieL (hp S.data.toList ++ T.data.toList.drop (S.size - pos.toNat))) (hp S.data.toList ++ T.data.toList.drop (S.size - pos.toNat))).2, true)
theorem stB_more (o : Bool) {S : ByteArray} {ps : List (Int × ByteArray)} {es : List (Int × Int)} (hg : GoodE es) (h : stB S ps = true) (b : List UInt8) (hok : okB (S.data.toList ++ b) = true) :
    stB (mkB (S.data.toList ++ b)) (ps ++ (prt o es (pieL (hp S.data.toList ++ b)) (hp S.data.toList ++ b)).2) = true := by
  obtain ⟨h1, h2, h3⟩ := stB_parts.1 h
  obtain ⟨q1, q2, q3, q4⟩ := pie_split _ _ hok
  refine stB_parts.2 ⟨by rw [mkB_list]; exact hok, ?_, ?_⟩
  · rw [mkB_list, q1, List.length_append, List.length_append, prt_len, h2]
  · intro i x p hx hp
    rw [mkB_list, q1] at hx
    by_cases hi : i < ps.length
    · rw [List.getElem?_append_left (by omega)] at hx
      rw [List.getElem?_append_left hi] at hp
      exact h3 i x p hx hp
    · rw [List.getElem?_append_right (by omega), h2] at hx
      rw [List.getElem?_append_right (by omega)] at hp
      rw [pie_ok _ q4] at hx hp
      have e : bd (Tx.hp S.data.toList ++ b) ++ Tx.hp (Tx.hp S.data.toList ++ b) = Tx.hp S.data.toList ++ b := bd_hp _
      refine prt_fit o (bd (Tx.hp S.data.toList ++ b)) (fun c hc => (ok_parts _ q4).2 c (by rw [← e]; exact List.mem_append.2 (.inl hc))) es hg (Tx.hp (Tx.hp S.data.toList ++ b)) _ x p hx ?_
      rw [e]; exact hp
end Go.Proofs.YtdggchcapjidjabGreatDoor.St

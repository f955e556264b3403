/- Plain facts on texts: names and pieces. No program is named here but for the ends' sides. -/
import Derived.Test.YtcoengedikcneayDoorTextL
import Derived.Test.YtcoengedikcneayDoorTx
namespace Go.Proofs.YtcoengedikcneayDoor.Tx
open Go.RowKit
open Go.Proofs.YtcoengedikcneayDoor.EndW (sideZ)
open Go.Proofs.YtcoengedikcneayDoor.Text (txtL fig side_bd txtL_inj)

theorem fig_nat (n : Int) (h0 : 0 ≤ n) (h1 : n ≤ 100) : (fig n).toNat = (48 + n).toNat := by
  unfold fig; simp [Nat.toUInt8]; omega

/-- the name of an end -/
def nmL (e : Int × Int) : List UInt8 := 64 :: (txtL e.1 e.2 ++ [59])
/-- a text begins with the name of an end that is any -/
def IsN (l : List UInt8) (e : Int × Int) : Prop := sideZ e.1 e.2 ≠ 0 ∧ nmL e <+: l

/-- the shapes of a name -/
theorem nm_shape (e : Int × Int) (h : sideZ e.1 e.2 ≠ 0) :
    (∃ a b : UInt8, nmL e = [64, a, 58, b, 59] ∧ txtL e.1 e.2 = [a, 58, b] ∧ 49 ≤ a.toNat ∧ a.toNat ≤ 57 ∧ 49 ≤ b.toNat ∧ b.toNat ≤ 57 ∧ e.2 < 10) ∨
    (∃ a b c : UInt8, nmL e = [64, a, 58, b, c, 59] ∧ txtL e.1 e.2 = [a, 58, b, c] ∧ 49 ≤ a.toNat ∧ a.toNat ≤ 57 ∧ 49 ≤ b.toNat ∧ b.toNat ≤ 57 ∧ 48 ≤ c.toNat ∧ c.toNat ≤ 57 ∧ 10 ≤ e.2) := by
  have hb := side_bd e.1 e.2 h
  by_cases hp : e.2 < 10
  · refine .inl ⟨fig e.1, fig e.2, by simp [nmL, txtL, hp], by simp [txtL, hp], ?_⟩
    rw [fig_nat _ (by omega) (by omega), fig_nat _ (by omega) (by omega)]; omega
  · refine .inr ⟨fig e.1, fig (e.2 / 10), fig (e.2 % 10), by simp [nmL, txtL, hp], by simp [txtL, hp], ?_⟩
    rw [fig_nat _ (by omega) (by omega), fig_nat _ (by omega) (by omega), fig_nat _ (by omega) (by omega)]; omega

theorem nm_len (e : Int × Int) (h : sideZ e.1 e.2 ≠ 0) : (nmL e).length = if e.2 < 10 then 5 else 6 := by
  rcases nm_shape e h with ⟨a, b, e1, _, _, _, _, _, hp⟩ | ⟨a, b, c, e1, _, _, _, _, _, _, _, hp⟩
  · rw [e1, if_pos hp]; rfl
  · rw [e1, if_neg (by omega)]; rfl
theorem nm_pos (e : Int × Int) : 1 ≤ (nmL e).length := by simp [nmL]
theorem nm_inj (e f : Int × Int) (h : sideZ e.1 e.2 ≠ 0) (k : sideZ f.1 f.2 ≠ 0) (q : nmL e = nmL f) : e = f := by
  unfold nmL at q
  simp only [List.cons.injEq, true_and] at q
  obtain ⟨q1, _⟩ := List.append_inj' q rfl
  obtain ⟨a, b⟩ := txtL_inj _ _ _ _ h k q1
  exact Prod.ext a b
theorem nm_pre (e f : Int × Int) (h : sideZ e.1 e.2 ≠ 0) (k : sideZ f.1 f.2 ≠ 0) (q : nmL e <+: nmL f) : e = f := by
  apply nm_inj e f h k
  rcases nm_shape e h with ⟨a, b, e1, _, ha, hb, hc, hd, _⟩ | ⟨a, b, c, e1, _, ha, hb, hc, hd, hx, hy, _⟩ <;>
    rcases nm_shape f k with ⟨a', b', e2, _, ha', hb', hc', hd', _⟩ | ⟨a', b', c', e2, _, ha', hb', hc', hd', hx', hy', _⟩
  · rw [e1, e2] at q ⊢; exact q.eq_of_length rfl
  · rw [e1, e2] at q
    simp only [List.cons_prefix_cons, true_and] at q
    have := q.2.2.1
    have h9 : (59 : UInt8).toNat = 59 := rfl
    rw [← this] at hx' hy'; omega
  · rw [e1, e2] at q; exact absurd q.length_le (by simp)
  · rw [e1, e2] at q ⊢; exact q.eq_of_length rfl
theorem isN_uniq (l : List UInt8) (e f : Int × Int) (h : IsN l e) (k : IsN l f) : e = f := by
  rcases List.prefix_or_prefix_of_prefix h.2 k.2 with q | q
  · exact nm_pre e f h.1 k.1 q
  · exact (nm_pre f e k.1 h.1 q).symm

open Classical in
/-- the end whose name a text begins with -/
noncomputable def nameO (l : List UInt8) : Option (Int × Int) := if h : ∃ e, IsN l e then some h.choose else none
theorem nameO_some (l : List UInt8) (e : Int × Int) : nameO l = some e ↔ IsN l e := by
  unfold nameO
  constructor
  · intro h
    split at h
    · next g => simp at h; subst h; exact g.choose_spec
    · cases h
  · intro h
    rw [dif_pos ⟨e, h⟩]
    exact congrArg some (isN_uniq l _ _ (Exists.choose_spec ⟨e, h⟩) h)
theorem nameO_none (l : List UInt8) : nameO l = none ↔ ∀ e, ¬ IsN l e := by
  unfold nameO
  constructor
  · intro h e he
    rw [dif_pos ⟨e, he⟩] at h; cases h
  · intro h
    rw [dif_neg (fun ⟨e, he⟩ => h e he)]

theorem nameO_congr (l m : List UInt8) (h : ∀ e, IsN l e ↔ IsN m e) : nameO l = nameO m := by
  cases q : nameO m with
  | none => exact (nameO_none l).2 fun e he => (nameO_none m).1 q e ((h e).1 he)
  | some e => exact (nameO_some l e).2 ((h e).2 ((nameO_some m e).1 q))

/-- a beginning of a name is held -/
theorem nm_held (e : Int × Int) (h : sideZ e.1 e.2 ≠ 0) (p c d : List UInt8) (hc : c ≠ []) (hd : d ≠ []) (q : c ++ d = nmL e) : heldN (p ++ c) ≠ 0 := by
  have z1 : ∀ st, stepN st 64 = 1 := fun st => (step1 _ _).2 rfl
  rw [heldN_app]
  generalize heldN p = st
  rcases nm_shape e h with ⟨a, b, e1, _, ha, hb, hb1, hb2, _⟩ | ⟨a, b, c1, e1, _, ha, hb, hb1, hb2, hx, hy, _⟩
  · rw [e1] at q
    have s2 : stepN 1 a = 2 := (step2 _ _).2 ⟨rfl, ha, hb⟩
    have s3 : stepN 2 58 = 3 := (step3 _ _).2 ⟨rfl, rfl⟩
    have s4 : stepN 3 b = 4 := (step4 _ _).2 ⟨rfl, hb1, hb2⟩
    match c, hc with
    | [x], _ => simp at q; simp [q.1, z1]
    | [x, y], _ => simp at q; simp [q.1, q.2.1, z1, s2]
    | [x, y, z], _ => simp at q; simp [q.1, q.2.1, q.2.2.1, z1, s2, s3]
    | [x, y, z, u], _ => simp at q; simp [q.1, q.2.1, q.2.2.1, q.2.2.2.1, z1, s2, s3, s4]
    | x :: y :: z :: u :: v :: t, _ =>
      exfalso
      have := congrArg List.length q
      simp only [List.length_append, List.length_cons, List.length_nil] at this
      exact hd (List.length_eq_zero_iff.1 (by omega))
  · rw [e1] at q
    have s2 : stepN 1 a = 2 := (step2 _ _).2 ⟨rfl, ha, hb⟩
    have s3 : stepN 2 58 = 3 := (step3 _ _).2 ⟨rfl, rfl⟩
    have s4 : stepN 3 b = 4 := (step4 _ _).2 ⟨rfl, hb1, hb2⟩
    have s5 : stepN 4 c1 = 5 := (step5 _ _).2 ⟨rfl, hx, hy⟩
    match c, hc with
    | [x], _ => simp at q; simp [q.1, z1]
    | [x, y], _ => simp at q; simp [q.1, q.2.1, z1, s2]
    | [x, y, z], _ => simp at q; simp [q.1, q.2.1, q.2.2.1, z1, s2, s3]
    | [x, y, z, u], _ => simp at q; simp [q.1, q.2.1, q.2.2.1, q.2.2.2.1, z1, s2, s3, s4]
    | [x, y, z, u, v], _ => simp at q; simp [q.1, q.2.1, q.2.2.1, q.2.2.2.1, q.2.2.2.2.1, z1, s2, s3, s4, s5]
    | x :: y :: z :: u :: v :: t :: r, _ =>
      exfalso
      have := congrArg List.length q
      simp only [List.length_append, List.length_cons, List.length_nil] at this
      exact hd (List.length_eq_zero_iff.1 (by omega))

/-- a name has no second '@' -/
theorem nm_tail (e : Int × Int) (h : sideZ e.1 e.2 ≠ 0) (c d : List UInt8) (x : UInt8) (hc : c ≠ []) (q : c ++ x :: d = nmL e) : x.toNat ≠ 64 := by
  cases c with
  | nil => exact absurd rfl hc
  | cons y c =>
    have hm : x ∈ (nmL e).tail := by rw [← q]; simp
    rcases nm_shape e h with ⟨a, b, e1, _, ha, hb, hb1, hb2, _⟩ | ⟨a, b, c1, e1, _, ha, hb, hb1, hb2, hx, hy, _⟩
    · rw [e1] at hm
      simp at hm
      rcases hm with rfl | rfl | rfl | rfl
      · omega
      · decide
      · omega
      · decide
    · rw [e1] at hm
      simp at hm
      rcases hm with rfl | rfl | rfl | rfl | rfl
      · omega
      · decide
      · omega
      · omega
      · decide
theorem nm_bytes (e : Int × Int) (h : sideZ e.1 e.2 ≠ 0) : ∀ c ∈ nmL e, byteB c = true := by
  intro c hc
  rcases nm_shape e h with ⟨a, b, e1, _, ha, hb, hb1, hb2, _⟩ | ⟨a, b, c1, e1, _, ha, hb, hb1, hb2, hx, hy, _⟩
  · rw [e1] at hc
    simp at hc
    rcases hc with rfl | rfl | rfl | rfl | rfl
    all_goals first | decide | (simp only [byteB, decide_eq_true_eq]; omega)
  · rw [e1] at hc
    simp at hc
    rcases hc with rfl | rfl | rfl | rfl | rfl | rfl
    all_goals first | decide | (simp only [byteB, decide_eq_true_eq]; omega)
/-- behind a name nothing is held -/
theorem nm_none (e : Int × Int) (st : Nat) : (nmL e).foldl stepN st = 0 := by
  have z : ∀ st, stepN st 59 = 0 := fun st => by
    have h9 : (59 : UInt8).toNat = 59 := rfl
    unfold stepN; repeat' split
    all_goals omega
  show (64 :: (txtL e.1 e.2 ++ [59])).foldl stepN st = 0
  rw [List.foldl_cons, List.foldl_append]
  exact z _

/-- no name goes from a text on into one behind it -/
def Nc (a b : List UInt8) : Prop := ∀ e, sideZ e.1 e.2 ≠ 0 → ∀ c d, c ≠ [] → d ≠ [] → c ++ d = nmL e → c <:+ a → d <+: b → False
theorem nc_nil (a : List UInt8) : Nc a [] := fun _ _ _ _ _ hd _ _ k => hd (List.prefix_nil.1 k)
theorem nc_at (a b : List UInt8) (x : UInt8) (hx : x.toNat = 64) : Nc a (x :: b) := by
  intro e h c d hc hd q _ k
  cases d with
  | nil => exact hd rfl
  | cons y d =>
    rw [List.cons_prefix_cons] at k
    obtain ⟨rfl, _⟩ := k
    exact nm_tail e h c d y hc q hx
theorem nc_held (a b : List UInt8) (h0 : heldN a = 0) : Nc a b := by
  rintro e h c d hc hd q ⟨p, rfl⟩ _
  exact nm_held e h p c d hc hd q h0
theorem Nc.suffix {a a' b : List UInt8} (h : Nc a b) (k : a' <:+ a) : Nc a' b :=
  fun e he c d hc hd q hs hp => h e he c d hc hd q (hs.trans k) hp

theorem nameO_app (a b : List UInt8) (h : Nc a b) (ha : a ≠ []) : nameO (a ++ b) = nameO a := by
  refine nameO_congr _ _ fun e => ⟨fun g => ⟨g.1, ?_⟩, fun g => ⟨g.1, g.2.trans (List.prefix_append _ _)⟩⟩
  rcases List.prefix_or_prefix_of_prefix g.2 (List.prefix_append a b) with k | k
  · exact k
  · obtain ⟨d, hd⟩ := k
    by_cases h0 : d = []
    · subst h0; rw [List.append_nil] at hd; rw [hd]; exact List.prefix_refl _
    · exfalso
      obtain ⟨t, ht⟩ := g.2
      rw [← hd, List.append_assoc] at ht
      exact h e g.1 a d ha h0 hd (List.suffix_refl _) ⟨t, List.append_cancel_left ht⟩

/-- a piece -/
structure Pc where
  sz : Nat
  nm : Bool
  ad : Int
  po : Int

/-- the pieces of a text, what is held with them -/
noncomputable def pcs (l : List UInt8) : List Pc :=
  if l = [] then [] else
  match nameO l with
  | some e => ⟨(nmL e).length, true, e.1, e.2⟩ :: pcs (l.drop (nmL e).length)
  | none => ⟨1, false, 0, 0⟩ :: pcs (l.drop 1)
termination_by l.length
decreasing_by
  · have h1 := nm_pos e
    have h2 : 0 < l.length := List.length_pos_iff.2 (by assumption)
    rw [List.length_drop]; omega
  · have h2 : 0 < l.length := List.length_pos_iff.2 (by assumption)
    rw [List.length_drop]; omega

theorem pcs_nil : pcs [] = [] := by rw [pcs]; simp
theorem pcs_some (l : List UInt8) (e : Int × Int) (h : nameO l = some e) : pcs l = ⟨(nmL e).length, true, e.1, e.2⟩ :: pcs (l.drop (nmL e).length) := by
  have hl : l ≠ [] := by
    rintro rfl
    have := ((nameO_some _ _).1 h).2
    rw [List.prefix_nil] at this; simp [nmL] at this
  rw [pcs, if_neg hl, h]
theorem pcs_none (l : List UInt8) (hl : l ≠ []) (h : nameO l = none) : pcs l = ⟨1, false, 0, 0⟩ :: pcs (l.drop 1) := by
  rw [pcs, if_neg hl, h]

theorem pcs_app (a b : List UInt8) (h : Nc a b) : pcs (a ++ b) = pcs a ++ pcs b := by
  by_cases ha : a = []
  · subst ha; rw [pcs_nil]; rfl
  · have hn := nameO_app a b h ha
    cases q : nameO a with
    | none =>
      rw [pcs_none a ha q, pcs_none (a ++ b) (by simp [ha]) (hn.trans q)]
      have h1 : 1 ≤ a.length := List.length_pos_iff.2 ha
      rw [List.drop_append_of_le_length h1, pcs_app (a.drop 1) b (h.suffix (List.drop_suffix _ _))]; rfl
    | some e =>
      have hp := ((nameO_some a e).1 q).2.length_le
      rw [pcs_some a e q, pcs_some (a ++ b) e (hn.trans q)]
      have h1 := nm_pos e
      rw [List.drop_append_of_le_length hp, pcs_app (a.drop (nmL e).length) b (h.suffix (List.drop_suffix _ _))]; rfl
termination_by a.length
decreasing_by
  · rw [List.length_drop]; omega
  · rw [List.length_drop]; omega

/-- how long pieces are together -/
def szs (ps : List Pc) : Nat := (ps.map Pc.sz).sum
theorem szs_pcs (l : List UInt8) : szs (pcs l) = l.length := by
  by_cases ha : l = []
  · subst ha; rw [pcs_nil]; rfl
  · cases q : nameO l with
    | none =>
      have h1 : 1 ≤ l.length := List.length_pos_iff.2 ha
      rw [pcs_none l ha q]
      show 1 + szs (pcs (l.drop 1)) = _
      rw [szs_pcs (l.drop 1), List.length_drop]; omega
    | some e =>
      have hp := ((nameO_some l e).1 q).2.length_le
      have h1 := nm_pos e
      rw [pcs_some l e q]
      show (nmL e).length + szs (pcs (l.drop (nmL e).length)) = _
      rw [szs_pcs (l.drop (nmL e).length), List.length_drop]; omega
termination_by l.length
decreasing_by
  · rw [List.length_drop]; omega
  · rw [List.length_drop]; omega

/-- what is not held, and what is -/
def bd (l : List UInt8) : List UInt8 := l.take (l.length - heldN l)
def hp (l : List UInt8) : List UInt8 := l.drop (l.length - heldN l)
theorem bd_hp (l : List UInt8) : bd l ++ hp l = l := List.take_append_drop _ _
theorem bd_len (l : List UInt8) : (bd l).length = l.length - heldN l := by unfold bd; rw [List.length_take]; omega
theorem hp_len (l : List UInt8) : (hp l).length = heldN l := by
  have := heldN_len l
  unfold hp; rw [List.length_drop]; omega
theorem hp_none (l : List UInt8) (h : heldN l = 0) : hp l = [] := List.length_eq_zero_iff.1 ((hp_len l).trans h)
theorem hp_beg (l : List UInt8) (h : heldN l ≠ 0) : begB (hp l) = true :=
  (beg_held l (heldN l) (by omega) (heldN_le l) (heldN_len l)).2 rfl
theorem hp_head (l : List UInt8) : hp l = [] ∨ ∃ x t, hp l = x :: t ∧ x.toNat = 64 := by
  by_cases h : heldN l = 0
  · exact .inl (hp_none l h)
  · have hb := hp_beg l h
    cases q : hp l with
    | nil => exact .inl rfl
    | cons x t =>
      rw [q] at hb
      simp [begB] at hb
      exact .inr ⟨x, t, rfl, hb.2.1⟩
theorem nc_hp (a l : List UInt8) : Nc a (hp l) := by
  rcases hp_head l with h | ⟨x, t, h, hx⟩
  · rw [h]; exact nc_nil a
  · rw [h]; exact nc_at a t x hx

/-- the pieces of a text, but for what is held -/
noncomputable def pieL (l : List UInt8) : List Pc := if okB l = true then pcs (bd l) else []
theorem pie_ok (l : List UInt8) (h : okB l = true) : pieL l = pcs (bd l) := if_pos h
theorem pie_no (l : List UInt8) (h : okB l = false) : pieL l = [] := if_neg (by rw [h]; exact Bool.false_ne_true)
end Go.Proofs.YtcoengedikcneayDoor.Tx

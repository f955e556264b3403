/- Plain facts on texts: what is ok, what is held. No program is named here. -/
import Derived.Test.YtnjggammbebpkaaGreatDoorKit
namespace Go.Proofs.YtnjggammbebpkaaGreatDoor.Tx
open Go.RowKit

/-- a byte that a text may have -/
def byteB (c : UInt8) : Bool := decide (97 ≤ c.toNat ∧ c.toNat ≤ 122 ∨ 48 ≤ c.toNat ∧ c.toNat ≤ 57 ∨ c.toNat = 64 ∨ c.toNat = 58 ∨ c.toNat = 59)
/-- a text that is ok -/
def okB (l : List UInt8) : Bool := decide (l.length ≤ 40) && l.all byteB

theorem lenL (s : ByteArray) : s.data.toList.length = s.size := Array.length_toList
theorem ok_long (s : ByteArray) (h : 40 < s.size) : okB s.data.toList = false := by
  unfold okB; rw [lenL]; simp; omega
theorem ok_bad (l : List UInt8) (k : Nat) (hk : k < l.length) (hb : byteB l[k] = false) : okB l = false := by
  simp only [okB, Bool.and_eq_false_iff]
  refine .inr ?_
  rw [List.all_eq_false]
  exact ⟨_, List.getElem_mem hk, by simp [hb]⟩
theorem ok_good (l : List UInt8) (h : l.length ≤ 40) (ha : l.all byteB = true) : okB l = true := by
  simp only [okB, ha, Bool.and_true, decide_eq_true_eq]; omega
theorem ok_parts (l : List UInt8) (h : okB l = true) : l.length ≤ 40 ∧ ∀ c ∈ l, byteB c = true := by
  simp only [okB, Bool.and_eq_true, decide_eq_true_eq, List.all_eq_true] at h; exact h
/-- bytes of a text up to i are ok -/
theorem all_take (l : List UInt8) (i : Nat) (h : i < l.length) : (l.take (i + 1)).all byteB = ((l.take i).all byteB && byteB l[i]) := by
  rw [List.take_add_one, List.all_append]
  simp [List.getElem?_eq_getElem h]

/-- how many bytes are held behind one more -/
def stepN (st : Nat) (c : UInt8) : Nat :=
  if c.toNat = 64 then 1
  else if st = 1 ∧ 49 ≤ c.toNat ∧ c.toNat ≤ 57 then 2
  else if st = 2 ∧ c.toNat = 58 then 3
  else if st = 3 ∧ 49 ≤ c.toNat ∧ c.toNat ≤ 57 then 4
  else if st = 4 ∧ 48 ≤ c.toNat ∧ c.toNat ≤ 57 then 5
  else 0
/-- how many bytes are held -/
def heldN (l : List UInt8) : Nat := l.foldl stepN 0

theorem stepN_le (st : Nat) (c : UInt8) : stepN st c ≤ 5 := by
  unfold stepN; repeat' split
  all_goals omega
theorem heldN_nil : heldN [] = 0 := rfl
theorem heldN_snoc (l : List UInt8) (c : UInt8) : heldN (l ++ [c]) = stepN (heldN l) c := by simp [heldN]
theorem held_take (l : List UInt8) (i : Nat) (h : i < l.length) : heldN (l.take (i + 1)) = stepN (heldN (l.take i)) l[i] := by
  rw [List.take_add_one, List.getElem?_eq_getElem h]; exact heldN_snoc _ _
theorem heldN_app (l m : List UInt8) : heldN (l ++ m) = m.foldl stepN (heldN l) := by simp [heldN]
theorem fold_le (m : List UInt8) (n : Nat) (h : n ≤ 5) : m.foldl stepN n ≤ 5 := by
  induction m generalizing n with
  | nil => exact h
  | cons a m ih => exact ih _ (stepN_le _ _)
theorem heldN_le (l : List UInt8) : heldN l ≤ 5 := fold_le l 0 (by omega)
theorem step1 (st : Nat) (c : UInt8) : stepN st c = 1 ↔ c.toNat = 64 := by
  unfold stepN; repeat' split
  all_goals omega
theorem step2 (st : Nat) (c : UInt8) : stepN st c = 2 ↔ st = 1 ∧ 49 ≤ c.toNat ∧ c.toNat ≤ 57 := by
  unfold stepN; repeat' split
  all_goals omega
theorem step3 (st : Nat) (c : UInt8) : stepN st c = 3 ↔ st = 2 ∧ c.toNat = 58 := by
  unfold stepN; repeat' split
  all_goals omega
theorem step4 (st : Nat) (c : UInt8) : stepN st c = 4 ↔ st = 3 ∧ 49 ≤ c.toNat ∧ c.toNat ≤ 57 := by
  unfold stepN; repeat' split
  all_goals omega
theorem step5 (st : Nat) (c : UInt8) : stepN st c = 5 ↔ st = 4 ∧ 48 ≤ c.toNat ∧ c.toNat ≤ 57 := by
  unfold stepN; repeat' split
  all_goals omega

theorem snocs (l : List UInt8) : l = [] ∨ ∃ p c, l = p ++ [c] := by
  rcases List.eq_nil_or_concat l with h | ⟨p, c, h⟩
  · exact .inl h
  · exact .inr ⟨p, c, by rw [h, List.concat_eq_append]⟩

/-- the k-th byte from the end is as it must be in what is held -/
theorem held1 (l : List UInt8) : heldN l = 1 ↔ ∃ p a, l = p ++ [a] ∧ a.toNat = 64 := by
  rcases snocs l with rfl | ⟨p, c, rfl⟩
  · simp [heldN]
  · rw [heldN_snoc, step1]
    constructor
    · exact fun h => ⟨p, c, rfl, h⟩
    · rintro ⟨q, d, e, h⟩
      obtain ⟨_, e2⟩ := List.append_inj' e rfl
      simp at e2; subst e2; exact h
theorem held2 (l : List UInt8) : heldN l = 2 ↔ ∃ p a b, l = p ++ [a, b] ∧ a.toNat = 64 ∧ 49 ≤ b.toNat ∧ b.toNat ≤ 57 := by
  rcases snocs l with rfl | ⟨p, c, rfl⟩
  · simp [heldN]
  · rw [heldN_snoc, step2, held1]
    constructor
    · rintro ⟨⟨q, a, rfl, ha⟩, h⟩; exact ⟨q, a, c, by simp, ha, h⟩
    · rintro ⟨q, a, b, e, ha, h⟩
      rw [show q ++ [a, b] = (q ++ [a]) ++ [b] by simp] at e
      obtain ⟨e1, e2⟩ := List.append_inj' e rfl
      simp at e2; subst e2; exact ⟨⟨q, a, e1, ha⟩, h⟩
theorem held3 (l : List UInt8) : heldN l = 3 ↔ ∃ p a b c, l = p ++ [a, b, c] ∧ a.toNat = 64 ∧ (49 ≤ b.toNat ∧ b.toNat ≤ 57) ∧ c.toNat = 58 := by
  rcases snocs l with rfl | ⟨p, z, rfl⟩
  · simp [heldN]
  · rw [heldN_snoc, step3, held2]
    constructor
    · rintro ⟨⟨q, a, b, rfl, ha, hb⟩, h⟩; exact ⟨q, a, b, z, by simp, ha, hb, h⟩
    · rintro ⟨q, a, b, c, e, ha, hb, h⟩
      rw [show q ++ [a, b, c] = (q ++ [a, b]) ++ [c] by simp] at e
      obtain ⟨e1, e2⟩ := List.append_inj' e rfl
      simp at e2; subst e2; exact ⟨⟨q, a, b, e1, ha, hb⟩, h⟩
theorem held4 (l : List UInt8) : heldN l = 4 ↔ ∃ p a b c d, l = p ++ [a, b, c, d] ∧ a.toNat = 64 ∧ (49 ≤ b.toNat ∧ b.toNat ≤ 57) ∧ c.toNat = 58 ∧ (49 ≤ d.toNat ∧ d.toNat ≤ 57) := by
  rcases snocs l with rfl | ⟨p, z, rfl⟩
  · simp [heldN]
  · rw [heldN_snoc, step4, held3]
    constructor
    · rintro ⟨⟨q, a, b, c, rfl, ha, hb, hc⟩, h⟩; exact ⟨q, a, b, c, z, by simp, ha, hb, hc, h⟩
    · rintro ⟨q, a, b, c, d, e, ha, hb, hc, h⟩
      rw [show q ++ [a, b, c, d] = (q ++ [a, b, c]) ++ [d] by simp] at e
      obtain ⟨e1, e2⟩ := List.append_inj' e rfl
      simp at e2; subst e2; exact ⟨⟨q, a, b, c, e1, ha, hb, hc⟩, h⟩
theorem held5 (l : List UInt8) : heldN l = 5 ↔ ∃ p a b c d f, l = p ++ [a, b, c, d, f] ∧ a.toNat = 64 ∧ (49 ≤ b.toNat ∧ b.toNat ≤ 57) ∧ c.toNat = 58 ∧ (49 ≤ d.toNat ∧ d.toNat ≤ 57) ∧ (48 ≤ f.toNat ∧ f.toNat ≤ 57) := by
  rcases snocs l with rfl | ⟨p, z, rfl⟩
  · simp [heldN]
  · rw [heldN_snoc, step5, held4]
    constructor
    · rintro ⟨⟨q, a, b, c, d, rfl, ha, hb, hc, hd⟩, h⟩; exact ⟨q, a, b, c, d, z, by simp, ha, hb, hc, hd, h⟩
    · rintro ⟨q, a, b, c, d, f, e, ha, hb, hc, hd, h⟩
      rw [show q ++ [a, b, c, d, f] = (q ++ [a, b, c, d]) ++ [f] by simp] at e
      obtain ⟨e1, e2⟩ := List.append_inj' e rfl
      simp at e2; subst e2; exact ⟨⟨q, a, b, c, d, e1, ha, hb, hc, hd⟩, h⟩

theorem heldN_len (l : List UInt8) : heldN l ≤ l.length := by
  have h := heldN_le l
  match hn : heldN l, h with
  | 0, _ => omega
  | 1, _ => obtain ⟨p, a, rfl, _⟩ := (held1 l).1 hn; simp
  | 2, _ => obtain ⟨p, a, b, rfl, _⟩ := (held2 l).1 hn; simp
  | 3, _ => obtain ⟨p, a, b, c, rfl, _⟩ := (held3 l).1 hn; simp
  | 4, _ => obtain ⟨p, a, b, c, d, rfl, _⟩ := (held4 l).1 hn; simp
  | 5, _ => obtain ⟨p, a, b, c, d, f, rfl, _⟩ := (held5 l).1 hn; simp

/-- may a text become a name? by what the model asks -/
def begB (s : List UInt8) : Bool :=
  decide (1 ≤ s.length ∧ s.length ≤ 5 ∧ (s.getD 0 0).toNat = 64 ∧ (1 < s.length → 49 ≤ (s.getD 1 0).toNat ∧ (s.getD 1 0).toNat ≤ 57) ∧ (2 < s.length → (s.getD 2 0).toNat = 58)
    ∧ (3 < s.length → 49 ≤ (s.getD 3 0).toNat ∧ (s.getD 3 0).toNat ≤ 57) ∧ (4 < s.length → 48 ≤ (s.getD 4 0).toNat ∧ (s.getD 4 0).toNat ≤ 57))

theorem cut_end (l : List UInt8) (n : Nat) (h : n ≤ l.length) : ∃ p q, l = p ++ q ∧ q.length = n ∧ l.drop (l.length - n) = q :=
  ⟨l.take (l.length - n), l.drop (l.length - n), (List.take_append_drop _ _).symm, by simp; omega, rfl⟩

/-- what is held is the end that may become a name -/
theorem beg_held (l : List UInt8) (n : Nat) (h0 : 1 ≤ n) (h5 : n ≤ 5) (hl : n ≤ l.length) : begB (l.drop (l.length - n)) = true ↔ heldN l = n := by
  obtain ⟨p, q, e, hq, hd⟩ := cut_end l n hl
  rw [hd]
  clear hd hl
  subst e
  match n, q, hq with
  | 1, [a], _ =>
    rw [held1]
    constructor
    · intro h; simp [begB] at h; exact ⟨p, a, rfl, h⟩
    · rintro ⟨p', a', e, h⟩
      obtain ⟨_, e2⟩ := List.append_inj' e rfl
      simp at e2; subst e2; simp [begB]; omega
  | 2, [a, b], _ =>
    rw [held2]
    constructor
    · intro h; simp [begB] at h; exact ⟨p, a, b, rfl, by omega⟩
    · rintro ⟨p', a', b', e, h⟩
      obtain ⟨_, e2⟩ := List.append_inj' e rfl
      simp at e2; obtain ⟨rfl, rfl⟩ := e2; simp [begB]; omega
  | 3, [a, b, c], _ =>
    rw [held3]
    constructor
    · intro h; simp [begB] at h; exact ⟨p, a, b, c, rfl, by omega⟩
    · rintro ⟨p', a', b', c', e, h⟩
      obtain ⟨_, e2⟩ := List.append_inj' e rfl
      simp at e2; obtain ⟨rfl, rfl, rfl⟩ := e2; simp [begB]; omega
  | 4, [a, b, c, d], _ =>
    rw [held4]
    constructor
    · intro h; simp [begB] at h; exact ⟨p, a, b, c, d, rfl, by omega⟩
    · rintro ⟨p', a', b', c', d', e, h⟩
      obtain ⟨_, e2⟩ := List.append_inj' e rfl
      simp at e2; obtain ⟨rfl, rfl, rfl, rfl⟩ := e2; simp [begB]; omega
  | 5, [a, b, c, d, f], _ =>
    rw [held5]
    constructor
    · intro h; simp [begB] at h; exact ⟨p, a, b, c, d, f, rfl, by omega⟩
    · rintro ⟨p', a', b', c', d', f', e, h⟩
      obtain ⟨_, e2⟩ := List.append_inj' e rfl
      simp at e2; obtain ⟨rfl, rfl, rfl, rfl, rfl⟩ := e2; simp [begB]; omega

/-- how many bytes of a text are held, ok or not -/
def hdN (l : List UInt8) : Nat := if okB l = true then heldN l else 0
theorem hd_ok (l : List UInt8) (h : okB l = true) : hdN l = heldN l := if_pos h
theorem hd_no (l : List UInt8) (h : okB l = false) : hdN l = 0 := if_neg (by rw [h]; exact Bool.false_ne_true)
end Go.Proofs.YtnjggammbebpkaaGreatDoor.Tx

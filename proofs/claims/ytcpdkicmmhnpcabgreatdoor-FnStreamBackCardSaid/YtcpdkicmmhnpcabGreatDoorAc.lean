/- Plain facts on how far parts reach, there and back. -/
import Derived.Test.YtcpdkicmmhnpcabGreatDoorStE
import Derived.Test.YtcpdkicmmhnpcabGreatDoorLzP
namespace Go.Proofs.YtcpdkicmmhnpcabGreatDoor.St
open Go.RowKit Go.Proofs.YtcpdkicmmhnpcabGreatDoor.Tx Go.Proofs.YtcpdkicmmhnpcabGreatDoor.Nm
set_option linter.unusedSimpArgs false
set_option linter.unusedVariables false

/-- how long parts are together -/
def sm (f : (Int × ByteArray) → Int) : List (Int × ByteArray) → Int
  | [] => 0
  | p :: ps => f p + sm f ps
theorem sm_app (f : (Int × ByteArray) → Int) (a b : List (Int × ByteArray)) : sm f (a ++ b) = sm f a + sm f b := by
  induction a with
  | nil => simp [sm]
  | cons p a ih => simp only [List.cons_append, sm, ih]; omega
theorem sm_nonneg (f : (Int × ByteArray) → Int) (ps : List (Int × ByteArray)) (h : ∀ p ∈ ps, 1 ≤ f p) : 0 ≤ sm f ps := by
  induction ps with
  | nil => exact Int.le_refl _
  | cons p ps ih =>
    have := h p (by simp)
    have := ih fun q hq => h q (by simp [hq])
    simp only [sm]; omega
theorem sm_take (f : (Int × ByteArray) → Int) (ps : List (Int × ByteArray)) (k : Nat) (p : Int × ByteArray) (hp : ps[k]? = some p) : sm f (ps.take (k + 1)) = sm f (ps.take k) + f p := by
  rw [List.take_add_one, hp, sm_app]; simp [sm]
theorem sm_mono (f : (Int × ByteArray) → Int) (ps : List (Int × ByteArray)) (h : ∀ p ∈ ps, 1 ≤ f p) (j k : Nat) (hjk : j ≤ k) : sm f (ps.take j) ≤ sm f (ps.take k) := by
  have e : ps.take k = ps.take j ++ (ps.take k).drop j := by
    have := List.take_append_drop j (ps.take k)
    rw [List.take_take, Nat.min_eq_left hjk] at this
    exact this.symm
  rw [e, sm_app]
  have := sm_nonneg f ((ps.take k).drop j) fun q hq => h q (List.mem_of_mem_take (List.mem_of_mem_drop hq))
  omega
theorem sm_le (f : (Int × ByteArray) → Int) (ps : List (Int × ByteArray)) (h : ∀ p ∈ ps, 1 ≤ f p) (k : Nat) : sm f (ps.take k) ≤ sm f ps := by
  have e := List.take_append_drop k ps
  have := sm_nonneg f (ps.drop k) fun q hq => h q (List.mem_of_mem_drop hq)
  have s := sm_app f (ps.take k) (ps.drop k)
  rw [e] at s; omega

section
variable {h t : (Int × ByteArray) → Int}
theorem acr_at (ps : List (Int × ByteArray)) (hpos : ∀ p ∈ ps, 1 ≤ h p) : ∀ (k : Nat) (n : Int), sm h (ps.take k) ≤ n → (∀ p, ps[k]? = some p → n < sm h (ps.take k) + h p) → acr h t ps n = sm t (ps.take k) := by
  induction ps with
  | nil => intro k n _ _; simp [acr, sm]
  | cons p ps ih =>
    intro k n h1 h2
    cases k with
    | zero =>
      have := h2 p rfl
      simp only [List.take_zero, sm] at this ⊢
      rw [acr, if_neg (by omega)]
    | succ k =>
      simp only [List.take_succ_cons, sm] at h1 ⊢
      have h0 := sm_nonneg h (ps.take k) fun q hq => hpos q (by simp [List.mem_of_mem_take hq])
      rw [acr, if_pos (by omega), ih (fun q hq => hpos q (by simp [hq])) k (n - h p) (by omega) (fun q hq => by
        have := h2 q (by simpa using hq)
        simp only [List.take_succ_cons, sm] at this; omega)]
theorem acr_ex (ps : List (Int × ByteArray)) (n : Int) (h0 : 0 ≤ n) : ∃ k, k ≤ ps.length ∧ sm h (ps.take k) ≤ n ∧ ∀ p, ps[k]? = some p → n < sm h (ps.take k) + h p := by
  induction ps generalizing n with
  | nil => exact ⟨0, Nat.le_refl _, h0, fun p hp => by simp at hp⟩
  | cons p ps ih =>
    by_cases hp : h p ≤ n
    · obtain ⟨k, k1, k2, k3⟩ := ih (n - h p) (by omega)
      refine ⟨k + 1, by simp; omega, by simp only [List.take_succ_cons, sm]; omega, fun q hq => ?_⟩
      have := k3 q (by simpa using hq)
      simp only [List.take_succ_cons, sm]; omega
    · exact ⟨0, Nat.zero_le _, h0, fun q hq => by simp at hq; subst hq; simp [sm]; omega⟩
/-- the place that so many bytes reach -/
theorem acr_k (ps : List (Int × ByteArray)) (hpos : ∀ p ∈ ps, 1 ≤ h p) (n : Int) (h0 : 0 ≤ n) : ∃ k, k ≤ ps.length ∧ acr h t ps n = sm t (ps.take k) ∧ sm h (ps.take k) ≤ n ∧ ∀ p, ps[k]? = some p → n < sm h (ps.take k) + h p := by
  obtain ⟨k, k1, k2, k3⟩ := acr_ex (h := h) ps n h0
  exact ⟨k, k1, acr_at ps hpos k n k2 k3, k2, k3⟩
theorem acr_full (ps : List (Int × ByteArray)) (hpos : ∀ p ∈ ps, 1 ≤ h p) (n : Int) (hn : sm h ps ≤ n) : acr h t ps n = sm t ps := by
  have := acr_at (t := t) ps hpos ps.length n (by rw [List.take_length]; exact hn) (fun p hp => by rw [List.getElem?_eq_none (Nat.le_refl _)] at hp; cases hp)
  rwa [List.take_length] at this
theorem acr_part (ps : List (Int × ByteArray)) (hpos : ∀ p ∈ ps, 1 ≤ h p) (k : Nat) : acr h t ps (sm h (ps.take k)) = sm t (ps.take k) :=
  acr_at ps hpos k _ (Int.le_refl _) fun p hp => by have := hpos p (List.mem_of_getElem? hp); omega
theorem acr_zero (ps : List (Int × ByteArray)) (hpos : ∀ p ∈ ps, 1 ≤ h p) : acr h t ps 0 = 0 := acr_part ps hpos 0
theorem acr_mono (ps : List (Int × ByteArray)) (hpos : ∀ p ∈ ps, 1 ≤ h p) (tpos : ∀ p ∈ ps, 1 ≤ t p) (m n : Int) (h0 : 0 ≤ m) (hmn : m ≤ n) : acr h t ps m ≤ acr h t ps n := by
  obtain ⟨j, j1, j2, j3, j4⟩ := acr_k (t := t) ps hpos m h0
  obtain ⟨k, k1, k2, k3, k4⟩ := acr_k (t := t) ps hpos n (by omega)
  rw [j2, k2]
  refine sm_mono t ps tpos j k ?_
  rcases Nat.lt_or_ge k j with hkj | hkj
  · exfalso
    have hp : ps[k]? = some (ps[k]'(by omega)) := List.getElem?_eq_getElem (by omega)
    have h1 := k4 _ hp
    have h2 := sm_take h ps k _ hp
    have h3 := sm_mono h ps hpos (k + 1) j hkj
    omega
  · exact hkj
theorem acr_le (ps : List (Int × ByteArray)) (hpos : ∀ p ∈ ps, 1 ≤ h p) (tpos : ∀ p ∈ ps, 1 ≤ t p) (n : Int) (h0 : 0 ≤ n) : 0 ≤ acr h t ps n ∧ acr h t ps n ≤ sm t ps := by
  obtain ⟨k, k1, k2, k3, k4⟩ := acr_k (t := t) ps hpos n h0
  rw [k2]
  exact ⟨sm_nonneg t _ fun q hq => tpos q (List.mem_of_mem_take hq), sm_le t ps tpos k⟩
end

/-- the bytes that came, and those that went on, of an ok stream -/
theorem sm_in {S : ByteArray} {ps : List (Int × ByteArray)} (h : stB S ps = true) : sm (sideH true) ps = (S.size : Int) - (heldN S.data.toList : Int) := by
  obtain ⟨hok, hlen, hall⟩ := stB_parts.1 h
  have hz := (LzP.len_pie _ hok).2
  rw [lenL] at hz
  have hh := heldN_len S.data.toList
  rw [lenL] at hh
  have key : ∀ (xs : List Pc) (qs : List (Int × ByteArray)), xs.length = qs.length → (∀ (i : Nat) (x : Pc) (p : Int × ByteArray), xs[i]? = some x → qs[i]? = some p → p.1 = (x.sz : Int)) → sm (sideH true) qs = (szs xs : Int) := by
    intro xs
    induction xs with
    | nil => intro qs hl _; obtain rfl : qs = [] := List.length_eq_zero_iff.1 hl.symm; rfl
    | cons x xs ih =>
      intro qs hl hq
      cases qs with
      | nil => simp at hl
      | cons q qs =>
        have h1 : q.1 = (x.sz : Int) := hq 0 x q rfl rfl
        have h2 := ih qs (by simpa using hl) fun i y p hy hp => hq (i + 1) y p (by simpa using hy) (by simpa using hp)
        have h3 : szs (x :: xs) = x.sz + szs xs := by simp [szs]
        show q.1 + sm (sideH true) qs = _
        rw [h3, h1, h2]; omega
  rw [key _ _ hlen fun i x p hx hp => by
    have := hall i x p hx hp
    simp only [partB, Bool.and_eq_true, decide_eq_true_eq] at this
    exact this.1.1.1, hz]
  omega
theorem sm_out (ps : List (Int × ByteArray)) : sm (sideH false) ps = ((txW ps).size : Int) := by
  have key : ∀ (qs : List (Int × ByteArray)) (a : ByteArray), ((qs.foldl (fun a p => a ++ p.2) a).size : Int) = (a.size : Int) + sm (sideH false) qs := by
    intro qs
    induction qs with
    | nil => intro a; simp [sm]
    | cons q qs ih =>
      intro a
      rw [List.foldl_cons, ih, ByteArray.size_append]
      show _ = (a.size : Int) + (((q.2.size : Nat) : Int) + sm (sideH false) qs)
      omega
  have := key ps ByteArray.empty
  have e : ByteArray.empty.size = 0 := rfl
  rw [show txW ps = ps.foldl (fun a p => a ++ p.2) ByteArray.empty from rfl, this, e]; omega
theorem in_pos {ps : List (Int × ByteArray)} (h : Small ps) : ∀ p ∈ ps, 1 ≤ sideH true p := fun p hp => (side_small h true p hp).1
theorem out_pos {ps : List (Int × ByteArray)} (h : Small ps) : ∀ p ∈ ps, 1 ≤ sideH false p := fun p hp => (side_small h false p hp).1
end Go.Proofs.YtcpdkicmmhnpcabGreatDoor.St

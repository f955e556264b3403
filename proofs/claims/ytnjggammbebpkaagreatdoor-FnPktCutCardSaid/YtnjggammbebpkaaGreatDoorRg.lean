/- A region that draws its order, by what holds between two of its operations. No program is named here. -/
import Derived.Test.YtnjggammbebpkaaGreatDoorApp
namespace Go.Proofs.YtnjggammbebpkaaGreatDoor.Rg
open Go.RowKit Go.Shelf
set_option linter.unusedVariables false

theorem count_lt (l : List Nat) (p q : Nat → Bool) (h : ∀ j, q j = true → p j = true) (i : Nat) (hi : i ∈ l) (hp : p i = true) (hq : q i = false) : l.countP q < l.countP p := by
  induction l with
  | nil => cases hi
  | cons x l ih =>
    have hle : l.countP q ≤ l.countP p := List.countP_mono_left (fun j _ hj => h j hj)
    rcases List.mem_cons.1 hi with rfl | hi
    · rw [List.countP_cons_of_neg (by rw [hq]; exact Bool.false_ne_true), List.countP_cons_of_pos hp]; omega
    · have := ih hi
      by_cases hx : q x = true
      · rw [List.countP_cons_of_pos hx, List.countP_cons_of_pos (h x hx)]; omega
      · rw [List.countP_cons_of_neg hx]
        have : l.countP p ≤ (x :: l).countP p := by rw [List.countP_cons]; omega
        omega

section
variable {F : Fence} {n : Nat} {P : Program} {md : Region.Mode} {ops : Array Oper} {Q : Exit → Act → World → Prop}

/-- operations that are not listed yet -/
def left (ops : Array Oper) (l : Array Bool) : Nat := (List.range ops.size).countP fun j => !l.getD j true

theorem all_listed {l : Array Bool} (hs : l.size = ops.size) (hlow : ∀ (i : Nat) (o : Oper), ops[i]? = some o → ∀ e ∈ o.after, e.on < i) (hr : Region.ready md ops l = []) : ∀ i, i < ops.size → l.getD i false = true := by
  intro i
  induction i using Nat.strongRecOn with
  | _ i ih =>
    intro hi
    cases hb : l.getD i false
    · exfalso
      have hin : i ∈ Region.ready md ops l := by
        refine mem_ready.2 ⟨?_, ops[i], Array.getElem?_eq_getElem hi, fun e he _ => ?_⟩
        · rw [Array.getD, dif_pos (by omega)] at hb ⊢; exact hb
        · have hlt := hlow i _ (Array.getElem?_eq_getElem hi) e he
          exact ih e.on hlt (by omega)
      rw [hr] at hin; cases hin
    · rfl

theorem any_inv (I : Array Bool → Act → World → Prop) (hsz : ∀ l a w, I l a w → l.size = ops.size) (hlow : ∀ (i : Nat) (o : Oper), ops[i]? = some o → ∀ e ∈ o.after, e.on < i)
    (hstep : ∀ l a w i, I l a w → i ∈ Region.ready md ops l → wpOpIn F n P ops Q i (fun a' w' => I (l.setIfInBounds i true) a' w') a w)
    (hdone : ∀ l a w, I l a w → (∀ j, j < ops.size → l.getD j false = true) → Q .normal a w) :
    ∀ (fuel : Nat) (l : Array Bool) (a : Act) (w : World), I l a w → left ops l ≤ fuel → wpAnyIn F n P md ops Q fuel l a w := by
  intro fuel
  induction fuel with
  | zero =>
    intro l a w hI hl
    have hr : Region.ready md ops l = [] := by
      rw [List.eq_nil_iff_forall_not_mem]
      intro i hi
      have h1 := (mem_ready.1 hi).1
      have h2 : i < ops.size := by
        obtain ⟨_, o, ho, _⟩ := mem_ready.1 hi
        exact (Array.getElem?_eq_some_iff.1 ho).1
      have : 0 < left ops l := List.countP_pos_iff.2 ⟨i, List.mem_range.2 h2, by simp [h1]⟩
      omega
    exact ⟨hr, hdone l a w hI (all_listed (hsz l a w hI) hlow hr)⟩
  | succ fuel ih =>
    intro l a w hI hl
    refine ⟨fun hr => hdone l a w hI (all_listed (hsz l a w hI) hlow hr), fun i hi => wpOpIn_mono (fun a' w' h => ih _ a' w' h ?_) (hstep l a w i hI hi)⟩
    have h1 := (mem_ready.1 hi).1
    have h2 : i < ops.size := by
      obtain ⟨_, o, ho, _⟩ := mem_ready.1 hi
      exact (Array.getElem?_eq_some_iff.1 ho).1
    have hsl := hsz l a w hI
    have := count_lt (List.range ops.size) (fun j => !l.getD j true) (fun j => !(l.setIfInBounds i true).getD j true) (fun j hj => by
      by_cases e : i = j
      · subst e
        rw [Array.getD, dif_pos (by rw [Array.size_setIfInBounds]; omega)] at hj
        simp at hj
      · rwa [getD_set_ne true e] at hj) i (List.mem_range.2 h2) (by simp [h1]) (by
        rw [Array.getD, dif_pos (by rw [Array.size_setIfInBounds]; omega)]
        simp)
    unfold left at hl ⊢
    omega
theorem left_all (ops : Array Oper) : left ops (Array.replicate ops.size false) ≤ ops.size := by
  unfold left
  exact Nat.le_trans List.countP_le_length (by simp)
end

/-- operations wait for earlier ones alone -/
def lowB (ops : Array Oper) : Bool := (List.range ops.size).all fun i => match ops[i]? with | some o => o.after.all (fun e => decide (e.on < i)) | none => true
theorem low_of {ops : Array Oper} (h : lowB ops = true) : ∀ (i : Nat) (o : Oper), ops[i]? = some o → ∀ e ∈ o.after, e.on < i := by
  intro i o ho e he
  have hi : i < ops.size := (Array.getElem?_eq_some_iff.1 ho).1
  have h1 := List.all_eq_true.1 h i (List.mem_range.2 hi)
  simp only [ho] at h1
  have h2 : (fun e : Edge => decide (e.on < i)) e = true := Array.all_eq_true_iff_forall_mem.1 h1 e he
  simpa using h2

/-- what is listed so far, behind one more -/
theorem set_same {l : Array Bool} {i : Nat} (h : i < l.size) : (l.setIfInBounds i true).getD i false = true := by
  rw [Array.getD, dif_pos (by rw [Array.size_setIfInBounds]; exact h)]; simp
theorem not_listed {l : Array Bool} {i : Nat} (h : l.getD i true = false) : l.getD i false = false := by
  unfold Array.getD at h ⊢
  split at h
  · next q => rw [dif_pos q]; exact h
  · cases h
/-- values of what is listed -/
def Vals (l : Array Bool) (V t : Nat → Value) : Prop := ∀ j, l.getD j false = true → t j = V j
theorem Vals.put {l : Array Bool} {V t : Nat → Value} (h : Vals l V t) (i : Nat) (v : Value) (hv : v = V i) : Vals (l.setIfInBounds i true) V (fun j => if j = i then v else t j) := by
  intro j hj
  by_cases e : j = i
  · subst e; simp [hv]
  · simp only [if_neg e]
    rw [getD_set_ne false (fun q => e q.symm)] at hj
    exact h j hj
theorem rep_none (n j : Nat) : (Array.replicate n false).getD j false = false := by
  unfold Array.getD; split <;> simp
theorem vals_none (n : Nat) (V t : Nat → Value) : Vals (Array.replicate n false) V t := fun j hj => by rw [rep_none] at hj; cases hj
/-- an operation that neither calls nor stores -/
theorem other {l : Array Bool} {i : Nat} {D : Bool → Bool → World → Prop} {w : World} (h10 : i ≠ 10) (h12 : i ≠ 12) (q12 : l.getD 12 false = false) (hw : D (l.getD 10 false) (l.getD 12 false) w) :
    ((l.setIfInBounds i true).getD 12 false = true → ∀ j, j < 12 → (l.setIfInBounds i true).getD j false = true) ∧ D ((l.setIfInBounds i true).getD 10 false) ((l.setIfInBounds i true).getD 12 false) w := by
  rw [getD_set_ne false h10, getD_set_ne false h12]
  exact ⟨fun h => (by rw [q12] at h; cases h), hw⟩
end Go.Proofs.YtnjggammbebpkaaGreatDoor.Rg

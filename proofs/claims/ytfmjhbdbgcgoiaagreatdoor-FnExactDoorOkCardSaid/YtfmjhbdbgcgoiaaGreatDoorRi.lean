/- A region that draws its order, by what holds between two of its operations: without a fence, and what is listed is closed. No program is named here. -/
import Derived.Test.YtfmjhbdbgcgoiaaGreatDoorSqRg
namespace Go.Proofs.YtfmjhbdbgcgoiaaGreatDoor.Ri
open Go.RowKit Go.Shelf
set_option linter.unusedVariables false

/-- what is listed has all listed that it waits for -/
def Closed (md : Region.Mode) (ops : Array Oper) (l : Array Bool) : Prop := ∀ j oj, ops[j]? = some oj → l.getD j false = true → ∀ e ∈ oj.after, Region.binds md e = true → l.getD e.on false = true
theorem closed_none (md : Region.Mode) (ops : Array Oper) (n : Nat) : Closed md ops (Array.replicate n false) := fun j oj _ h => by rw [Rg.rep_none] at h; cases h
theorem Closed.put {md : Region.Mode} {ops : Array Oper} {l : Array Bool} (h : Closed md ops l) {i : Nat} (hi : i ∈ Region.ready md ops l) : Closed md ops (l.setIfInBounds i true) := by
  obtain ⟨h0, oi, hoi, hall⟩ := mem_ready.1 hi
  intro j oj hj hl e he hb
  have key : l.getD e.on false = true := by
    by_cases hij : i = j
    · subst hij
      rw [hoi] at hj
      obtain rfl := Option.some.inj hj
      exact hall e he hb
    · rw [getD_set_ne false hij] at hl
      exact h j oj hj hl e he hb
  by_cases hie : i = e.on
  · rw [← hie] at key
    have hz : i < l.size := by
      rcases Nat.lt_or_ge i l.size with q | q
      · exact q
      · rw [Array.getD, dif_neg (by omega)] at key; cases key
    rw [← hie]; exact Rg.set_same hz
  · rw [getD_set_ne false hie]; exact key

/-- what an operation waits for, through others -/
def reach (md : Region.Mode) (ops : Array Oper) : Nat → Nat → Nat → Bool
  | 0, j, i => j == i
  | f + 1, j, i => j == i || match ops[j]? with
    | some o => o.after.any fun e => Region.binds md e && reach md ops f e.on i
    | none => false
theorem reach_sound {md : Region.Mode} {ops : Array Oper} {l : Array Bool} (h : Closed md ops l) : ∀ (f j i : Nat), reach md ops f j i = true → l.getD j false = true → l.getD i false = true := by
  intro f
  induction f with
  | zero =>
    intro j i hr hl
    simp only [reach, beq_iff_eq] at hr
    subst hr; exact hl
  | succ f ih =>
    intro j i hr hl
    simp only [reach, Bool.or_eq_true, beq_iff_eq] at hr
    rcases hr with rfl | hr
    · exact hl
    · cases ho : ops[j]? with
      | none => rw [ho] at hr; cases hr
      | some o =>
        rw [ho] at hr
        obtain ⟨e, he, hb⟩ := Array.any_eq_true'.1 hr
        simp only [Bool.and_eq_true] at hb
        exact ih e.on i hb.2 (h j o ho hl e he hb.1)
theorem up_of {md : Region.Mode} {ops : Array Oper} {n m : Nat} (hB : ((List.range m).all fun i => reach md ops 10 n i) = true) {l : Array Bool} (h : Closed md ops l) (hl : l.getD n false = true) : ∀ j, j < m → l.getD j false = true :=
  fun j hj => reach_sound h 10 n j (List.all_eq_true.1 hB j (List.mem_range.2 hj)) hl
theorem down_of {md : Region.Mode} {ops : Array Oper} {n m k : Nat} (hB : ((List.range k).all fun i => reach md ops 10 (m + i) n) = true) {l : Array Bool} (h : Closed md ops l) : ∀ j, m ≤ j → j < m + k → l.getD j false = true → l.getD n false = true :=
  fun j h1 h2 hl => reach_sound h 10 j n (by have := List.all_eq_true.1 hB (j - m) (List.mem_range.2 (by omega)); rwa [show m + (j - m) = j by omega] at this) hl

section
variable {P : Program} {md : Region.Mode} {ops : Array Oper} {Q : Exit → Act → World → Prop}
theorem all_listed {l : Array Bool} (hs : l.size = ops.size) (hlow : ∀ (i : Nat) (o : Oper), ops[i]? = some o → ∀ e ∈ o.after, Region.binds md e = true → e.on < i) (hr : Region.ready md ops l = []) : ∀ i, i < ops.size → l.getD i false = true := by
  intro i
  induction i using Nat.strongRecOn with
  | _ i ih =>
    intro hi
    cases hb : l.getD i false
    · exfalso
      have hin : i ∈ Region.ready md ops l := by
        refine mem_ready.2 ⟨?_, ops[i], Array.getElem?_eq_getElem hi, fun e he hbd => ?_⟩
        · rw [Array.getD, dif_pos (by omega)] at hb ⊢; exact hb
        · have hlt := hlow i _ (Array.getElem?_eq_getElem hi) e he hbd
          exact ih e.on hlt (by omega)
      rw [hr] at hin; cases hin
    · rfl
theorem any_inv (I : Array Bool → Act → World → Prop) (hsz : ∀ l a w, I l a w → l.size = ops.size) (hlow : ∀ (i : Nat) (o : Oper), ops[i]? = some o → ∀ e ∈ o.after, Region.binds md e = true → e.on < i)
    (hstep : ∀ l a w i, I l a w → Closed md ops l → i ∈ Region.ready md ops l → wpOp P ops Q i (fun a' w' => I (l.setIfInBounds i true) a' w') a w)
    (hdone : ∀ l a w, I l a w → (∀ j, j < ops.size → l.getD j false = true) → Q .normal a w) :
    ∀ (fuel : Nat) (l : Array Bool) (a : Act) (w : World), I l a w → Closed md ops l → Rg.left ops l ≤ fuel → wpAny P md ops Q fuel l a w := by
  intro fuel
  induction fuel with
  | zero =>
    intro l a w hI hc hl
    have hr : Region.ready md ops l = [] := by
      rw [List.eq_nil_iff_forall_not_mem]
      intro i hi
      have h1 := (mem_ready.1 hi).1
      have h2 : i < ops.size := by
        obtain ⟨_, o, ho, _⟩ := mem_ready.1 hi
        exact (Array.getElem?_eq_some_iff.1 ho).1
      have : 0 < Rg.left ops l := List.countP_pos_iff.2 ⟨i, List.mem_range.2 h2, by simp [h1]⟩
      omega
    exact ⟨hr, hdone l a w hI (all_listed (hsz l a w hI) hlow hr)⟩
  | succ fuel ih =>
    intro l a w hI hc hl
    refine ⟨fun hr => hdone l a w hI (all_listed (hsz l a w hI) hlow hr), fun i hi => wpOp_mono (fun a' w' h => ih _ a' w' h (hc.put hi) ?_) (hstep l a w i hI hc hi)⟩
    have h1 := (mem_ready.1 hi).1
    have h2 : i < ops.size := by
      obtain ⟨_, o, ho, _⟩ := mem_ready.1 hi
      exact (Array.getElem?_eq_some_iff.1 ho).1
    have hsl := hsz l a w hI
    have := Rg.count_lt (List.range ops.size) (fun j => !l.getD j true) (fun j => !(l.setIfInBounds i true).getD j true) (fun j hj => by
      by_cases e : i = j
      · subst e
        rw [Array.getD, dif_pos (by rw [Array.size_setIfInBounds]; omega)] at hj
        simp at hj
      · rwa [getD_set_ne true e] at hj) i (List.mem_range.2 h2) (by simp [h1]) (by
        rw [Array.getD, dif_pos (by rw [Array.size_setIfInBounds]; omega)]
        simp)
    unfold Rg.left at hl ⊢
    omega
end
/-- operations wait for earlier ones alone -/
def lowB (md : Region.Mode) (ops : Array Oper) : Bool := (List.range ops.size).all fun i => match ops[i]? with | some o => o.after.all (fun e => !Region.binds md e || decide (e.on < i)) | none => true
theorem low_of {md : Region.Mode} {ops : Array Oper} (h : lowB md ops = true) : ∀ (i : Nat) (o : Oper), ops[i]? = some o → ∀ e ∈ o.after, Region.binds md e = true → e.on < i := by
  intro i o ho e he hb
  have hi : i < ops.size := (Array.getElem?_eq_some_iff.1 ho).1
  have h1 := List.all_eq_true.1 h i (List.mem_range.2 hi)
  simp only [ho] at h1
  have h2 : (fun e : Edge => !Region.binds md e || decide (e.on < i)) e = true := Array.all_eq_true_iff_forall_mem.1 h1 e he
  simpa [hb] using h2
/-- the world ahead of a call, behind it, behind a store -/
def PhP (F : Prop) (w0 w8 wS : World) : Bool → Bool → World → Prop
  | false, _, w => w = w0
  | true, false, w => F ∧ w = w8
  | true, true, w => F ∧ w = wS
/-- the world ahead of a call, and behind it -/
def Ph1 (F : World → Prop) (w0 : World) : Bool → World → Prop
  | false, w => w = w0
  | true, w => F w
end Go.Proofs.YtfmjhbdbgcgoiaaGreatDoor.Ri

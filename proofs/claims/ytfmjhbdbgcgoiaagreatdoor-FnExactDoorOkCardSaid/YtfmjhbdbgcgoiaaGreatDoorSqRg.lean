/- A range over an iterator that tells a known list: the body is asked of the next element alone. Over the kit's laws on the loop's record; no program is named here. -/
import Derived.Test.YtfmjhbdbgcgoiaaGreatDoorApp
namespace Go.Proofs.YtfmjhbdbgcgoiaaGreatDoor.Sq
open Go.RowKit Go.Shelf
set_option linter.unusedVariables false

/-- what abides new memory, and what turns behind B that holds no cells, or is the box of a number -/
def OwnC {β : Type} (B : Nat) (I : β → World → Prop) : Prop :=
  ∀ s W W' row, I s W → W.grownBy W' row → (∀ r, row = some r → B ≤ r ∧ ∃ o : Obj, W.heap[r]? = some o ∧ (o.isCells = false ∨ ∃ cs f, o = .cells cs 3 f)) → I s W'
theorem ownC_from {β : Type} {B : Nat} {I : β → World → Prop} (h : OwnC B I) : OwnFrom B I :=
  fun s W W' row hs hg hr => h s W W' row hs hg fun r e => by
    obtain ⟨hB, o, ho, hc⟩ := hr r e
    exact ⟨hB, o, ho, .inl hc⟩
theorem ownC_below {β : Type} {B : Nat} {I : β → World → Prop} (h : OwnC B I) {s : β} {W W' : World} (hs : I s W) (k : Below W.heap.size W W') : I s W' :=
  h s W W' none hs ⟨k.os, k.tape, k.output, k.size, fun i hi _ => k.block i hi⟩ (fun r e => by cases e)

/-- an iterator that tells the list xs, whatever is done with its elements that keeps K -/
def SeqL {α : Type} (n : Nat) (P : Program) (g : Nat) (lb : Array Value) (encs : α → Array Value) (K : World → World → Prop) (xs : List α) (w0 : World) : Prop :=
  ∀ (l : Nat) (J : List α → World → Prop) (W : World), Below w0.heap.size w0 W → OwnC W.heap.size J →
    (∀ pre x W1, pre ++ [x] <+: xs → J pre W1 → YieldAt Fence.wide (n - 1) P l (encs x) W1 fun e W' => e = .returned (.bool true) ∧ J (pre ++ [x]) W' ∧ K W1 W' ∧ KeepsFrom W.heap.size W1 W') →
    J [] W → CallsIn Fence.wide n P g (#[.func (.yield l) #[] #[]] ++ lb) W fun e W' => (∃ v, e = .returned v) ∧ J xs W'

/-- what a body leaves that goes through -/
def Thru (B : Nat) (K : World → World → Prop) (I : World → Prop) (W : World) : Exit → Act → World → Prop
  | .normal, _, W' => KeepsFrom B W W' ∧ K W W' ∧ I W'
  | _, _, _ => False

theorem keepsFrom_up {B B' : Nat} {W W' : World} (h : KeepsFrom B W W') (hB : B ≤ B') : KeepsFrom B' W W' := ⟨h.size, fun k o hk ho hc => h.same k o (by omega) ho hc⟩
theorem keepsFrom_put {B l : Nat} (W : World) (o' : Obj) (hl : l < B) : KeepsFrom B W (W.putObj l o') := ⟨by simp, fun k o hk ho _ => (World.putObj_heap_other (by omega)).trans ho⟩

theorem range_list {α : Type} {n : Nat} {P : Program} {g : Operand} {ps : Array Tmp} {assign body : Code} {Q : Exit → Act → World → Prop} {a : Act} {w : World} (h1 : 1 ≤ n)
    {gf : Nat} {lb : Array Value} (hg : a.eval g = .func (.func gf) #[] lb) (eg : ∀ args w, (callFunc gf args).run P w = .ok (.enter gf args) w)
    {encs : α → Array Value} {K : World → World → Prop} {xs : List α} {w0 : World} (hseq : SeqL (n - 1) P gf lb encs K xs w0)
    (hKt : ∀ {A B C : World}, K A B → K B C → K A C) (hKb : ∀ (W : World) (l : Nat) (o o' : Obj), w.heap.size ≤ l → W.heap[l]? = some o → o.isCells = false → K W (W.putObj l o'))
    (hb0 : Below w0.heap.size w0 w) (hps : ∀ x, (encs x).size = ps.size)
    (I : List α → World → Prop) (hIC : OwnC w.heap.size I) (h0 : I [] w) (Ax : α → Act → World → Prop) (hAx : ∀ x a', OwnFrom w.heap.size (fun (_ : Unit) W => Ax x a' W))
    (hassign : ∀ (l : Nat) (pre : List α) (x : α) (W : World) (C : Act → World → Prop), pre ++ [x] <+: xs → I pre W → (∀ a' W', KeepsFrom w.heap.size W W' → K W W' → I pre W' → Ax x a' W' → C a' W') →
      assign.wpIn (Fence.wide.inRound l) (n - 1 - 1) P (Exit.then C (fun _ _ _ => False)) { tmps := (ps.zip (encs x)).foldl (fun t (p, v) => t.setIfInBounds p v) a.tmps, defers := [] } W)
    (hbody : ∀ (l : Nat) (pre : List α) (x : α) (a' : Act) (W : World), pre ++ [x] <+: xs → w.heap.size ≤ l → I pre W → Ax x a' W → body.wpIn (Fence.wide.inRound l) (n - 1 - 1) P (Thru w.heap.size K (I (pre ++ [x])) W) a' W)
    (hdone : ∀ (D : Nat) (W : World), w.heap.size ≤ D → I xs W → W.heap[D]? = some (.deferred (some [])) → Q .normal { a with defers := { target := .collected D, args := #[] } :: a.defers } W) :
    (Code.rangeFunc g ps assign body).wpIn Fence.wide n P Q a w := by
  have hI := ownC_from hIC
  have z1 : (w.alloc (.deferred (some []))).heap.size = w.heap.size + 1 := by simp
  refine wpIn_rangeFunc fun fn hfn => ?_
  -- the loop's record, by its state
  let R : LoopState → Loop := fun st => { state := st, pending := none, fn, tmps := a.tmps, params := ps, assign, body, defers := w.heap.size }
  let W1 := (w.alloc (.deferred (some []))).alloc (.loop (R .ready))
  have hI1 : I [] W1 := hI.alloc _ (hI.alloc _ h0)
  have hK1 : W1.heap[w.heap.size]? = some (.deferred (some [])) := (Below.heap_alloc _ _ _ (by simp)).trans (World.alloc_heap_new w _)
  have hL1 : W1.heap[w.heap.size + 1]? = some (.loop (R .ready)) := by
    have := World.alloc_heap_new (w.alloc (.deferred (some []))) (.loop (R .ready))
    rwa [z1] at this
  have hz1 : W1.heap.size = w.heap.size + 1 + 1 := by simp [W1]
  have hb1 : Below w0.heap.size w0 W1 := hb0.trans ((((Below.refl _ w).alloc (Nat.le_refl _) _).alloc (by simp) _).mono hb0.size)
  refine ⟨w.heap.size + 1, [{ target := .collected w.heap.size, args := #[] }], W1, { target := .fn (.func gf) lb, args := #[.func (.yield (w.heap.size + 1)) #[] #[]] }, W1, gf, #[.func (.yield (w.heap.size + 1)) #[] #[]] ++ lb, W1, run_enterLoop_outer _ _ _ _ _, ?_, fun f' _ => trivial, ?_, fun _ => h1, ?_⟩
  · simp only [resolve, hg]; simp [go_sem]
  · simp [invoke, go_sem, eg]
  · refine (hseq (w.heap.size + 1) (fun pre W => I pre W ∧ W.heap[w.heap.size + 1]? = some (.loop (R .ready)) ∧ W.heap[w.heap.size]? = some (.deferred (some []))) W1 hb1 ?_ ?_ ⟨hI1, hL1, hK1⟩).mono ?_
    · rintro s A B row ⟨i1, i2, i3⟩ hgr hr
      refine ⟨hIC s A B row i1 hgr fun r e => ?_, (hgr.block _ (Array.getElem?_eq_some_iff.1 i2).1 fun e => by have := (hr _ e.symm).1; omega).trans i2, (hgr.block _ (Array.getElem?_eq_some_iff.1 i3).1 fun e => by have := (hr _ e.symm).1; omega).trans i3⟩
      obtain ⟨hB, o, ho, hw⟩ := hr r e
      exact ⟨by omega, o, ho, hw⟩
    · rintro pre x W hpre ⟨i1, i2, i3⟩
      refine ⟨fn, _, assign, body, run_yield (P := P) (args := encs x) i2 (hps x), roundIn_of_wpIn hfn (hassign _ pre x W _ hpre i1 ?_)⟩
      intro a' V kf kk j1 ax
      have j2 := kf.same _ _ (by omega) i2 rfl
      have j3 := kf.same _ _ (Nat.le_refl _) i3 rfl
      have hlt : w.heap.size + 1 < V.heap.size := (Array.getElem?_eq_some_iff.1 j2).1
      refine ⟨_, run_beginRound j2 rfl, ?_⟩
      have m2 : (V.putObj (w.heap.size + 1) (.loop { R .ready with state := .busy })).heap[w.heap.size + 1]? = some (.loop { R .ready with state := .busy }) := World.putObj_heap_same hlt
      have m3 : (V.putObj (w.heap.size + 1) (.loop { R .ready with state := .busy })).heap[w.heap.size]? = some (.deferred (some [])) := (World.putObj_heap_other (by omega)).trans j3
      have mk : K V (V.putObj (w.heap.size + 1) (.loop { R .ready with state := .busy })) := hKb _ _ _ _ (by omega) j2 rfl
      refine wpIn_mono (hbody _ pre x a' _ hpre (by omega) (hI.putObj _ j1 (by omega) j2 rfl) ((hAx x a').putObj (s := ()) _ ax (by omega) j2 rfl)) ?_
      rintro e a3 U hp
      cases e with
      | normal =>
        obtain ⟨uf, uk, ui⟩ := hp
        have u2 := uf.same _ _ (by omega) m2 rfl
        have u3 := uf.same _ _ (Nat.le_refl _) m3 rfl
        refine ⟨_, _, run_endRound (P := P) none u2, rfl, ⟨hI.putObj _ ui (by omega) u2 rfl, World.putObj_heap_same (Array.getElem?_eq_some_iff.1 u2).1, (World.putObj_heap_other (by omega)).trans u3⟩, hKt kk (hKt (hKt mk uk) (hKb _ _ _ _ (by omega) u2 rfl)), ?_⟩
        rw [hz1]
        exact (((keepsFrom_up kf (by omega)).trans (keepsFrom_put _ _ (by omega))).trans (keepsFrom_up uf (by omega))).trans (keepsFrom_put _ _ (by omega))
      | ret => exact hp.elim
      | exit id => exact hp.elim
      | goto t => exact hp.elim
      | panic ch => exact hp.elim
      | outgrown => exact hp.elim
    · rintro e W2 ⟨⟨v, rfl⟩, i1, i2, i3⟩
      exact ⟨none, _, run_endLoop (P := P) i2 (by simp [R]), hdone _ _ (Nat.le_refl _) (hI.putObj _ i1 (by omega) i2 rfl) ((World.putObj_heap_other (by omega)).trans i3)⟩
/-- what abides more abides less -/
theorem ownFrom_abides {β : Type} {B : Nat} {J : β → World → Prop} (h : OwnFrom B J) : AbidesFrom B J :=
  fun s W W' row hs hg hr => h s W W' row hs hg fun r e => by
    obtain ⟨hB, o, ho, hw⟩ := hr r e
    exact ⟨hB, o, ho, Obj.not_cells_of_walk hw⟩
/-- in the wide fence the depth does not count -/
theorem yieldAt_any {n n' : Nat} {P : Program} {l : Nat} {args : Array Value} {W : World} {R : Ending → World → Prop} (h : YieldAt Fence.wide n P l args W R) : YieldAt Fence.wide n' P l args W R := by
  obtain ⟨fn, tmps, assign, body, hy, h1, h2⟩ := h
  exact ⟨fn, tmps, assign, body, hy, h1, fun c cs _ => h2 c cs (room_wide _)⟩
end Go.Proofs.YtfmjhbdbgcgoiaaGreatDoor.Sq

/- A region that draws its order, by what holds between two of its operations. No program is named here. -/
namespace Go.Proofs.YtfmjhbdbgcgoiaaGreatDoor.Rg
open Go.RowKit Go.Shelf
set_option linter.unusedVariables false

theorem count_lt (l : List Nat) (p q : Nat → Bool) (h : ∀ j, q j = true → p j = true) (i : Nat) (hi : i ∈ l) (hp : p i = true) (hq : q i = false) : l.countP q < l.countP p := by
  induction l with
  | nil => cases hi
  | cons x l ih =>
    have hle : l.countP q ≤ l.countP p := List.countP_mono_left (fun j _ hj => h j hj)
    rcases List.mem_cons.1 hi with rfl | hi
    · rw [List.countP_cons_of_neg (by rw [hq]; exact Bool.false_ne_true), List.countP_cons_of_pos hp]; omega
    · have := ih hi
      by_cases hx : q x = true
      · rw [List.countP_cons_of_pos hx, List.countP_cons_of_pos (h x hx)]; omega
      · rw [List.countP_cons_of_neg hx]
        have : l.countP p ≤ (x :: l).countP p := by rw [List.countP_cons]; omega
        omega

section
variable {F : Fence} {n : Nat} {P : Program} {md : Region.Mode} {ops : Array Oper} {Q : Exit → Act → World → Prop}

/-- operations that are not listed yet -/
def left (ops : Array Oper) (l : Array Bool) : Nat := (List.range ops.size).countP fun j => !l.getD j true

theorem all_listed {l : Array Bool} (hs : l.size = ops.size) (hlow : ∀ (i : Nat) (o : Oper), ops[i]? = some o → ∀ e ∈ o.after, e.on < i) (hr : Region.ready md ops l = []) : ∀ i, i < ops.size → l.getD i false = true := by
  intro i
  induction i using Nat.strongRecOn with
  | _ i ih =>
    intro hi
    cases hb : l.getD i false
    · exfalso
      have hin : i ∈ Region.ready md ops l := by
        refine mem_ready.2 ⟨?_, ops[i], Array.getElem?_eq_getElem hi, fun e he _ => ?_⟩
        · rw [Array.getD, dif_pos (by omega)] at hb ⊢; exact hb
        · have hlt := hlow i _ (Array.getElem?_eq_getElem hi) e he
          exact ih e.on hlt (by omega)
      rw [hr] at hin; cases hin
    · rfl

theorem any_inv (I : Array Bool → Act → World → Prop) (hsz : ∀ l a w, I l a w → l.size = ops.size) (hlow : ∀ (i : Nat) (o : Oper), ops[i]? = some o → ∀ e ∈ o.after, e.on < i)
    (hstep : ∀ l a w i, I l a w → i ∈ Region.ready md ops l → wpOpIn F n P ops Q i (fun a' w' => I (l.setIfInBounds i true) a' w') a w)
    (hdone : ∀ l a w, I l a w → (∀ j, j < ops.size → l.getD j false = true) → Q .normal a w) :
    ∀ (fuel : Nat) (l : Array Bool) (a : Act) (w : World), I l a w → left ops l ≤ fuel → wpAnyIn F n P md ops Q fuel l a w := by
  intro fuel
  induction fuel with
  | zero =>
    intro l a w hI hl
    have hr : Region.ready md ops l = [] := by
      rw [List.eq_nil_iff_forall_not_mem]
      intro i hi
      have h1 := (mem_ready.1 hi).1
      have h2 : i < ops.size := by
        obtain ⟨_, o, ho, _⟩ := mem_ready.1 hi
        exact (Array.getElem?_eq_some_iff.1 ho).1
      have : 0 < left ops l := List.countP_pos_iff.2 ⟨i, List.mem_range.2 h2, by simp [h1]⟩
      omega
    exact ⟨hr, hdone l a w hI (all_listed (hsz l a w hI) hlow hr)⟩
  | succ fuel ih =>
    intro l a w hI hl
    refine ⟨fun hr => hdone l a w hI (all_listed (hsz l a w hI) hlow hr), fun i hi => wpOpIn_mono (fun a' w' h => ih _ a' w' h ?_) (hstep l a w i hI hi)⟩
    have h1 := (mem_ready.1 hi).1
    have h2 : i < ops.size := by
      obtain ⟨_, o, ho, _⟩ := mem_ready.1 hi
      exact (Array.getElem?_eq_some_iff.1 ho).1
    have hsl := hsz l a w hI
    have := count_lt (List.range ops.size) (fun j => !l.getD j true) (fun j => !(l.setIfInBounds i true).getD j true) (fun j hj => by
      by_cases e : i = j
      · subst e
        rw [Array.getD, dif_pos (by rw [Array.size_setIfInBounds]; omega)] at hj
        simp at hj
      · rwa [getD_set_ne true e] at hj) i (List.mem_range.2 h2) (by simp [h1]) (by
        rw [Array.getD, dif_pos (by rw [Array.size_setIfInBounds]; omega)]
        simp)
    unfold left at hl ⊢
    omega
theorem left_all (ops : Array Oper) : left ops (Array.replicate ops.size false) ≤ ops.size := by
  unfold left
  exact Nat.le_trans List.countP_le_length (by simp)
end

/-- operations wait for earlier ones alone -/
def lowB (ops : Array Oper) : Bool := (List.range ops.size).all fun i => match ops[i]? with | some o => o.after.all (fun e => decide (e.on < i)) | none => true
theorem low_of {ops : Array Oper} (h : lowB ops = true) : ∀ (i : Nat) (o : Oper), ops[i]? = some o → ∀ e ∈ o.after, e.on < i := by
  intro i o ho e he
  have hi : i < ops.size := (Array.getElem?_eq_some_iff.1 ho).1
  have h1 := List.all_eq_true.1 h i (List.mem_range.2 hi)
  simp only [ho] at h1
  have h2 : (fun e : Edge => decide (e.on < i)) e = true := Array.all_eq_true_iff_forall_mem.1 h1 e he
  simpa using h2

/-- what is listed so far, behind one more -/
theorem set_same {l : Array Bool} {i : Nat} (h : i < l.size) : (l.setIfInBounds i true).getD i false = true := by
  rw [Array.getD, dif_pos (by rw [Array.size_setIfInBounds]; exact h)]; simp
theorem not_listed {l : Array Bool} {i : Nat} (h : l.getD i true = false) : l.getD i false = false := by
  unfold Array.getD at h ⊢
  split at h
  · next q => rw [dif_pos q]; exact h
  · cases h
/-- values of what is listed -/
def Vals (l : Array Bool) (V t : Nat → Value) : Prop := ∀ j, l.getD j false = true → t j = V j
theorem Vals.put {l : Array Bool} {V t : Nat → Value} (h : Vals l V t) (i : Nat) (v : Value) (hv : v = V i) : Vals (l.setIfInBounds i true) V (fun j => if j = i then v else t j) := by
  intro j hj
  by_cases e : j = i
  · subst e; simp [hv]
  · simp only [if_neg e]
    rw [getD_set_ne false (fun q => e q.symm)] at hj
    exact h j hj
theorem rep_none (n j : Nat) : (Array.replicate n false).getD j false = false := by
  unfold Array.getD; split <;> simp
theorem vals_none (n : Nat) (V t : Nat → Value) : Vals (Array.replicate n false) V t := fun j hj => by rw [rep_none] at hj; cases hj
/-- an operation that neither calls nor stores -/
theorem other {l : Array Bool} {i : Nat} {D : Bool → Bool → World → Prop} {w : World} (h10 : i ≠ 10) (h12 : i ≠ 12) (q12 : l.getD 12 false = false) (hw : D (l.getD 10 false) (l.getD 12 false) w) :
    ((l.setIfInBounds i true).getD 12 false = true → ∀ j, j < 12 → (l.setIfInBounds i true).getD j false = true) ∧ D ((l.setIfInBounds i true).getD 10 false) ((l.setIfInBounds i true).getD 12 false) w := by
  rw [getD_set_ne false h10, getD_set_ne false h12]
  exact ⟨fun h => (by rw [q12] at h; cases h), hw⟩
end Go.Proofs.YtfmjhbdbgcgoiaaGreatDoor.Rg

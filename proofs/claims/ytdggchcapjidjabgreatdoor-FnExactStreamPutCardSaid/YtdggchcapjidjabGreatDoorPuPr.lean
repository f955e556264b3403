/- Plain facts on how far parts reach, there and back. -/
import Derived.Test.YtdggchcapjidjabGreatDoorStCE
import Derived.Test.YtdggchcapjidjabGreatDoorLzP
import Derived.Test.YtdggchcapjidjabGreatDoorPp
import Derived.Test.YtdggchcapjidjabGreatDoorWaWh
import Derived.Test.YtdggchcapjidjabGreatDoorRi
import Derived.Test.YtdggchcapjidjabGreatDoorMlMi
import Derived.Test.YtdggchcapjidjabGreatDoorSsT
import Derived.Deep.Cut
import Derived.Deep.RegionWith
namespace Go.Proofs.YtdggchcapjidjabGreatDoor.St
open Go.RowKit Go.Proofs.YtdggchcapjidjabGreatDoor.Tx Go.Proofs.YtdggchcapjidjabGreatDoor.Nm
set_option linter.unusedSimpArgs false
set_option linter.unusedVariables false

/-- how long parts are together -/
def sm (f : (Int × ByteArray) → Int) : List (Int × ByteArray) → Int
  | [] => 0
  | p :: ps => f p + sm f ps
theorem sm_app (f : (Int × ByteArray) → Int) (a b : List (Int × ByteArray)) : sm f (a ++ b) = sm f a + sm f b := by
  induction a with
  | nil => simp [sm]
  | cons p a ih => simp only [List.cons_append, sm, ih]; omega
theorem sm_nonneg (f : (Int × ByteArray) → Int) (ps : List (Int × ByteArray)) (h : ∀ p ∈ ps, 1 ≤ f p) : 0 ≤ sm f ps := by
  induction ps with
  | nil => exact Int.le_refl _
  | cons p ps ih =>
    have := h p (by simp)
    have := ih fun q hq => h q (by simp [hq])
    simp only [sm]; omega
theorem sm_take (f : (Int × ByteArray) → Int) (ps : List (Int × ByteArray)) (k : Nat) (p : Int × ByteArray) (hp : ps[k]? = some p) : sm f (ps.take (k + 1)) = sm f (ps.take k) + f p := by
  rw [List.take_add_one, hp, sm_app]; simp [sm]
theorem sm_mono (f : (Int × ByteArray) → Int) (ps : List (Int × ByteArray)) (h : ∀ p ∈ ps, 1 ≤ f p) (j k : Nat) (hjk : j ≤ k) : sm f (ps.take j) ≤ sm f (ps.take k) := by
  have e : ps.take k = ps.take j ++ (ps.take k).drop j := by
    have := List.take_append_drop j (ps.take k)
    rw [List.take_take, Nat.min_eq_left hjk] at this
    exact this.symm
  rw [e, sm_app]
  have := sm_nonneg f ((ps.take k).drop j) fun q hq => h q (List.mem_of_mem_take (List.mem_of_mem_drop hq))
  omega
theorem sm_le (f : (Int × ByteArray) → Int) (ps : List (Int × ByteArray)) (h : ∀ p ∈ ps, 1 ≤ f p) (k : Nat) : sm f (ps.take k) ≤ sm f ps := by
  have e := List.take_append_drop k ps
  have := sm_nonneg f (ps.drop k) fun q hq => h q (List.mem_of_mem_drop hq)
  have s := sm_app f (ps.take k) (ps.drop k)
  rw [e] at s; omega

section
variable {h t : (Int × ByteArray) → Int}
theorem acr_at (ps : List (Int × ByteArray)) (hpos : ∀ p ∈ ps, 1 ≤ h p) : ∀ (k : Nat) (n : Int), sm h (ps.take k) ≤ n → (∀ p, ps[k]? = some p → n < sm h (ps.take k) + h p) → acr h t ps n = sm t (ps.take k) := by
  induction ps with
  | nil => intro k n _ _; simp [acr, sm]
  | cons p ps ih =>
    intro k n h1 h2
    cases k with
    | zero =>
      have := h2 p rfl
      simp only [List.take_zero, sm] at this ⊢
      rw [acr, if_neg (by omega)]
    | succ k =>
      simp only [List.take_succ_cons, sm] at h1 ⊢
      have h0 := sm_nonneg h (ps.take k) fun q hq => hpos q (by simp [List.mem_of_mem_take hq])
      rw [acr, if_pos (by omega), ih (fun q hq => hpos q (by simp [hq])) k (n - h p) (by omega) (fun q hq => by
        have := h2 q (by simpa using hq)
        simp only [List.take_succ_cons, sm] at this; omega)]
theorem acr_ex (ps : List (Int × ByteArray)) (n : Int) (h0 : 0 ≤ n) : ∃ k, k ≤ ps.length ∧ sm h (ps.take k) ≤ n ∧ ∀ p, ps[k]? = some p → n < sm h (ps.take k) + h p := by
  induction ps generalizing n with
  | nil => exact ⟨0, Nat.le_refl _, h0, fun p hp => by simp at hp⟩
  | cons p ps ih =>
    by_cases hp : h p ≤ n
    · obtain ⟨k, k1, k2, k3⟩ := ih (n - h p) (by omega)
      refine ⟨k + 1, by simp; omega, by simp only [List.take_succ_cons, sm]; omega, fun q hq => ?_⟩
      have := k3 q (by simpa using hq)
      simp only [List.take_succ_cons, sm]; omega
    · exact ⟨0, Nat.zero_le _, h0, fun q hq => by simp at hq; subst hq; simp [sm]; omega⟩
/-- the place that so many bytes reach -/
theorem acr_k (ps : List (Int × ByteArray)) (hpos : ∀ p ∈ ps, 1 ≤ h p) (n : Int) (h0 : 0 ≤ n) : ∃ k, k ≤ ps.length ∧ acr h t ps n = sm t (ps.take k) ∧ sm h (ps.take k) ≤ n ∧ ∀ p, ps[k]? = some p → n < sm h (ps.take k) + h p := by
  obtain ⟨k, k1, k2, k3⟩ := acr_ex (h := h) ps n h0
  exact ⟨k, k1, acr_at ps hpos k n k2 k3, k2, k3⟩
theorem acr_full (ps : List (Int × ByteArray)) (hpos : ∀ p ∈ ps, 1 ≤ h p) (n : Int) (hn : sm h ps ≤ n) : acr h t ps n = sm t ps := by
  have := acr_at (t := t) ps hpos ps.length n (by rw [List.take_length]; exact hn) (fun p hp => by rw [List.getElem?_eq_none (Nat.le_refl _)] at hp; cases hp)
  rwa [List.take_length] at this
theorem acr_part (ps : List (Int × ByteArray)) (hpos : ∀ p ∈ ps, 1 ≤ h p) (k : Nat) : acr h t ps (sm h (ps.take k)) = sm t (ps.take k) :=
  acr_at ps hpos k _ (Int.le_refl _) fun p hp => by have := hpos p (List.mem_of_getElem? hp); omega
theorem acr_zero (ps : List (Int × ByteArray)) (hpos : ∀ p ∈ ps, 1 ≤ h p) : acr h t ps 0 = 0 := acr_part ps hpos 0
theorem acr_mono (ps : List (Int × ByteArray)) (hpos : ∀ p ∈ ps, 1 ≤ h p) (tpos : ∀ p ∈ ps, 1 ≤ t p) (m n : Int) (h0 : 0 ≤ m) (hmn : m ≤ n) : acr h t ps m ≤ acr h t ps n := by
  obtain ⟨j, j1, j2, j3, j4⟩ := acr_k (t := t) ps hpos m h0
  obtain ⟨k, k1, k2, k3, k4⟩ := acr_k (t := t) ps hpos n (by omega)
  rw [j2, k2]
  refine sm_mono t ps tpos j k ?_
  rcases Nat.lt_or_ge k j with hkj | hkj
  · exfalso
    have hp : ps[k]? = some (ps[k]'(by omega)) := List.getElem?_eq_getElem (by omega)
    have h1 := k4 _ hp
    have h2 := sm_take h ps k _ hp
    have h3 := sm_mono h ps hpos (k + 1) j hkj
    omega
  · exact hkj
theorem acr_le (ps : List (Int × ByteArray)) (hpos : ∀ p ∈ ps, 1 ≤ h p) (tpos : ∀ p ∈ ps, 1 ≤ t p) (n : Int) (h0 : 0 ≤ n) : 0 ≤ acr h t ps n ∧ acr h t ps n ≤ sm t ps := by
  obtain ⟨k, k1, k2, k3, k4⟩ := acr_k (t := t) ps hpos n h0
  rw [k2]
  exact ⟨sm_nonneg t _ fun q hq => tpos q (List.mem_of_mem_take hq), sm_le t ps tpos k⟩
end

/-- the bytes that came, and those that went on, of an ok stream -/
theorem sm_in {S : ByteArray} {ps : List (Int × ByteArray)} (h : stB S ps = true) : sm (sideH true) ps = (S.size : Int) - (heldN S.data.toList : Int) := by
  obtain ⟨hok, hlen, hall⟩ := stB_parts.1 h
  have hz := (LzP.len_pie _ hok).2
  rw [lenL] at hz
  have hh := heldN_len S.data.toList
  rw [lenL] at hh
  have key : ∀ (xs : List Pc) (qs : List (Int × ByteArray)), xs.length = qs.length → (∀ (i : Nat) (x : Pc) (p : Int × ByteArray), xs[i]? = some x → qs[i]? = some p → p.1 = (x.sz : Int)) → sm (sideH true) qs = (szs xs : Int) := by
    intro xs
    induction xs with
    | nil => intro qs hl _; obtain rfl : qs = [] := List.length_eq_zero_iff.1 hl.symm; rfl
    | cons x xs ih =>
      intro qs hl hq
      cases qs with
      | nil => simp at hl
      | cons q qs =>
        have h1 : q.1 = (x.sz : Int) := hq 0 x q rfl rfl
        have h2 := ih qs (by simpa using hl) fun i y p hy hp => hq (i + 1) y p (by simpa using hy) (by simpa using hp)
        have h3 : szs (x :: xs) = x.sz + szs xs := by simp [szs]
        show q.1 + sm (sideH true) qs = _
        rw [h3, h1, h2]; omega
  rw [key _ _ hlen fun i x p hx hp => by
    have := hall i x p hx hp
    simp only [partB, Bool.and_eq_true, decide_eq_true_eq] at this
    exact this.1.1.1, hz]
  omega
theorem sm_out (ps : List (Int × ByteArray)) : sm (sideH false) ps = ((txW ps).size : Int) := by
  have key : ∀ (qs : List (Int × ByteArray)) (a : ByteArray), ((qs.foldl (fun a p => a ++ p.2) a).size : Int) = (a.size : Int) + sm (sideH false) qs := by
    intro qs
    induction qs with
    | nil => intro a; simp [sm]
    | cons q qs ih =>
      intro a
      rw [List.foldl_cons, ih, ByteArray.size_append]
      show _ = (a.size : Int) + (((q.2.size : Nat) : Int) + sm (sideH false) qs)
      omega
  have := key ps ByteArray.empty
  have e : ByteArray.empty.size = 0 := rfl
  rw [show txW ps = ps.foldl (fun a p => a ++ p.2) ByteArray.empty from rfl, this, e]; omega
theorem in_pos {ps : List (Int × ByteArray)} (h : Small ps) : ∀ p ∈ ps, 1 ≤ sideH true p := fun p hp => (side_small h true p hp).1
theorem out_pos {ps : List (Int × ByteArray)} (h : Small ps) : ∀ p ∈ ps, 1 ≤ sideH false p := fun p hp => (side_small h false p hp).1
end Go.Proofs.YtdggchcapjidjabGreatDoor.St

/- Plain facts on parts: what StreamPut answers, in one form. -/
namespace Go.Proofs.YtdggchcapjidjabGreatDoor.St
open Go.RowKit Go.Proofs.YtdggchcapjidjabGreatDoor.Tx Go.Proofs.YtdggchcapjidjabGreatDoor.Mp
set_option linter.unusedSimpArgs false
set_option linter.unusedVariables false

/-- what is held has no pieces -/
theorem pie_hp (l : List UInt8) (h : okB l = true) : pieL (hp l) = [] := by
  obtain ⟨q1, _, _, _⟩ := pie_split l [] (by rw [List.append_nil]; exact h)
  rw [List.append_nil, List.append_nil] at q1
  have := congrArg List.length q1
  rw [List.length_append] at this
  exact List.length_eq_zero_iff.1 (by omega)
theorem prt_nil (o : Bool) (es : List (Int × Int)) (l : List UInt8) : prt o es [] l = (es, []) := rfl
theorem mkB_self (S : ByteArray) : mkB S.data.toList = S := (mkB_of rfl).symm
theorem putF_all (o : Bool) (es : List (Int × Int)) (S : ByteArray) (ps : List (Int × ByteArray)) (q : Nat) (T : ByteArray) (K : Nat) (hst : stB S ps = true) (h1 : q ≤ S.size) (h2 : q + T.size ≤ 40) (hK : K = min (S.size - q) T.size) :
    putF o es S ps (q : Nat) T = ((prt o es (pieL (hp S.data.toList ++ T.data.toList.drop K)) (hp S.data.toList ++ T.data.toList.drop K)).1, mkB (S.data.toList ++ T.data.toList.drop K), ps ++ (prt o es (pieL (hp S.data.toList ++ T.data.toList.drop K)) (hp S.data.toList ++ T.data.toList.drop K)).2, true) := by
  obtain ⟨hSok, _, _⟩ := stB_parts.1 hst
  unfold putF
  rw [if_neg (by omega)]
  by_cases hle : q + T.size ≤ S.size
  · rw [if_pos (by omega)]
    have hd : T.data.toList.drop K = [] := List.drop_of_length_le (by rw [lenL]; omega)
    rw [hd, List.append_nil, List.append_nil, pie_hp _ hSok, prt_nil, mkB_self, List.append_nil]
  · rw [if_neg (by omega)]
    have e0 : ((q : Nat) : Int).toNat = q := by simp
    have eK : K = S.size - q := by omega
    rw [e0, eK]
theorem szW_sm (ps : List (Int × ByteArray)) (h : ∀ p ∈ ps, 1 ≤ p.1 ∧ p.1 ≤ 6) (hl : ps.length ≤ 1000) : szW ps = sm (sideH true) ps ∧ 0 ≤ szW ps ∧ szW ps ≤ 6 * (ps.length : Int) := by
  obtain ⟨n, hn⟩ : ∃ n, ps.length = n := ⟨_, rfl⟩
  induction n generalizing ps with
  | zero =>
    have : ps = [] := List.length_eq_zero_iff.1 hn
    subst this; exact ⟨rfl, by decide, by decide⟩
  | succ n ih =>
    have hne : ps ≠ [] := by rintro rfl; simp at hn
    obtain ⟨qs, p, rfl⟩ : ∃ qs p, ps = qs ++ [p] := ⟨ps.dropLast, ps.getLast hne, (List.dropLast_concat_getLast hne).symm⟩
    rw [List.length_append, List.length_singleton] at hn hl
    obtain ⟨i1, i2, i3⟩ := ih qs (fun x hx => h x (by simp [hx])) (by omega) (by omega)
    have hp := h p (by simp)
    have hw : wrap64 (szW qs + p.1) = szW qs + p.1 := by unfold wrap64; omega
    rw [szW_snoc, hw, sm_app, List.length_append, List.length_singleton]
    refine ⟨?_, by omega, by omega⟩
    rw [i1]
    show _ = _ + (p.1 + 0)
    omega
/-- a chain counts all bytes that came, but what is held -/
theorem szW_held {S : ByteArray} {ps : List (Int × ByteArray)} (h : stB S ps = true) : szW ps = ((S.size - heldN S.data.toList : Nat) : Int) := by
  have hs := stB_small h
  have h1 := (szW_sm ps (fun p hp => (hs.2 p hp).1) (by have := hs.1; omega)).1
  have h2 := sm_in h
  have h3 := heldN_len S.data.toList
  rw [lenL] at h3
  rw [h1, h2]; omega
end Go.Proofs.YtdggchcapjidjabGreatDoor.St

/- Walks: the parts of what came behind those there are, by the program. -/
namespace Go.Proofs.YtdggchcapjidjabGreatDoor.Gf
open Go.RowKit Go.Shelf Go.Proofs.YtdggchcapjidjabGreatDoor.Kit Go.Proofs.YtdggchcapjidjabGreatDoor.Mp Go.Proofs.YtdggchcapjidjabGreatDoor.Mj Go.Proofs.YtdggchcapjidjabGreatDoor.Mk Go.Proofs.YtdggchcapjidjabGreatDoor.Mg Go.Proofs.YtdggchcapjidjabGreatDoor.Tx Go.Proofs.YtdggchcapjidjabGreatDoor.Nm Go.Proofs.YtdggchcapjidjabGreatDoor.App Go.Proofs.YtdggchcapjidjabGreatDoor.It Go.Proofs.YtdggchcapjidjabGreatDoor.It4 Go.Proofs.YtdggchcapjidjabGreatDoor.Sq Go.Proofs.YtdggchcapjidjabGreatDoor.Gp Go.Proofs.YtdggchcapjidjabGreatDoor.Pcs Go.Proofs.YtdggchcapjidjabGreatDoor.Wp Go.Proofs.YtdggchcapjidjabGreatDoor.Wa Go.Proofs.YtdggchcapjidjabGreatDoor.St
open Go.Proofs.YtdggchcapjidjabGreatDoor.EndW (endV sideZ)
open Go.Proofs.YtdggchcapjidjabGreatDoor.Read (Errs ErrCell)
attribute [local go_sem] Oper.semAt_some
set_option linter.unusedSimpArgs false
set_option linter.unusedVariables false

theorem goX_goY (o : Bool) (es : List (Int × Int)) (p : Pc) (l : List UInt8) : goX o es p l = goY o es p l := by cases o <;> rfl
/-- a chain abides what turns behind it that is no link -/
theorem chain_own {B : Nat} {W W' : World} {row : Option Nat} {C : Nat} {bs : List Nat} {ps : List (Int × ByteArray)} (hC : C < B) (hg : W.grownBy W' row) (hr : ∀ r, row = some r → B ≤ r ∧ ∃ o : Obj, W.heap[r]? = some o ∧ (o.isCells = false ∨ ∃ cs f, o = .cells cs 3 f)) (h : ChainAt W C bs ps) : ChainAt W' C bs ps :=
  h.same fun b hb => hg.block b (h.mem b hb) fun e => by
    obtain ⟨q, o, ho, hc⟩ := hr b e.symm
    obtain ⟨cs, t, hx, ht⟩ := h.lt b hb
    rw [hx] at ho; cases ho
    rcases hc with hc | ⟨cs2, f2, hc⟩
    · cases hc
    · rcases ht with rfl | ht
      · omega
      · cases hc; cases ht
/-- a chain's blocks hold cells: the two maps are elsewhere -/
theorem chain_two {W : World} {C : Nat} {bs : List Nat} {ps : List (Int × ByteArray)} (h : ChainAt W C bs ps) {bt bb : Nat} {es : List (Int × Int)} (t : Two W bt bb es) : ∀ b, b = C ∨ b ∈ bs → b ≠ bt ∧ b ≠ bb := by
  intro b hb
  obtain ⟨cs, ty, hx, _⟩ := h.lt b hb
  constructor
  · rintro rfl; rw [t.th] at hx; cases hx
  · rintro rfl; rw [t.bk] at hx; cases hx
theorem chain_but2 {W W' : World} {C : Nat} {bs : List Nat} {ps : List (Int × ByteArray)} (h : ChainAt W C bs ps) {bt bb : Nat} {es : List (Int × Int)} (t : Two W bt bb es) (k : But2 bt bb W W') : ChainAt W' C bs ps :=
  h.same fun b hb => k.block b (h.mem b hb) (chain_two h t b hb).1 (chain_two h t b hb).2
theorem added_two {base : Nat} {W W' : World} {C : Nat} {bs : List Nat} {ps : List (Int × ByteArray)} {p : Int × ByteArray} (h : Added base W W' C bs ps p) (hc : ChainAt W C bs ps) {bt bb : Nat} {es : List (Int × Int)} (t : Two W bt bb es) : Two W' bt bb es := by
  have q := chain_two hc t
  have l := t.lt
  exact ⟨(h.same bt l.1 (fun e => (q _ (.inl rfl)).1 e.symm) (fun e => (q bt (.inr e)).1 rfl)).trans t.th, (h.same bb l.2 (fun e => (q _ (.inl rfl)).2 e.symm) (fun e => (q bb (.inr e)).2 rfl)).trans t.bk, t.ne⟩
/-- what the loop holds: the chain's pointer, the function, the text -/
structure Hold (b0 C : Nat) (fv : Value) (s : ByteArray) (W : World) : Prop where
  x0 : Boxed W b0 123 (.pointer (some ⟨C, 0, none⟩))
  x1 : Boxed W (b0 + 1) 76 fv
  x2 : Boxed W (b0 + 1 + 1) 9 (.string s)
theorem Hold.own {b0 C : Nat} {fv : Value} {s : ByteArray} {B : Nat} {X Y : World} {row : Option Nat} (h : Hold b0 C fv s X) (hB : b0 + 1 + 1 < B) (hg : X.grownBy Y row) (hr : ∀ r, row = some r → B ≤ r) : Hold b0 C fv s Y := by
  refine ⟨h.x0.kept hg fun e => ?_, h.x1.kept hg fun e => ?_, h.x2.kept hg fun e => ?_⟩
  all_goals (have := hr _ e.symm; omega)
theorem Hold.same {b0 C : Nat} {fv : Value} {s : ByteArray} {X Y : World} (h : Hold b0 C fv s X) (k : ∀ b, b0 ≤ b → b ≤ b0 + 1 + 1 → Y.heap[b]? = X.heap[b]?) : Hold b0 C fv s Y :=
  ⟨(k b0 (by omega) (by omega)).trans h.x0, (k (b0 + 1) (by omega) (by omega)).trans h.x1, (k (b0 + 1 + 1) (by omega) (by omega)).trans h.x2⟩
/-- what is neither the chain's nor the map's is as it was -/
def Kpt (w : World) (C : Nat) (bs : List Nat) (bt bb : Nat) (W : World) : Prop := ∀ b, b < w.heap.size → b ≠ C → b ∉ bs → b ≠ bt → b ≠ bb → W.heap[b]? = w.heap[b]?
/-- the memory between two operations of a round -/
structure Mid (bt bb : Nat) (W : World) (e : List (Int × Int)) (w' : World) : Prop where
  two : Two w' bt bb e
  but : But2 bt bb W w'
/-- values of the operations ahead of the last one -/
def V8 (l : Array Bool) (VV t : Nat → Value) : Prop := ∀ j, j < 8 → l.getD j false = true → t j = VV j
theorem V8.put {l : Array Bool} {VV t : Nat → Value} (h : V8 l VV t) (i : Nat) (v : Value) (hi : VV i = v) : V8 (l.setIfInBounds i true) VV (fun j => if j = i then v else t j) := by
  intro j hj hl
  by_cases e : j = i
  · simp [e, hi]
  · rw [getD_set_ne false (fun q => e q.symm)] at hl
    simp [e, h j hj hl]
theorem V8.last {l : Array Bool} {VV t : Nat → Value} (h : V8 l VV t) (v : Value) : V8 (l.setIfInBounds 8 true) VV (fun j => if j = 8 then v else t j) := by
  intro j hj hl
  have e : j ≠ 8 := by omega
  rw [getD_set_ne false (fun q => e q.symm)] at hl
  simp [e, h j hj hl]
/-- a region in a fence, by an invariant, what is listed being closed -/
theorem any_inv_c {F : Fence} {n : Nat} {P : Program} {md : Region.Mode} {ops : Array Oper} {Q : Exit → Act → World → Prop} (I : Array Bool → Act → World → Prop) (hsz : ∀ l a w, I l a w → l.size = ops.size) (hlow : ∀ (i : Nat) (o : Oper), ops[i]? = some o → ∀ e ∈ o.after, e.on < i)
    (hstep : ∀ l a w i, I l a w → Ri.Closed md ops l → i ∈ Region.ready md ops l → wpOpIn F n P ops Q i (fun a' w' => I (l.setIfInBounds i true) a' w') a w)
    (hdone : ∀ l a w, I l a w → (∀ j, j < ops.size → l.getD j false = true) → Q .normal a w)
    (fuel : Nat) (l : Array Bool) (a : Act) (w : World) (h : I l a w) (hc : Ri.Closed md ops l) (hl : Rg.left ops l ≤ fuel) : wpAnyIn F n P md ops Q fuel l a w :=
  Rg.any_inv (I := fun l a w => I l a w ∧ Ri.Closed md ops l) (fun l a w h => hsz l a w h.1) hlow (fun l a w i h hi => wpOpIn_mono (fun a' w' h' => ⟨h', h.2.put hi⟩) (hstep l a w i h.1 h.2 hi)) (fun l a w h => hdone l a w h.1) fuel l a w ⟨h, hc⟩ hl
/-- which of these: ahead of the call, behind it, behind the part that is added -/
def Sg (M : List (Int × Int) → World → Prop) (e1 e2 : List (Int × Int)) (F : World → Prop) : Bool → Bool → World → Prop
  | _, true, w' => F w'
  | true, false, w' => M e2 w'
  | false, false, w' => M e1 w'
theorem sg_other {M : List (Int × Int) → World → Prop} {e1 e2 : List (Int × Int)} {F : World → Prop} {l : Array Bool} {i : Nat} {w' : World} (h6 : i ≠ 6) (h8 : i ≠ 8) (hw : Sg M e1 e2 F (l.getD 6 false) (l.getD 8 false) w') :
    Sg M e1 e2 F ((l.setIfInBounds i true).getD 6 false) ((l.setIfInBounds i true).getD 8 false) w' := by
  rw [getD_set_ne false h6, getD_set_ne false h8]
  exact hw
theorem sg_mid {M : List (Int × Int) → World → Prop} {e1 e2 : List (Int × Int)} {F : World → Prop} {b : Bool} {w' : World} (hw : Sg M e1 e2 F b false w') : ∃ e, M e w' := by
  cases b
  · exact ⟨_, hw⟩
  · exact ⟨_, hw⟩
/-- parts that come are small -/
theorem prt_small (o : Bool) (es : List (Int × Int)) (hg : GoodE es) (a : List Pc) (l : List UInt8) (hl : l.length ≤ 90) : ∀ p ∈ (prt o es a l).2, p.2.size ≤ 100 := by
  induction a generalizing es l with
  | nil => intro p hp; simp [prt] at hp
  | cons x a ih =>
    intro p hp
    rw [prt] at hp
    rcases List.mem_cons.1 hp with rfl | hp
    · rw [mkB_size, ← goX_goY]
      have := goX_len o es hg x (l.take x.sz)
      rw [List.length_take] at this
      omega
    · exact ih _ (goY_good o es x _ hg) (l.drop x.sz) (by rw [List.length_drop]; omega) p hp
theorem txW_le (a b : List (Int × ByteArray)) (h : ∀ p ∈ b, p.2.size ≤ 100) : (txW (a ++ b)).size ≤ (txW a).size + 100 * b.length := by
  have key : ∀ (b : List (Int × ByteArray)) (z : ByteArray), (∀ p ∈ b, p.2.size ≤ 100) → (b.foldl (fun a p => a ++ p.2) z).size ≤ z.size + 100 * b.length := by
    intro b
    induction b with
    | nil => intro z _; simp
    | cons p b ih =>
      intro z h
      have h1 := ih (z ++ p.2) (fun q hq => h q (by simp [hq]))
      have h2 := h p (by simp)
      rw [ByteArray.size_append] at h1
      rw [List.foldl_cons, List.length_cons]; omega
  unfold txW
  rw [List.foldl_append]
  exact key b _ h

set_option maxRecDepth 8000 in
set_option maxHeartbeats 8000000 in
theorem further_x (n : Nat) (hn : 9 ≤ n) (o : Bool) (hav : Av o) (base C : Nat) (bs : List Nat) (ps : List (Int × ByteArray)) (t s : ByteArray) (k : Nat) (w : World) (bt bb : Nat) (es : List (Int × Int))
    (hch : ChainAt w C bs ps) (hbs : ∀ b ∈ bs, base ≤ b) (hbC : base ≤ C) (hbt : base ≤ bt) (hbb : base ≤ bb) (hb0 : base ≤ w.heap.size) (hpl : ps.length ≤ 60) (hpt : (txW ps).size ≤ 1000) (hz : szW ps = (k : Nat)) (hk : k ≤ t.size) (ht1 : t.size ≤ 1000) (hs : t.extract k t.size = s) (hsz : s.size ≤ 90)
    (ht : Two w bt bb es) (hg : GoodE es) (herr : Errs w) (he1 : 1 < base) (he2 : 2 < base) :
    CallsIn Fence.wide n Tryz.prog 39 #[.pointer (some ⟨C, 0, none⟩), .string t, hV o bt bb] w fun e W' => (∃ v, e = .returned v) ∧
      Two W' bt bb (prt o es (pieL s.data.toList) s.data.toList).1 ∧ (∃ bs', ChainAt W' C bs' (ps ++ (prt o es (pieL s.data.toList) s.data.toList).2) ∧ ∀ b ∈ bs', base ≤ b) ∧ Below base w W' ∧ Kpt w C bs bt bb W' := by
  have h1 : 1 ≤ n := by omega
  obtain ⟨g1, g2⟩ := errs_lt herr
  have hlt := ht.lt
  have hCl := hch.mem C (.inl rfl)
  have hCb := hch.blk
  have c3 : w.cell? ⟨C, 3, none⟩ = some (.int .i64 (k : Nat)) := by simp [World.cell?, hCb, chO, hz]
  have kk1 : (0 : Int) ≤ (k : Int) := by omega
  have kk2 : (k : Int) ≤ (t.size : Int) := by omega
  refine callsIn_of_wp_marks Tryz.func39 rfl trivial ?_ rfl
  simp only [Tryz.ntmps39, List.size_toArray, List.length_cons, List.length_nil, Nat.reduceAdd, Nat.reduceSub, Array.replicate_succ, Array.replicate_zero, List.push_toArray, List.append_toArray, List.nil_append, List.cons_append]
  gi_wp2_with fail
  refine ⟨trivial, ?_⟩
  refine (written_in _ s _).mono ?_
  rintro e w1 ⟨rfl, rfl⟩
  gi_wp2
  have y0 := ((Boxed.new w 123 (.pointer (some ⟨C, 0, none⟩))).alloc (.cells #[hV o bt bb] 76)).alloc (.cells #[.string s] 9)
  have y1 := (Boxed.new (w.alloc (.cells #[.pointer (some ⟨C, 0, none⟩)] 123)) 76 (hV o bt bb)).alloc (.cells #[.string s] 9)
  have y2 := Boxed.new ((w.alloc (.cells #[.pointer (some ⟨C, 0, none⟩)] 123)).alloc (.cells #[hV o bt bb] 76)) 9 (.string s)
  have hB0 : Below w.heap.size w (((w.alloc (.cells #[.pointer (some ⟨C, 0, none⟩)] 123)).alloc (.cells #[hV o bt bb] 76)).alloc (.cells #[.string s] 9)) :=
    (((Below.refl _ w).alloc (Nat.le_refl _) _).alloc (by simp) _).alloc (by simp; omega) _
  have hsz0 : (((w.alloc (.cells #[.pointer (some ⟨C, 0, none⟩)] 123)).alloc (.cells #[hV o bt bb] 76)).alloc (.cells #[.string s] 9)).heap.size = w.heap.size + 1 + 1 + 1 := by simp
  simp only [World.size_alloc] at y1 y2
  obtain ⟨W0, hW0⟩ : ∃ W0, ((w.alloc (.cells #[.pointer (some ⟨C, 0, none⟩)] 123)).alloc (.cells #[hV o bt bb] 76)).alloc (.cells #[.string s] 9) = W0 := ⟨_, rfl⟩
  rw [hW0] at y0 y1 y2 hB0 hsz0 ⊢
  clear hW0
  have hOwn : OwnC W0.heap.size (fun (pre : List (Pc × ByteArray)) W => Hold w.heap.size C (hV o bt bb) s W ∧ Two W bt bb (prt o es (pre.map Prod.fst) s.data.toList).1 ∧ (∃ bs', ChainAt W C bs' (ps ++ (prt o es (pre.map Prod.fst) s.data.toList).2) ∧ ∀ b ∈ bs', base ≤ b ∧ (b ∈ bs ∨ w.heap.size ≤ b)) ∧ Below base w W ∧ Kpt w C bs bt bb W) := by
    rintro pre X Y row ⟨i1, i2, ⟨bs', i3, i3'⟩, i4, i5⟩ hgr hr
    have kp : ∀ b, b < W0.heap.size → b < X.heap.size → Y.heap[b]? = X.heap[b]? := fun b h0 hx => hgr.block b hx fun e => by have := (hr b e.symm).1; omega
    exact ⟨i1.own (B := W0.heap.size) (by omega) hgr (fun r e => (hr r e).1), ⟨(kp _ (by omega) i2.lt.1).trans i2.th, (kp _ (by omega) i2.lt.2).trans i2.bk, i2.ne⟩, ⟨bs', chain_own (by omega) hgr hr i3, i3'⟩, ⟨hgr.os.trans i4.os, hgr.tape.trans i4.tape, hgr.output.trans i4.output, Nat.le_trans i4.size hgr.size, fun b hb => (kp b (by omega) (by have := i4.size; omega)).trans (i4.block b hb)⟩, fun b hb q1 q2 q3 q4 => (kp b (by omega) (by have := i4.size; omega)).trans (i5 b hb q1 q2 q3 q4)⟩
  refine range_list (α := Pc × ByteArray) h1 (gf := 91) (lb := #[.pointer (some ⟨w.heap.size + 1 + 1, 0, none⟩)]) rfl (enters_of Tryz.func91 (by kernel_rfl) rfl)
    (told (n - 1) (w.heap.size + 1 + 1) (by omega) (Xc base C) s W0 y2 (herr.below hB0) (fun h => h.elim (fun h => by omega) (fun h => by cases h.2)) ⟨fun b hb h => h.elim (fun h => by omega) (fun h => by cases h.2), fun b hb h => h.elim (fun h => by omega) (fun h => by cases h.2), fun b hb h => h.elim (fun h => by omega) (fun h => by cases h.2), fun b hb h => h.elim (fun h => by omega) (fun h => by cases h.2)⟩ (fun ty => ⟨fun h => h.elim (fun h => by omega) (fun h => by omega), fun h => h.elim (fun h => by omega) (fun h => by omega)⟩))
    (fun h k => Kq.trans h k) (fun W l o o' _ ho hc => kq_putObj W l o o' ho hc) (Below.refl _ _) (fun _ => rfl)
    (fun (pre : List (Pc × ByteArray)) W => Hold w.heap.size C (hV o bt bb) s W ∧ Two W bt bb (prt o es (pre.map Prod.fst) s.data.toList).1 ∧ (∃ bs', ChainAt W C bs' (ps ++ (prt o es (pre.map Prod.fst) s.data.toList).2) ∧ ∀ b ∈ bs', base ≤ b ∧ (b ∈ bs ∨ w.heap.size ≤ b)) ∧ Below base w W ∧ Kpt w C bs bt bb W)
    hOwn
    ⟨⟨y0, y1, y2⟩, ht.below hB0, ⟨bs, by rw [List.map_nil, prt, List.append_nil]; exact hch.below hB0, fun b hb => ⟨hbs b hb, .inl hb⟩⟩, hB0.mono hb0, fun b hb _ _ _ _ => hB0.block b hb⟩
    (fun x a' W => ∃ Bx, W0.heap.size ≤ Bx ∧ W.heap[Bx]? = some (.cells #[.int .i64 (x.1.sz : Nat), .bool x.1.nm, .int .i64 x.1.ad, .int .i64 x.1.po] 90 (0, 0)) ∧ a' = { tmps := #[.pointer (some ⟨C, 0, none⟩), .string t, hV o bt bb, .pointer (some ⟨w.heap.size, 0, none⟩), undef, .pointer (some ⟨w.heap.size + 1, 0, none⟩), .pointer (some ⟨Bx, 0, none⟩), .string x.2, .string t, .pointer (some ⟨C, 0, none⟩), .pointer (some ⟨C, 0, none⟩), .pointer (some ⟨C, 3, none⟩), .int .i64 (k : Nat), .string s, .func (.func 91) #[] #[.pointer (some ⟨w.heap.size + 1 + 1, 0, none⟩)], pcV x.1, .string x.2, undef, undef, undef, undef, undef, undef, undef, undef, undef], defers := [] })
    (fun x a' _ X Y row hs hgr hr => by
      obtain ⟨Bx, h0, h2, h3⟩ := hs
      refine ⟨Bx, h0, (hgr.block Bx (Array.getElem?_eq_some_iff.1 h2).1 fun e => ?_).trans h2, h3⟩
      obtain ⟨_, o, ho, hc⟩ := hr Bx e.symm
      rw [h2] at ho; cases ho; cases hc)
    ?assign ?body ?done
  case assign =>
    rintro l pre ⟨x, S0⟩ W K9 hpre hi hC9
    have hz9 : W0.heap.size ≤ W.heap.size := by have := hi.1.x2.lt; omega
    simp only [wpV]
    gi_wp2
    exact hC9 _ _ ((KeepsOthers.alloc _ _).from _) (Kq.below ((Below.refl _ W).alloc (Nat.le_refl _) _)) ((ownC_from hOwn).alloc _ hi) ⟨W.heap.size, hz9, World.alloc_heap_new W _, rfl⟩
  case body =>
    rintro l pre0 x0 a' W hpre0 hl ⟨hi, h2, ⟨bs', hc', hbs'⟩, hb2, hk5⟩ ⟨Bx, hBx, hX, rfl⟩
    obtain ⟨pre, x, hpre, rfl, rfl⟩ := cutL_snoc_of s pre0 x0 _ hpre0
    have hm : (cutL s 0 pre ++ [(x, s.extract (szs pre) (szs pre + x.sz))]).map Prod.fst = pre ++ [x] := by rw [List.map_append, cutL_fst]; rfl
    rw [cutL_fst] at h2 hc'
    obtain ⟨hin, hok⟩ := pie_in s pre x hpre
    have hpl2 := pre_len s pre x hpre
    have hgd := prt_good o es pre s.data.toList hg
    have hmix : Tryz.prog.follows .mixedOrders = true := by kernel_rfl
    have hps1 := prt_small o es hg pre s.data.toList (by rw [lenL]; omega)
    have hlen1 : (ps ++ (prt o es pre s.data.toList).2).length ≤ 900 := by rw [List.length_append, prt_len]; omega
    have htx1 : (txW (ps ++ (prt o es pre s.data.toList).2)).size ≤ 100000 := by have := txW_le ps _ hps1; rw [prt_len] at this; omega
    obtain ⟨X0, hX0⟩ : ∃ X0, s.extract (szs pre) (szs pre + x.sz) = X0 := ⟨_, rfl⟩
    have hX0l : X0.data.toList = (s.data.toList.drop (szs pre)).take x.sz := by rw [← hX0, ext_to, show szs pre + x.sz - szs pre = x.sz by omega]
    have hsn := prt_snoc o es pre x s.data.toList
    rw [← hX0l, ← goX_goY] at hsn
    obtain ⟨q, hq⟩ : ∃ q, goX o (prt o es pre s.data.toList).1 x X0.data.toList = q := ⟨_, rfl⟩
    obtain ⟨es2, Tl⟩ := q
    rw [hq] at hsn
    have hTl : Tl.length ≤ 100 := by
      have h1 := goX_len o _ hgd x X0.data.toList
      rw [hq, hX0l, List.length_take, List.length_drop, lenL] at h1
      simp only at h1; omega
    obtain ⟨T, hT⟩ : ∃ T : ByteArray, mkB Tl = T := ⟨_, rfl⟩
    have hTz : T.size ≤ 100000 := by rw [← hT, mkB_size]; omega
    rw [hX0] at hm ⊢
    simp only [hT] at hsn
    obtain ⟨es1, hes1⟩ : ∃ es1, (prt o es pre s.data.toList).1 = es1 := ⟨_, rfl⟩
    obtain ⟨ps1, hps1'⟩ : ∃ ps1, ps ++ (prt o es pre s.data.toList).2 = ps1 := ⟨_, rfl⟩
    have hfin : ps ++ ((prt o es pre s.data.toList).2 ++ [((x.sz : Int), T)]) = ps1 ++ [((x.sz : Int), T)] := by rw [← List.append_assoc, hps1']
    rw [hes1] at h2 hq hgd
    rw [hps1'] at hc' hlen1 htx1
    have HM := (show Hid _ from hm)
    have HQ := (show Hid (goX o es1 x X0.data.toList = (es2, Tl)) from hq)
    have HT := (show Hid (mkB Tl = T) from hT)
    have HG := (show Hid (GoodE es1) from hgd)
    have HC := (show Hid (ChainAt W C bs' ps1) from hc')
    have HBS := (show Hid (∀ b ∈ bs', base ≤ b ∧ (b ∈ bs ∨ w.heap.size ≤ b)) from hbs')
    have HK5 := (show Hid (Kpt w C bs bt bb W) from hk5)
    have H2 := (show Hid (Two W bt bb es1) from h2)
    have HB := (show Hid (Below base w W) from hb2)
    have HI := (show Hid (Hold w.heap.size C (hV o bt bb) s W) from hi)
    have HSN := (show Hid (prt o es (pre ++ [x]) s.data.toList = (es2, (prt o es pre s.data.toList).2 ++ [((x.sz : Int), T)])) from hsn)
    have HFN := (show Hid (ps ++ ((prt o es pre s.data.toList).2 ++ [((x.sz : Int), T)]) = ps1 ++ [((x.sz : Int), T)]) from hfin)
    have HXB := (show Hid (W.heap[Bx]? = some (.cells #[.int .i64 (x.sz : Nat), .bool x.nm, .int .i64 x.ad, .int .i64 x.po] 90 (0, 0))) from hX)
    have hM0 : Mid bt bb W es1 W.drew := ⟨h2.below (Below.refl _ W).drew, But2.ofBelow (Below.refl _ W).drew⟩
    have H0 := (show Hid (Mid bt bb W es1 W.drew) from hM0)
    have hltW := hi.x2.lt
    have hxl : Bx < W.heap.size := (Array.getElem?_eq_some_iff.1 hX).1
    clear hq hT hgd hc' hk5 hbs' h2 hb2 hi hsn hfin hX hM0 hpre hpre0 hOwn y0 y1 y2 hB0 herr ht hok hm hX0 hX0l hes1 hps1' hps1 hch hCb hbs
    gi_wp2_with fail
    refine wpIn_region_any hmix ?_
    refine any_inv_c (I := fun l a' w' => l.size = 9 ∧ ∃ tt : Nat → Value, a' = { tmps := #[.pointer (some ⟨C, 0, none⟩), .string t, hV o bt bb, .pointer (some ⟨w.heap.size, 0, none⟩), undef, .pointer (some ⟨w.heap.size + 1, 0, none⟩), .pointer (some ⟨Bx, 0, none⟩), .string X0, .string t, .pointer (some ⟨C, 0, none⟩), .pointer (some ⟨C, 0, none⟩), .pointer (some ⟨C, 3, none⟩), .int .i64 (k : Nat), .string s, .func (.func 91) #[] #[.pointer (some ⟨w.heap.size + 1 + 1, 0, none⟩)], pcV x, .string X0, tt 0, tt 1, tt 2, tt 3, tt 4, tt 5, tt 6, tt 7, tt 8], defers := [] } ∧
        V8 l (fun j => [(.pointer (some ⟨C, 0, none⟩) : Value), .pointer (some ⟨Bx, 0, none⟩), .int .i64 (x.sz : Nat), hV o bt bb, pcV x, .string X0, .string T, ptV ((x.sz : Int), T)].getD j undef) tt ∧
        Sg (Mid bt bb W) es1 es2 (fun w' => ∃ w2, Mid bt bb W es2 w2 ∧ Added base w2 w' C bs' ps1 ((x.sz : Int), T)) (l.getD 6 false) (l.getD 8 false) w')
      ?sz ?low ?step ?fin _ _ _ _ ?start (Ri.closed_none _ _ _) (Rg.left_all _)
    case sz => exact fun l a' w' h => h.1
    case start => exact ⟨by simp, fun _ => undef, rfl, (fun j _ h => by rw [Rg.rep_none] at h; cases h), by rw [Rg.rep_none, Rg.rep_none]; exact H0.out⟩
    case low => exact Rg.low_of (by kernel_rfl)
    case step =>
      rintro l a' w' i ⟨hsz, tt, rfl, hv, hw⟩ hcl hi
      have h8 : l.getD 8 false = true → ∀ j, j < 8 → l.getD j false = true := Ri.up_of (by kernel_rfl) hcl
      have h76 : l.getD 7 false = true → l.getD 6 false = true := fun h => Ri.reach_sound hcl 10 7 6 (by kernel_rfl) h
      clear hcl
      obtain ⟨h0, op, ho, hd⟩ := mem_ready.1 hi
      have hi9 : i < 9 := (Array.getElem?_eq_some_iff.1 ho).1
      have hnl := Rg.not_listed h0
      have q8 : l.getD 8 false = false := by
        cases q : l.getD 8 false
        · rfl
        · by_cases e8 : i = 8
          · subst e8; rw [hnl] at q; cases q
          · have := h8 q i (by omega)
            rw [hnl] at this; cases this
      have hw8 := hw
      rw [q8] at hw8
      obtain ⟨ee, hM⟩ := sg_mid hw8
      clear hw8
      have H2l := H2.out.lt
      have kx : ∀ b, b = w.heap.size ∨ b = w.heap.size + 1 ∨ b = Bx → w'.heap[b]? = W.heap[b]? := by
        intro b hb
        refine hM.but.block b (by omega) ?_ ?_
        · omega
        · omega
      have m0 := Boxed.cell ((kx _ (.inl rfl)).trans HI.out.x0)
      have m1 := Boxed.cell ((kx _ (.inr (.inl rfl))).trans HI.out.x1)
      have rx := (kx _ (.inr (.inr rfl))).trans HXB.out
      have z0 : w'.cell? ⟨Bx, 0, none⟩ = some (.int .i64 (x.sz : Nat)) := by simp [World.cell?, rx]
      have z1 : w'.cell? ⟨Bx, 1, none⟩ = some (.bool x.nm) := by simp [World.cell?, rx]
      have z2 : w'.cell? ⟨Bx, 2, none⟩ = some (.int .i64 x.ad) := by simp [World.cell?, rx]
      have z3 : w'.cell? ⟨Bx, 3, none⟩ = some (.int .i64 x.po) := by simp [World.cell?, rx]
      clear rx kx hM H2l
      have hc : i = 0 ∨ i = 1 ∨ i = 2 ∨ i = 3 ∨ i = 4 ∨ i = 5 ∨ i = 6 ∨ i = 7 ∨ i = 8 := by omega
      rcases hc with rfl | rfl | rfl | rfl | rfl | rfl | rfl | rfl | rfl
      · have u2 := sg_other (i := 0) (by omega) (by omega) hw
        clear hw h8
        obtain rfl : _ = op := Option.some.inj (show some _ = some op from ho)
        refine wpOpIn_step rfl fun K9 hK9 => ?_
        have HKK := (show Hid _ from hK9)
        clear hK9
        go_simp
        exact HKK.out _ _ ⟨by simp [hsz], fun j => if j = 0 then (.pointer (some ⟨C, 0, none⟩) : Value) else tt j, rfl, hv.put 0 _ rfl, u2⟩
      · have u2 := sg_other (i := 1) (by omega) (by omega) hw
        clear hw h8
        obtain rfl : _ = op := Option.some.inj (show some _ = some op from ho)
        refine wpOpIn_step rfl fun K9 hK9 => ?_
        have HKK := (show Hid _ from hK9)
        clear hK9
        go_simp
        exact HKK.out _ _ ⟨by simp [hsz], fun j => if j = 1 then (.pointer (some ⟨Bx, 0, none⟩) : Value) else tt j, rfl, hv.put 1 _ rfl, u2⟩
      · have u2 := sg_other (i := 2) (by omega) (by omega) hw
        clear hw h8
        obtain rfl : _ = op := Option.some.inj (show some _ = some op from ho)
        have e1 : tt 1 = .pointer (some ⟨Bx, 0, none⟩) := hv 1 (by omega) (hd { on := 1, ground := .data } (by simp) rfl)
        refine wpOpIn_step rfl fun K9 hK9 => ?_
        have HKK := (show Hid _ from hK9)
        clear hK9
        go_simp
        exact HKK.out _ _ ⟨by simp [hsz], fun j => if j = 2 then (.int .i64 (x.sz : Nat) : Value) else tt j, by simp [e1], hv.put 2 _ rfl, u2⟩
      · have u2 := sg_other (i := 3) (by omega) (by omega) hw
        clear hw h8
        obtain rfl : _ = op := Option.some.inj (show some _ = some op from ho)
        refine wpOpIn_step rfl fun K9 hK9 => ?_
        have HKK := (show Hid _ from hK9)
        clear hK9
        go_simp
        exact HKK.out _ _ ⟨by simp [hsz], fun j => if j = 3 then (hV o bt bb : Value) else tt j, rfl, hv.put 3 _ rfl, u2⟩
      · have u2 := sg_other (i := 4) (by omega) (by omega) hw
        clear hw h8
        obtain rfl : _ = op := Option.some.inj (show some _ = some op from ho)
        refine wpOpIn_step rfl fun K9 hK9 => ?_
        have HKK := (show Hid _ from hK9)
        clear hK9
        go_simp
        exact HKK.out _ _ ⟨by simp [hsz], fun j => if j = 4 then (pcV x : Value) else tt j, rfl, hv.put 4 _ rfl, u2⟩
      · have u2 := sg_other (i := 5) (by omega) (by omega) hw
        clear hw h8
        obtain rfl : _ = op := Option.some.inj (show some _ = some op from ho)
        refine wpOpIn_step rfl fun K9 hK9 => ?_
        have HKK := (show Hid _ from hK9)
        clear hK9
        go_simp
        exact HKK.out _ _ ⟨by simp [hsz], fun j => if j = 5 then (.string X0 : Value) else tt j, rfl, hv.put 5 _ rfl, u2⟩
      · rw [hnl, q8] at hw
        have hM : Mid bt bb W es1 w' := hw
        obtain rfl : _ = op := Option.some.inj (show some _ = some op from ho)
        have e3 : tt 3 = hV o bt bb := hv 3 (by omega) (hd { on := 3, ground := .data } (by simp) rfl)
        have e4 : tt 4 = pcV x := hv 4 (by omega) (hd { on := 4, ground := .data } (by simp) rfl)
        have e5 : tt 5 = .string X0 := hv 5 (by omega) (hd { on := 5, ground := .data } (by simp) rfl)
        have HK := (show Hid (Mid bt bb W es1 w') from hM)
        have HV := (show Hid (V8 l _ tt) from hv)
        clear hM hw h8 hv
        refine wpOpIn_step rfl fun K9 hK9 => ?_
        have HKK := (show Hid _ from hK9)
        clear hK9
        cases o
        · have e3' : tt 3 = .func (.func 71) #[prtV bt bb] #[] := e3
          clear e3
          go_simp
          first | refine ⟨trivial, (fun h => by cases h), ?_⟩ | refine ⟨(fun h => by cases h), ?_⟩ | refine ⟨trivial, ?_⟩
          refine (CallsIn.inRound _ (callsIn_wide.2 (piece_x false hav _ bt bb _ HK.out.two HG.out x X0))).mono ?_
          rintro e w2 ⟨T', rfl, hT', t2, kk⟩
          rw [HQ.out] at hT' t2
          obtain rfl : T' = T := (mkB_of hT').trans HT.out
          refine HKK.out _ _ ⟨by simp [hsz], fun j => if j = 6 then .string T' else tt j, by simp [e3', e4, e5], V8.put HV.out 6 _ rfl, ?_⟩
          · rw [getD_set_ne false (show 6 ≠ 8 by omega), q8, Rg.set_same (by omega)]
            exact ⟨t2, HK.out.but.trans kk⟩
        · have e3' : tt 3 = .func (.func 70) #[prtV bt bb] #[] := e3
          clear e3
          go_simp
          first | refine ⟨trivial, (fun h => by cases h), ?_⟩ | refine ⟨(fun h => by cases h), ?_⟩ | refine ⟨trivial, ?_⟩
          refine (CallsIn.inRound _ (callsIn_wide.2 (piece_x true hav _ bt bb _ HK.out.two HG.out x X0))).mono ?_
          rintro e w2 ⟨T', rfl, hT', t2, kk⟩
          rw [HQ.out] at hT' t2
          obtain rfl : T' = T := (mkB_of hT').trans HT.out
          refine HKK.out _ _ ⟨by simp [hsz], fun j => if j = 6 then .string T' else tt j, by simp [e3', e4, e5], V8.put HV.out 6 _ rfl, ?_⟩
          · rw [getD_set_ne false (show 6 ≠ 8 by omega), q8, Rg.set_same (by omega)]
            exact ⟨t2, HK.out.but.trans kk⟩
      · have u2 := sg_other (i := 7) (by omega) (by omega) hw
        clear hw h8
        obtain rfl : _ = op := Option.some.inj (show some _ = some op from ho)
        have e2 : tt 2 = .int .i64 (x.sz : Nat) := hv 2 (by omega) (hd { on := 2, ground := .data } (by simp) rfl)
        have e6 : tt 6 = .string T := hv 6 (by omega) (hd { on := 6, ground := .data } (by simp) rfl)
        refine wpOpIn_step rfl fun K9 hK9 => ?_
        have HKK := (show Hid _ from hK9)
        clear hK9
        go_simp
        try gi_wp2_with fail
        exact HKK.out _ _ ⟨by simp [hsz], fun j => if j = 7 then (ptV ((x.sz : Int), T) : Value) else tt j, by simp [ptV, e2, e6], hv.put 7 _ rfl, u2⟩
      · obtain rfl : _ = op := Option.some.inj (show some _ = some op from ho)
        have e0 : tt 0 = .pointer (some ⟨C, 0, none⟩) := hv 0 (by omega) (hd { on := 0, ground := .data } (by simp) rfl)
        have e7 : tt 7 = ptV ((x.sz : Int), T) := hv 7 (by omega) (hd { on := 7, ground := .data } (by simp) rfl)
        have l6 : l.getD 6 false = true := h76 (hd { on := 7, ground := .data } (by simp) rfl)
        rw [hnl, l6] at hw
        have hM : Mid bt bb W es2 w' := hw
        have hch1 : ChainAt w' C bs' ps1 := chain_but2 HC.out H2.out hM.but
        have HK := (show Hid (Mid bt bb W es2 w') from hM)
        have HC1 := (show Hid (ChainAt w' C bs' ps1) from hch1)
        have HV := (show Hid (V8 l _ tt) from hv)
        clear hM hw h8 h76 hv hch1
        refine wpOpIn_step rfl fun K9 hK9 => ?_
        have HKK := (show Hid _ from hK9)
        clear hK9
        go_simp
        first | refine ⟨trivial, (fun h => by cases h), ?_⟩ | refine ⟨(fun h => by cases h), ?_⟩ | refine ⟨trivial, ?_⟩
        refine (CallsIn.inRound _ (callsIn_wide.2 (add_any base C bs' ps1 ((x.sz : Int), T) _ HC1.out hlen1 htx1 hTz))).mono ?_
        rintro e w2 ⟨⟨v', rfl⟩, hadd⟩
        refine HKK.out _ _ ⟨by simp [hsz], fun j => if j = 8 then v' else tt j, by simp [e0, e7], V8.last HV.out _, ?_⟩
        rw [getD_set_ne false (show 8 ≠ 6 by omega), l6, Rg.set_same (by omega)]
        exact ⟨w', HK.out, hadd⟩
    case fin =>
      rintro l a' w' ⟨hsz, tt, rfl, hv, hw⟩ hall
      have l6 : l.getD 6 false = true := hall 6 (by simp)
      have l8 : l.getD 8 false = true := hall 8 (by simp)
      rw [l6, l8] at hw
      obtain ⟨w2, hM, hadd⟩ : ∃ w2, Mid bt bb W es2 w2 ∧ Added base w2 w' C bs' ps1 ((x.sz : Int), T) := hw
      have HK := (show Hid (Mid bt bb W es2 w2) from hM)
      have HA := (show Hid (Added base w2 w' C bs' ps1 ((x.sz : Int), T)) from hadd)
      clear hM hadd hv hall l6 l8
      gi_wp2
      have hch2 : ChainAt w2 C bs' ps1 := chain_but2 HC.out H2.out HK.out.but
      have hz2 := HK.out.but.size
      have hbW := HB.out.size
      have H2l := H2.out.lt
      rw [HM.out, HSN.out]
      have hold : Hold w.heap.size C (hV o bt bb) s w' := by
        refine HI.out.same fun b h1 h2 => ?_
        have hbl : b < W.heap.size := by omega
        refine (HA.out.same b (by omega) (by omega) fun hb => ?_).trans (HK.out.but.block b hbl (by omega) (by omega))
        obtain ⟨cs, ty, hx, hty⟩ := HC.out.lt b (.inr hb)
        have hty' : ty = 125 := hty.elim (fun h => absurd h (by omega)) id
        subst hty'
        have hc : b = w.heap.size ∨ b = w.heap.size + 1 ∨ b = w.heap.size + 1 + 1 := by omega
        rcases hc with rfl | rfl | rfl
        · have := HI.out.x0; unfold Boxed at this; rw [hx] at this; cases this
        · have := HI.out.x1; unfold Boxed at this; rw [hx] at this; cases this
        · have := HI.out.x2; unfold Boxed at this; rw [hx] at this; cases this
      refine ⟨(keepsFrom_but2 HK.out.but (by omega) (by omega)).trans (HA.out.keeps hch2), (kq_but2 HK.out.but H2.out).trans (HA.out.kq hch2 fun b hb => (HBS.out b hb).1), hold, added_two HA.out hch2 HK.out.two, ⟨bs' ++ [w2.heap.size + 1], ?_, ?_⟩, ?_, ?_⟩
      · show ChainAt w' C _ (ps ++ ((prt o es pre s.data.toList).2 ++ [((x.sz : Int), T)]))
        rw [HFN.out]
        exact HA.out.chain
      · intro b hb
        rcases List.mem_append.1 hb with hb | hb
        · exact HBS.out b hb
        · simp at hb; omega
      · exact (HB.out.trans (HK.out.but.below hbt hbb (by omega))).trans (HA.out.below (by omega) hbC fun b hb => (HBS.out b hb).1)
      · intro b hb q1 q2 q3 q4
        refine (HA.out.same b (by omega) q1 fun h => ?_).trans ((HK.out.but.block b (by omega) q3 q4).trans (HK5.out b hb q1 q2 q3 q4))
        rcases (HBS.out b h).2 with h | h
        · exact q2 h
        · omega
  case done =>
    rintro D W hD ⟨hi, h2, ⟨bs', hc', hbs'⟩, hb2, hk5⟩ hK
    rw [cutL_fst] at h2 hc'
    have hc2 := hc'.mem
    have hDn : ∀ b, b = C ∨ b ∈ bs' → b ≠ D := fun b hb e => by
      obtain ⟨cs, ty, hx, _⟩ := hc'.lt b hb
      rw [e, hK] at hx; cases hx
    have H2 := (show Hid (Two W bt bb (prt o es (pieL s.data.toList) s.data.toList).1) from h2)
    have HC := (show Hid (ChainAt W C bs' (ps ++ (prt o es (pieL s.data.toList) s.data.toList).2)) from hc')
    have HB := (show Hid (Below base w W) from hb2)
    clear h2 hc' hb2 hi hOwn y0 y1 y2 hB0 hch hCb hc2
    gi_wp2
    refine ⟨by simp, .inl ⟨_, _, rfl, run_takeDeferred hK, ?_⟩⟩
    refine ⟨_, results_none rfl _ _ _, ⟨_, rfl⟩, ⟨(World.putObj_heap_other (by omega)).trans H2.out.th, (World.putObj_heap_other (by omega)).trans H2.out.bk, H2.out.ne⟩, ⟨bs', HC.out.same fun b hb => World.putObj_heap_other (hDn b hb), fun b hb => (hbs' b hb).1⟩, ?_, fun b hb q1 q2 q3 q4 => (World.putObj_heap_other (by omega)).trans (hk5 b hb q1 q2 q3 q4)⟩
    exact ⟨HB.out.os, HB.out.tape, HB.out.output, by simpa using HB.out.size, fun k hk => (World.putObj_heap_other (by omega)).trans (HB.out.block k hk)⟩
end Go.Proofs.YtdggchcapjidjabGreatDoor.Gf

/- Walks: bytes that come to a stream, by the program. -/
namespace Go.Proofs.YtdggchcapjidjabGreatDoor.Ip
open Go.RowKit Go.Shelf Go.Proofs.YtdggchcapjidjabGreatDoor.Kit Go.Proofs.YtdggchcapjidjabGreatDoor.Mp Go.Proofs.YtdggchcapjidjabGreatDoor.Mj Go.Proofs.YtdggchcapjidjabGreatDoor.Mk Go.Proofs.YtdggchcapjidjabGreatDoor.Mg Go.Proofs.YtdggchcapjidjabGreatDoor.Mm Go.Proofs.YtdggchcapjidjabGreatDoor.Tx Go.Proofs.YtdggchcapjidjabGreatDoor.Nm Go.Proofs.YtdggchcapjidjabGreatDoor.App Go.Proofs.YtdggchcapjidjabGreatDoor.Wa Go.Proofs.YtdggchcapjidjabGreatDoor.St Go.Proofs.YtdggchcapjidjabGreatDoor.SpA Go.Proofs.YtdggchcapjidjabGreatDoor.StP Go.Proofs.YtdggchcapjidjabGreatDoor.Gf
open Go.Proofs.YtdggchcapjidjabGreatDoor.TxW (ok_any)
open Go.Proofs.YtdggchcapjidjabGreatDoor.Read (Errs ErrCell)
set_option linter.unusedSimpArgs false
set_option linter.unusedVariables false

/-- pairs are read, in all cases -/
theorem ports_any (W : World) (v : Value) (m : List (Int × Int × Int)) (hm : IsM W v m) :
    Calls Tryz.prog 34 #[v] W fun r W' => ∃ a b, r = .returned (.tuple #[.agg #[.map a, .map b], .bool (okM m)]) ∧ Below W.heap.size W W' ∧ (okM m = true → ∃ bt bb, a = some bt ∧ b = some bb ∧ Two W' bt bb (m.map Prod.snd) ∧ W.heap.size ≤ bt ∧ W.heap.size ≤ bb) := by
  cases hok : okM m
  · refine (Ml.read_no W v m hm hok).mono ?_
    rintro r W' ⟨rfl, k⟩
    exact ⟨none, none, rfl, k, fun h => by cases h⟩
  · refine (Ml.read_yes W v m hm hok).mono ?_
    rintro r W' ⟨bt, bb, rfl, h1, h2, h3, k⟩
    exact ⟨some bt, some bb, rfl, k, fun _ => ⟨bt, bb, rfl, rfl, h1, h2, h3⟩⟩
/-- the chain of a stream, in all cases -/
theorem chain_any (s : ByteArray) (v : Value) (ps : List (Int × ByteArray)) (w : World) (hT : IsT w v ps) (herr : Errs w) :
    Calls Tryz.prog 35 #[.agg #[.string s, v]] w fun e W' => ∃ f l n z x, e = .returned (.tuple #[chV f l n z x, .bool (stB s ps)]) ∧ Below w.heap.size w W' ∧
      (stB s ps = true → ∃ C bs, ChainAt W' C bs ps ∧ w.heap.size ≤ C ∧ (∀ b ∈ bs, w.heap.size ≤ b) ∧ f = bs.head?.map ad ∧ l = bs.getLast?.map ad ∧ n = (ps.length : Nat) ∧ z = szW ps ∧ x = txW ps) := by
  refine (read_any s v ps w hT herr).mono ?_
  rintro e W' ⟨k, ⟨h, rfl⟩ | ⟨h, C, bs, h1, h2, h3, rfl⟩⟩
  · exact ⟨none, none, 0, 0, ByteArray.empty, by rw [h], k, fun q => by rw [h] at q; cases q⟩
  · exact ⟨_, _, _, _, _, by rw [h], k, fun _ => ⟨C, bs, h1, h2, h3, rfl, rfl, rfl, rfl, rfl⟩⟩

/-- a map and parts, in rows of their own -/
structure RowsI (W : World) (base : Nat) (v : Value) (es : List (Int × Int)) (pv : Value) (ps : List (Int × ByteArray)) : Prop where
  rm : W.ownsRow base 83 3 v (prs es).length (cellsM (prs es))
  rt : W.ownsRow base 79 2 pv ps.length (cellsT ps)
  ne : v.ownBlock = none ∨ v.ownBlock ≠ pv.ownBlock
/-- the rows of both answers, behind the store of the stream -/
theorem rowsI_fin {w6 w7 : World} {X R B6 B7 : Nat} {x y : Value} {es : List (Int × Int)} {ps : List (Int × ByteArray)} (hr6 : w6.ownsRow B6 83 3 x (prs es).length (cellsM (prs es))) (k7 : Below w6.heap.size w6 w7) (hr7 : w7.ownsRow B7 79 2 y ps.length (cellsT ps)) (h1 : X ≤ B6) (h2 : R < B6) (h3 : B6 ≤ w6.heap.size) (h4 : w6.heap.size ≤ B7) (u1 u2 : Value) :
    RowsI ((w7.setCell ⟨R, 0, none⟩ u1).setCell ⟨R, 1, none⟩ u2) X x es y ps := by
  have a1 : x.ownBlock ≠ some R := fun e => by have := (hr6.lt R e).1; omega
  have a2 : y.ownBlock ≠ some R := fun e => by have := (hr7.lt R e).1; omega
  refine ⟨row_mono (ownsRow_setCell_other (ownsRow_setCell_other (row_below hr6 k7) a1 _) a1 _) h1, row_mono (ownsRow_setCell_other (ownsRow_setCell_other hr7 a2 _) a2 _) (by omega), ?_⟩
  cases hx : x.ownBlock with
  | none => exact .inl rfl
  | some g =>
    refine .inr fun hy => ?_
    have q1 := (hr6.lt g hx).2
    have q2 := (hr7.lt g hy.symm).1
    omega
set_option maxRecDepth 8000 in
set_option maxHeartbeats 16000000 in
theorem iput_no (W : World) (v : Value) (m : List (Int × Int × Int)) (hm : IsM W v m) (S : ByteArray) (pv : Value) (ps : List (Int × ByteArray)) (hT : IsT W pv ps) (q : Int) (T : ByteArray) (o : Bool) (herr : Errs W)
    (hno : ¬ (okM m = true ∧ stB S ps = true ∧ okB T.data.toList = true ∧ 0 ≤ q ∧ q ≤ 40)) :
    Calls Tryz.prog 8 #[v, .agg #[.string S, pv], .int .i64 q, .string T, .bool o] W fun r W' => r = .returned (.tuple #[.slice none 0 0, .agg #[.string ⟨#[]⟩, .slice none 0 0], .bool false]) ∧ Below W.heap.size W W' := by
  obtain ⟨va, vc, rfl⟩ := isM_slice hm
  obtain ⟨pa, pc, rfl, hT'⟩ := id hT
  clear hT'
  have hb0 : Below W.heap.size W ((W.alloc (.cells #[.string S, .slice pa ps.length pc] 26)).alloc (.cells #[.string ⟨#[]⟩, .slice none 0 0] 26)) := ((Below.refl _ _).alloc (Nat.le_refl _) _).alloc (by simp) _
  have c0 : ((W.alloc (.cells #[.string S, .slice pa ps.length pc] 26)).alloc (.cells #[.string ⟨#[]⟩, .slice none 0 0] 26)).cell? ⟨W.heap.size, 0, none⟩ = some (.string S) := by simp
  have c1 : ((W.alloc (.cells #[.string S, .slice pa ps.length pc] 26)).alloc (.cells #[.string ⟨#[]⟩, .slice none 0 0] 26)).cell? ⟨W.heap.size, 1, none⟩ = some (.slice pa ps.length pc) := by simp
  have r0 : ((W.alloc (.cells #[.string S, .slice pa ps.length pc] 26)).alloc (.cells #[.string ⟨#[]⟩, .slice none 0 0] 26)).cell? ⟨W.heap.size + 1, 0, none⟩ = some (.string ⟨#[]⟩) := by simp
  have r1 : ((W.alloc (.cells #[.string S, .slice pa ps.length pc] 26)).alloc (.cells #[.string ⟨#[]⟩, .slice none 0 0] 26)).cell? ⟨W.heap.size + 1, 1, none⟩ = some (.slice none 0 0) := by simp
  have rf : ∀ j, ((W.alloc (.cells #[.string S, .slice pa ps.length pc] 26)).alloc (.cells #[.string ⟨#[]⟩, .slice none 0 0] 26)).frozen? ⟨W.heap.size + 1, j, none⟩ = false := fun j => by simp
  have hX : W.heap.size < ((W.alloc (.cells #[.string S, .slice pa ps.length pc] 26)).alloc (.cells #[.string ⟨#[]⟩, .slice none 0 0] 26)).heap.size := by simp; omega
  have hR : W.heap.size + 1 < ((W.alloc (.cells #[.string S, .slice pa ps.length pc] 26)).alloc (.cells #[.string ⟨#[]⟩, .slice none 0 0] 26)).heap.size := by simp
  have hRW : W.heap.size ≤ W.heap.size + 1 := by omega
  have HM0 := (show Hid (IsM W (.slice va m.length vc) m) from hm)
  have HT0 := (show Hid (IsT W (.slice pa ps.length pc) ps) from hT)
  have HE0 := (show Hid (Errs W) from herr)
  clear hm hT herr
  go_enter Tryz.func8, Tryz.ntmps8
  go_wp2_with fail
  generalize ((W.alloc (.cells #[.string S, .slice pa ps.length pc] 26)).alloc (.cells #[.string ⟨#[]⟩, .slice none 0 0] 26)) = W1 at *
  refine (ports_any W1 _ m (HM0.out.below hb0)).mono ?_
  rintro e w2 ⟨pA, pB, rfl, k2, _⟩
  generalize hRR : W.heap.size + 1 = R at *
  generalize hXX : W.heap.size = X at *
  have kA2 : Below W1.heap.size W1 (w2.alloc (.cells #[.map pA, .map pB] 64)) := k2.alloc k2.size _
  have d0 := (kA2.cell (p := ⟨X, 0, none⟩) hX).trans c0
  have d1 := (kA2.cell (p := ⟨X, 1, none⟩) hX).trans c1
  have s0 := (kA2.cell (p := ⟨R, 0, none⟩) hR).trans r0
  have s1 := (kA2.cell (p := ⟨R, 1, none⟩) hR).trans r1
  have sf := fun j => (kA2.frozen (p := ⟨R, j, none⟩) hR).trans (rf j)
  have z2 := kA2.size
  have HB2 := (show Hid (Below X W (w2.alloc (.cells #[.map pA, .map pB] 64))) from hb0.trans (kA2.mono (by omega)))
  have HT2 := (show Hid (IsT (w2.alloc (.cells #[.map pA, .map pB] 64)) (.slice pa ps.length pc) ps) from (HT0.out.below (by rw [hXX]; exact hb0)).below kA2)
  have HE2 := (show Hid (Errs (w2.alloc (.cells #[.map pA, .map pB] 64))) from (HE0.out.below (by rw [hXX]; exact hb0)).below kA2)
  clear k2 kA2 c0 c1 r0 r1 rf hb0 HM0 HT0 HE0
  go_wp2_with fail
  refine (chain_any S _ ps _ HT2.out HE2.out).mono ?_
  rintro e w3 ⟨cf, cl, cn, cz, cx, rfl, k3, _⟩
  have kA3 : Below (w2.alloc (.cells #[.map pA, .map pB] 64)).heap.size (w2.alloc (.cells #[.map pA, .map pB] 64)) (w3.alloc (chO cf cl cn cz cx)) := k3.alloc k3.size _
  have c0 := (kA3.cell (p := ⟨X, 0, none⟩) (by simp only; omega)).trans d0
  have c1 := (kA3.cell (p := ⟨X, 1, none⟩) (by simp only; omega)).trans d1
  have s0 := (kA3.cell (p := ⟨R, 0, none⟩) (by simp only; omega)).trans s0
  have s1 := (kA3.cell (p := ⟨R, 1, none⟩) (by simp only; omega)).trans s1
  have sf := fun j => (kA3.frozen (p := ⟨R, j, none⟩) (by simp only; omega)).trans (sf j)
  have z3 := kA3.size
  have HB3 := (show Hid (Below X W (w3.alloc (chO cf cl cn cz cx))) from HB2.out.trans (kA3.mono (by have := HB2.out.size; omega)))
  have qq := set_two s0 s1 (.string ⟨#[]⟩) (.slice none 0 0)
  have fin : Below X W (((w3.alloc (chO cf cl cn cz cx)).setCell ⟨R, 0, none⟩ (.string ⟨#[]⟩)).setCell ⟨R, 1, none⟩ (.slice none 0 0)) := (HB3.out.setCell (p := ⟨R, 0, none⟩) hRW _).setCell (p := ⟨R, 1, none⟩) hRW _
  have hRX : ¬ R = X := by omega
  clear k3 kA3 d0 d1 HB2 HT2 HE2 z2 hX hR
  simp only [chV]
  unfold chO at *
  cases hok : okM m
  · go_wp2
    refine bodyPost_ret (v := .tuple #[.slice none 0 0, .agg #[.string ⟨#[]⟩, .slice none 0 0], .bool false]) ?_ rfl ?_
    · simp [results, Tryz.results8, go_sem, qq.1, qq.2]
    · exact ⟨rfl, by rw [hXX]; exact fin⟩
  · cases hst : stB S ps
    · go_wp2
      refine bodyPost_ret (v := .tuple #[.slice none 0 0, .agg #[.string ⟨#[]⟩, .slice none 0 0], .bool false]) ?_ rfl ?_
      · simp [results, Tryz.results8, go_sem, qq.1, qq.2]
      · exact ⟨rfl, by rw [hXX]; exact fin⟩
    · go_wp2_with fail
      refine (ok_any T _).mono ?_
      rintro e w4 ⟨rfl, rfl⟩
      cases hTok : okB T.data.toList
      · go_wp2
        refine bodyPost_ret (v := .tuple #[.slice none 0 0, .agg #[.string ⟨#[]⟩, .slice none 0 0], .bool false]) ?_ rfl ?_
        · simp [results, Tryz.results8, go_sem, qq.1, qq.2]
        · exact ⟨rfl, by rw [hXX]; exact fin⟩
      · by_cases hq0 : q < 0
        · go_wp2
          refine bodyPost_ret (v := .tuple #[.slice none 0 0, .agg #[.string ⟨#[]⟩, .slice none 0 0], .bool false]) ?_ rfl ?_
          · simp [results, Tryz.results8, go_sem, qq.1, qq.2]
          · exact ⟨rfl, by rw [hXX]; exact fin⟩
        · have hq4 : 40 < q := by
            rcases Int.lt_or_le 40 q with h | h
            · exact h
            · exact absurd ⟨hok, hst, hTok, by omega, h⟩ hno
          go_wp2
          refine bodyPost_ret (v := .tuple #[.slice none 0 0, .agg #[.string ⟨#[]⟩, .slice none 0 0], .bool false]) ?_ rfl ?_
          · simp [results, Tryz.results8, go_sem, qq.1, qq.2]
          · exact ⟨rfl, by rw [hXX]; exact fin⟩

set_option maxRecDepth 8000 in
set_option maxHeartbeats 16000000 in
theorem iput_stay (W : World) (v : Value) (m : List (Int × Int × Int)) (hm : IsM W v m) (S : ByteArray) (pv : Value) (ps : List (Int × ByteArray)) (hT : IsT W pv ps) (q : Nat) (T : ByteArray) (o : Bool) (herr : Errs W)
    (hok : okM m = true) (hst : stB S ps = true) (hTok : okB T.data.toList = true) (hq : q ≤ 40) (hno : S.size < q ∨ 40 < q + T.size) :
    Calls Tryz.prog 8 #[v, .agg #[.string S, pv], .int .i64 (q : Nat), .string T, .bool o] W fun r W' => ∃ v' pv', r = .returned (.tuple #[v', .agg #[.string (putF o (m.map Prod.snd) S ps (q : Nat) T).2.1, pv'], .bool (putF o (m.map Prod.snd) S ps (q : Nat) T).2.2.2]) ∧ RowsI W' W.heap.size v' (putF o (m.map Prod.snd) S ps (q : Nat) T).1 pv' (putF o (m.map Prod.snd) S ps (q : Nat) T).2.2.1 ∧ Below W.heap.size W W' := by
  obtain ⟨hSok, hSl, _⟩ := stB_parts.1 hst
  have hS40 := (ok_parts _ hSok).1
  have hT40 := (ok_parts _ hTok).1
  rw [lenL] at hS40 hT40
  obtain ⟨hgE, hmE⟩ := okM_out m hok
  obtain ⟨gE1, gE2⟩ := errs_lt0 herr
  obtain ⟨es, hes⟩ : ∃ es, m.map Prod.snd = es := ⟨_, rfl⟩
  rw [hes] at hgE ⊢
  have hpl : ps.length ≤ 900 := by have := (stB_small hst).1; omega
  clear hmE
  obtain ⟨va, vc, rfl⟩ := isM_slice hm
  obtain ⟨pa, pc, rfl, hT'⟩ := id hT
  clear hT'
  have hb0 : Below W.heap.size W ((W.alloc (.cells #[.string S, .slice pa ps.length pc] 26)).alloc (.cells #[.string ⟨#[]⟩, .slice none 0 0] 26)) := ((Below.refl _ _).alloc (Nat.le_refl _) _).alloc (by simp) _
  have c0 : ((W.alloc (.cells #[.string S, .slice pa ps.length pc] 26)).alloc (.cells #[.string ⟨#[]⟩, .slice none 0 0] 26)).cell? ⟨W.heap.size, 0, none⟩ = some (.string S) := by simp
  have c1 : ((W.alloc (.cells #[.string S, .slice pa ps.length pc] 26)).alloc (.cells #[.string ⟨#[]⟩, .slice none 0 0] 26)).cell? ⟨W.heap.size, 1, none⟩ = some (.slice pa ps.length pc) := by simp
  have r0 : ((W.alloc (.cells #[.string S, .slice pa ps.length pc] 26)).alloc (.cells #[.string ⟨#[]⟩, .slice none 0 0] 26)).cell? ⟨W.heap.size + 1, 0, none⟩ = some (.string ⟨#[]⟩) := by simp
  have r1 : ((W.alloc (.cells #[.string S, .slice pa ps.length pc] 26)).alloc (.cells #[.string ⟨#[]⟩, .slice none 0 0] 26)).cell? ⟨W.heap.size + 1, 1, none⟩ = some (.slice none 0 0) := by simp
  have rf : ∀ j, ((W.alloc (.cells #[.string S, .slice pa ps.length pc] 26)).alloc (.cells #[.string ⟨#[]⟩, .slice none 0 0] 26)).frozen? ⟨W.heap.size + 1, j, none⟩ = false := fun j => by simp
  have hX : W.heap.size < ((W.alloc (.cells #[.string S, .slice pa ps.length pc] 26)).alloc (.cells #[.string ⟨#[]⟩, .slice none 0 0] 26)).heap.size := by simp; omega
  have hR : W.heap.size + 1 < ((W.alloc (.cells #[.string S, .slice pa ps.length pc] 26)).alloc (.cells #[.string ⟨#[]⟩, .slice none 0 0] 26)).heap.size := by simp
  have hRW : W.heap.size ≤ W.heap.size + 1 := by omega
  have HM0 := (show Hid (IsM W (.slice va m.length vc) m) from hm)
  have HT0 := (show Hid (IsT W (.slice pa ps.length pc) ps) from hT)
  have HE0 := (show Hid (Errs W) from herr)
  clear hm hT herr
  go_enter Tryz.func8, Tryz.ntmps8
  go_wp2_with fail
  generalize ((W.alloc (.cells #[.string S, .slice pa ps.length pc] 26)).alloc (.cells #[.string ⟨#[]⟩, .slice none 0 0] 26)) = W1 at *
  refine (Ml.read_yes W1 _ m (HM0.out.below hb0) hok).mono ?_
  rintro e w2 ⟨bt, bb, rfl, t2, hbt, hbb, k2⟩
  rw [hes] at t2
  generalize hRR : W.heap.size + 1 = R at *
  generalize hXX : W.heap.size = X at *
  unfold prtV
  have kA2 : Below W1.heap.size W1 (w2.alloc (.cells #[.map (some bt), .map (some bb)] 64)) := k2.alloc k2.size _
  have d0 := (kA2.cell (p := ⟨X, 0, none⟩) hX).trans c0
  have d1 := (kA2.cell (p := ⟨X, 1, none⟩) hX).trans c1
  have s0 := (kA2.cell (p := ⟨R, 0, none⟩) hR).trans r0
  have s1 := (kA2.cell (p := ⟨R, 1, none⟩) hR).trans r1
  have sf := fun j => (kA2.frozen (p := ⟨R, j, none⟩) hR).trans (rf j)
  have z2 := kA2.size
  have hW1 : X ≤ W1.heap.size := by have := hb0.size; omega
  have hk2 := k2.size
  have z2' : w2.heap.size < (w2.alloc (.cells #[.map (some bt), .map (some bb)] 64)).heap.size := by simp
  have p0 : (w2.alloc (.cells #[.map (some bt), .map (some bb)] 64)).cell? ⟨w2.heap.size, 0, none⟩ = some (.map (some bt)) := by simp
  have p1 : (w2.alloc (.cells #[.map (some bt), .map (some bb)] 64)).cell? ⟨w2.heap.size, 1, none⟩ = some (.map (some bb)) := by simp
  have HTw := (show Hid (Two (w2.alloc (.cells #[.map (some bt), .map (some bb)] 64)) bt bb es) from t2.below ((Below.refl _ _).alloc (Nat.le_refl _) _))
  have HB2 := (show Hid (Below X W (w2.alloc (.cells #[.map (some bt), .map (some bb)] 64))) from hb0.trans (kA2.mono (by omega)))
  have HT2 := (show Hid (IsT (w2.alloc (.cells #[.map (some bt), .map (some bb)] 64)) (.slice pa ps.length pc) ps) from (HT0.out.below (by rw [hXX]; exact hb0)).below kA2)
  have HE2 := (show Hid (Errs (w2.alloc (.cells #[.map (some bt), .map (some bb)] 64))) from (HE0.out.below (by rw [hXX]; exact hb0)).below kA2)
  clear kA2 c0 c1 r0 r1 rf hb0 HM0 HT0 HE0 t2
  go_wp2_with fail
  refine (chain_any S _ ps _ HT2.out HE2.out).mono ?_
  rintro e w3 ⟨cf, cl, cn, cz, cx, rfl, k3, hch⟩
  obtain ⟨C0, bs, hch1, hC0, hbs, rfl, rfl, rfl, rfl, rfl⟩ := hch hst
  clear hch
  obtain ⟨D, hD⟩ : ∃ D, w2.heap.size = D := ⟨_, rfl⟩
  rw [hD] at p0 p1 z2' ⊢
  have kA3 : Below (w2.alloc (.cells #[.map (some bt), .map (some bb)] 64)).heap.size (w2.alloc (.cells #[.map (some bt), .map (some bb)] 64)) (w3.alloc (chO (bs.head?.map ad) (bs.getLast?.map ad) (ps.length : Nat) (szW ps) (txW ps))) := k3.alloc k3.size _
  have c0 := (kA3.cell (p := ⟨X, 0, none⟩) (by simp only; omega)).trans d0
  have c1 := (kA3.cell (p := ⟨X, 1, none⟩) (by simp only; omega)).trans d1
  have r0 := (kA3.cell (p := ⟨R, 0, none⟩) (by simp only; omega)).trans s0
  have r1 := (kA3.cell (p := ⟨R, 1, none⟩) (by simp only; omega)).trans s1
  have rf := fun j => (kA3.frozen (p := ⟨R, j, none⟩) (by simp only; omega)).trans (sf j)
  have p0 := (kA3.cell (p := ⟨D, 0, none⟩) (by simp only; omega)).trans p0
  have p1 := (kA3.cell (p := ⟨D, 1, none⟩) (by simp only; omega)).trans p1
  have z3 := kA3.size
  have HTw3 := (show Hid (Two (w3.alloc (chO (bs.head?.map ad) (bs.getLast?.map ad) (ps.length : Nat) (szW ps) (txW ps))) bt bb es) from HTw.out.below kA3)
  have HB3 := (show Hid (Below X W (w3.alloc (chO (bs.head?.map ad) (bs.getLast?.map ad) (ps.length : Nat) (szW ps) (txW ps)))) from HB2.out.trans (kA3.mono (by have := HB2.out.size; omega)))
  have HE3 := (show Hid (Errs (w3.alloc (chO (bs.head?.map ad) (bs.getLast?.map ad) (ps.length : Nat) (szW ps) (txW ps)))) from HE2.out.below kA3)
  have hch3 : ChainAt (w3.alloc (chO (bs.head?.map ad) (bs.getLast?.map ad) (ps.length : Nat) (szW ps) (txW ps))) w3.heap.size bs ps := hch1.move (World.alloc_heap_new _ _) (fun b hb => Below.heap_alloc _ _ _ (by have := hch1.mem b (.inr hb); omega)) (fun b hb => by have := hch1.mem b (.inr hb); omega)
  have HC3 := (show Hid (ChainAt (w3.alloc (chO (bs.head?.map ad) (bs.getLast?.map ad) (ps.length : Nat) (szW ps) (txW ps))) w3.heap.size bs ps) from hch3)
  have HBS := (show Hid (∀ b ∈ bs, X ≤ b) from fun b hb => by have := hbs b hb; omega)
  have hc3l : w3.heap.size < (w3.alloc (chO (bs.head?.map ad) (bs.getLast?.map ad) (ps.length : Nat) (szW ps) (txW ps))).heap.size := by simp
  have hD3 : D < w3.heap.size := by have := k3.size; omega
  have hbt' : X ≤ bt := by omega
  have hbb' : X ≤ bb := by omega
  have hRX : ¬ R = X := by omega
  have hDX : ¬ D = X := by omega
  have hRD : R < D := by omega
  clear k3 kA3 d0 d1 s0 s1 sf HTw HB2 HT2 HE2 z2 hX hR hch1 hch3 hbs hC0 hbt hbb k2 z2'
  simp only [chV]
  unfold chO at *
  go_wp2_with fail
  refine (ok_any T _).mono ?_
  rintro e w4 ⟨rfl, rfl⟩
  rw [hTok]
  obtain ⟨C, hC⟩ : ∃ C, w3.heap.size = C := ⟨_, rfl⟩
  rw [hC] at HC3 hc3l hD3 ⊢
  generalize (w3.alloc (.cells #[.pointer (bs.head?.map ad), .pointer (bs.getLast?.map ad), .int .i64 (ps.length : Nat), .int .i64 (szW ps), .string (txW ps)] 69)) = w5 at *
  have hq0 : ¬ (q : Int) < 0 := by omega
  have hq4 : ¬ (40 : Int) < (q : Int) := by omega
  have hF : putF o es S ps (q : Nat) T = (es, S, ps, false) := if_pos (by omega)
  simp only [hF]
  by_cases h1 : S.size < q
  · have h1' : (S.size : Int) < (q : Int) := by omega
    go_upto_region 6 with fail
    have hX5 : X < w5.heap.size := by omega
    have hR5 : R < w5.heap.size := by omega
    have hD5 : D < w5.heap.size := by omega
    go_region_with (first
      | (go_at_call 37
         refine (Ml.list_any _ bt bb es (by exact ⟨HTw3.out.th, HTw3.out.bk, HTw3.out.ne⟩) hgE.len).mono ?_
         rintro e w6 ⟨x6, rfl, hr6', k6'⟩
         have hr6 : w6.ownsRow w5.heap.size 83 3 x6 (prs es).length (cellsM (prs es)) := hr6'
         have k6 : Below w5.heap.size w5 w6 := ⟨k6'.os, k6'.tape, k6'.output, k6'.size, k6'.block⟩
         have m0 := (k6.cell (p := ⟨X, 0, none⟩) hX5).trans c0
         have HC6 := (show Hid (ChainAt w6 C bs ps) from HC3.out.below k6)
         obtain ⟨x6a, x6c, rfl⟩ := row_slice hr6
         have HR6 := (show Hid _ from hr6)
         have HK6 := (show Hid (Below w5.heap.size w5 w6) from k6)
         clear hr6' k6' hr6 k6)
      | (go_at_call 38
         refine (St.list_any _ C bs ps (by exact ⟨HC6.out.blk, HC6.out.len, HC6.out.lnk, HC6.out.off, HC6.out.nd⟩) hpl).mono ?_
         rintro e w7 ⟨y7, rfl, hr7', k7'⟩
         have hr7 : w7.ownsRow w6.heap.size 79 2 y7 ps.length (cellsT ps) := hr7'
         have k7 : Below w6.heap.size w6 w7 := ⟨k7'.os, k7'.tape, k7'.output, k7'.size, k7'.block⟩
         have z6 := HK6.out.size
         have o0 := (k7.cell (p := ⟨X, 0, none⟩) (by simp only; omega)).trans m0
         have t0 := (k7.cell (p := ⟨R, 0, none⟩) (by simp only; omega)).trans ((HK6.out.cell (p := ⟨R, 0, none⟩) hR5).trans r0)
         have t1 := (k7.cell (p := ⟨R, 1, none⟩) (by simp only; omega)).trans ((HK6.out.cell (p := ⟨R, 1, none⟩) hR5).trans r1)
         have tf := fun j => (k7.frozen (p := ⟨R, j, none⟩) (by simp only; omega)).trans ((HK6.out.frozen (p := ⟨R, j, none⟩) hR5).trans (rf j))
         obtain ⟨y7a, y7c, rfl⟩ := row_slice hr7
         have HR7 := (show Hid _ from hr7)
         have HK7 := (show Hid (Below w6.heap.size w6 w7) from k7)
         clear hr7' k7' hr7 k7))
    all_goals
      have qq := set_two t0 t1 (.string S) (.slice y7a ps.length y7c)
      have z3' : X ≤ w5.heap.size := by have := HB3.out.size; omega
      have kb := HB3.out.trans ((HK6.out.trans (HK7.out.mono z6)).mono z3')
      have rr := rowsI_fin HR6.out HK7.out HR7.out z3' hR5 z6 (Nat.le_refl _) (.string S) (.slice y7a ps.length y7c)
      clear t0 t1 tf o0 m0 HR6 HR7 HK6 HK7 HC6
      go_wp2
      refine bodyPost_ret (v := .tuple #[.slice x6a (prs es).length x6c, .agg #[.string S, .slice y7a ps.length y7c], .bool false]) ?_ rfl ?_
      · simp [results, Tryz.results8, go_sem, qq.1, qq.2]
      · exact ⟨_, _, by rw [hF], by rw [hXX, hF]; exact rr, by rw [hXX]; exact (kb.setCell (p := ⟨R, 0, none⟩) hRW _).setCell (p := ⟨R, 1, none⟩) hRW _⟩
  · have h1' : ¬ (S.size : Int) < (q : Int) := by omega
    have h2' : (40 : Int) < (q : Int) + (T.size : Int) := by omega
    go_upto_region 6 with fail
    have hX5 : X < w5.heap.size := by omega
    have hR5 : R < w5.heap.size := by omega
    have hD5 : D < w5.heap.size := by omega
    go_region_with (first
      | (go_at_call 37
         refine (Ml.list_any _ bt bb es (by exact ⟨HTw3.out.th, HTw3.out.bk, HTw3.out.ne⟩) hgE.len).mono ?_
         rintro e w6 ⟨x6, rfl, hr6', k6'⟩
         have hr6 : w6.ownsRow w5.heap.size 83 3 x6 (prs es).length (cellsM (prs es)) := hr6'
         have k6 : Below w5.heap.size w5 w6 := ⟨k6'.os, k6'.tape, k6'.output, k6'.size, k6'.block⟩
         have m0 := (k6.cell (p := ⟨X, 0, none⟩) hX5).trans c0
         have HC6 := (show Hid (ChainAt w6 C bs ps) from HC3.out.below k6)
         obtain ⟨x6a, x6c, rfl⟩ := row_slice hr6
         have HR6 := (show Hid _ from hr6)
         have HK6 := (show Hid (Below w5.heap.size w5 w6) from k6)
         clear hr6' k6' hr6 k6)
      | (go_at_call 38
         refine (St.list_any _ C bs ps (by exact ⟨HC6.out.blk, HC6.out.len, HC6.out.lnk, HC6.out.off, HC6.out.nd⟩) hpl).mono ?_
         rintro e w7 ⟨y7, rfl, hr7', k7'⟩
         have hr7 : w7.ownsRow w6.heap.size 79 2 y7 ps.length (cellsT ps) := hr7'
         have k7 : Below w6.heap.size w6 w7 := ⟨k7'.os, k7'.tape, k7'.output, k7'.size, k7'.block⟩
         have z6 := HK6.out.size
         have o0 := (k7.cell (p := ⟨X, 0, none⟩) (by simp only; omega)).trans m0
         have t0 := (k7.cell (p := ⟨R, 0, none⟩) (by simp only; omega)).trans ((HK6.out.cell (p := ⟨R, 0, none⟩) hR5).trans r0)
         have t1 := (k7.cell (p := ⟨R, 1, none⟩) (by simp only; omega)).trans ((HK6.out.cell (p := ⟨R, 1, none⟩) hR5).trans r1)
         have tf := fun j => (k7.frozen (p := ⟨R, j, none⟩) (by simp only; omega)).trans ((HK6.out.frozen (p := ⟨R, j, none⟩) hR5).trans (rf j))
         obtain ⟨y7a, y7c, rfl⟩ := row_slice hr7
         have HR7 := (show Hid _ from hr7)
         have HK7 := (show Hid (Below w6.heap.size w6 w7) from k7)
         clear hr7' k7' hr7 k7))
    all_goals
      have qq := set_two t0 t1 (.string S) (.slice y7a ps.length y7c)
      have z3' : X ≤ w5.heap.size := by have := HB3.out.size; omega
      have kb := HB3.out.trans ((HK6.out.trans (HK7.out.mono z6)).mono z3')
      have rr := rowsI_fin HR6.out HK7.out HR7.out z3' hR5 z6 (Nat.le_refl _) (.string S) (.slice y7a ps.length y7c)
      clear t0 t1 tf o0 m0 HR6 HR7 HK6 HK7 HC6
      go_wp2
      refine bodyPost_ret (v := .tuple #[.slice x6a (prs es).length x6c, .agg #[.string S, .slice y7a ps.length y7c], .bool false]) ?_ rfl ?_
      · simp [results, Tryz.results8, go_sem, qq.1, qq.2]
      · exact ⟨_, _, by rw [hF], by rw [hXX, hF]; exact rr, by rw [hXX]; exact (kb.setCell (p := ⟨R, 0, none⟩) hRW _).setCell (p := ⟨R, 1, none⟩) hRW _⟩
end Go.Proofs.YtdggchcapjidjabGreatDoor.Ip

/- Walks: bytes that come to a stream, by the program, where they go on. -/
namespace Go.Proofs.YtdggchcapjidjabGreatDoor.Ip
open Go.RowKit Go.Shelf Go.Proofs.YtdggchcapjidjabGreatDoor.Kit Go.Proofs.YtdggchcapjidjabGreatDoor.Mp Go.Proofs.YtdggchcapjidjabGreatDoor.Mj Go.Proofs.YtdggchcapjidjabGreatDoor.Mk Go.Proofs.YtdggchcapjidjabGreatDoor.Mg Go.Proofs.YtdggchcapjidjabGreatDoor.Mm Go.Proofs.YtdggchcapjidjabGreatDoor.Tx Go.Proofs.YtdggchcapjidjabGreatDoor.Nm Go.Proofs.YtdggchcapjidjabGreatDoor.App Go.Proofs.YtdggchcapjidjabGreatDoor.Wa Go.Proofs.YtdggchcapjidjabGreatDoor.St Go.Proofs.YtdggchcapjidjabGreatDoor.SpA Go.Proofs.YtdggchcapjidjabGreatDoor.StP Go.Proofs.YtdggchcapjidjabGreatDoor.Gf
open Go.Proofs.YtdggchcapjidjabGreatDoor.TxW (ok_any)
open Go.Proofs.YtdggchcapjidjabGreatDoor.Read (Errs ErrCell)
set_option linter.unusedSimpArgs false
set_option linter.unusedVariables false

/-- the way on, as a function -/
theorem way_any (W : World) (bt bb : Nat) (o : Bool) :
    Calls Tryz.prog 40 #[prtV bt bb, .bool o] W fun r W' => r = .returned (hV o bt bb) ∧ Below W.heap.size W W' := by
  have bA : Below W.heap.size W (W.alloc (.cells #[.map (some bt), .map (some bb)] 64)) := (Below.refl _ _).alloc (Nat.le_refl _) _
  cases o
  · go_enter Tryz.func40, Tryz.ntmps40
    simp only [prtV]
    go_wp2
    go_ret
    exact ⟨rfl, bA⟩
  · go_enter Tryz.func40, Tryz.ntmps40
    simp only [prtV]
    go_wp2
    go_ret
    exact ⟨rfl, bA⟩
/-- both ways are there -/
theorem av_any (o : Bool) : Av o := by
  cases o <;> first | trivial | rfl

set_option maxRecDepth 8000 in
set_option maxHeartbeats 16000000 in
theorem iput_go (W : World) (v : Value) (m : List (Int × Int × Int)) (hm : IsM W v m) (S : ByteArray) (pv : Value) (ps : List (Int × ByteArray)) (hT : IsT W pv ps) (q : Nat) (T : ByteArray) (o : Bool) (herr : Errs W)
    (hok : okM m = true) (hst : stB S ps = true) (hTok : okB T.data.toList = true) (hq : q ≤ 40) (hq1 : q ≤ S.size) (hq2 : q + T.size ≤ 40) :
    Calls Tryz.prog 8 #[v, .agg #[.string S, pv], .int .i64 (q : Nat), .string T, .bool o] W fun r W' => ∃ v' pv', r = .returned (.tuple #[v', .agg #[.string (putF o (m.map Prod.snd) S ps (q : Nat) T).2.1, pv'], .bool (putF o (m.map Prod.snd) S ps (q : Nat) T).2.2.2]) ∧ RowsI W' W.heap.size v' (putF o (m.map Prod.snd) S ps (q : Nat) T).1 pv' (putF o (m.map Prod.snd) S ps (q : Nat) T).2.2.1 ∧ Below W.heap.size W W' := by
  obtain ⟨hSok, hSl, _⟩ := stB_parts.1 hst
  have hS40 := (ok_parts _ hSok).1
  have hT40 := (ok_parts _ hTok).1
  rw [lenL] at hS40 hT40
  obtain ⟨hgE, hmE⟩ := okM_out m hok
  obtain ⟨gE1, gE2⟩ := errs_lt0 herr
  obtain ⟨es, hes⟩ : ∃ es, m.map Prod.snd = es := ⟨_, rfl⟩
  rw [hes] at hgE ⊢
  have hpl : ps.length ≤ 900 := by have := (stB_small hst).1; omega
  clear hmE
  obtain ⟨va, vc, rfl⟩ := isM_slice hm
  obtain ⟨pa, pc, rfl, hT'⟩ := id hT
  clear hT'
  have hb0 : Below W.heap.size W ((W.alloc (.cells #[.string S, .slice pa ps.length pc] 26)).alloc (.cells #[.string ⟨#[]⟩, .slice none 0 0] 26)) := ((Below.refl _ _).alloc (Nat.le_refl _) _).alloc (by simp) _
  have c0 : ((W.alloc (.cells #[.string S, .slice pa ps.length pc] 26)).alloc (.cells #[.string ⟨#[]⟩, .slice none 0 0] 26)).cell? ⟨W.heap.size, 0, none⟩ = some (.string S) := by simp
  have c1 : ((W.alloc (.cells #[.string S, .slice pa ps.length pc] 26)).alloc (.cells #[.string ⟨#[]⟩, .slice none 0 0] 26)).cell? ⟨W.heap.size, 1, none⟩ = some (.slice pa ps.length pc) := by simp
  have r0 : ((W.alloc (.cells #[.string S, .slice pa ps.length pc] 26)).alloc (.cells #[.string ⟨#[]⟩, .slice none 0 0] 26)).cell? ⟨W.heap.size + 1, 0, none⟩ = some (.string ⟨#[]⟩) := by simp
  have r1 : ((W.alloc (.cells #[.string S, .slice pa ps.length pc] 26)).alloc (.cells #[.string ⟨#[]⟩, .slice none 0 0] 26)).cell? ⟨W.heap.size + 1, 1, none⟩ = some (.slice none 0 0) := by simp
  have rf : ∀ j, ((W.alloc (.cells #[.string S, .slice pa ps.length pc] 26)).alloc (.cells #[.string ⟨#[]⟩, .slice none 0 0] 26)).frozen? ⟨W.heap.size + 1, j, none⟩ = false := fun j => by simp
  have hX : W.heap.size < ((W.alloc (.cells #[.string S, .slice pa ps.length pc] 26)).alloc (.cells #[.string ⟨#[]⟩, .slice none 0 0] 26)).heap.size := by simp; omega
  have hR : W.heap.size + 1 < ((W.alloc (.cells #[.string S, .slice pa ps.length pc] 26)).alloc (.cells #[.string ⟨#[]⟩, .slice none 0 0] 26)).heap.size := by simp
  have hRW : W.heap.size ≤ W.heap.size + 1 := by omega
  have HM0 := (show Hid (IsM W (.slice va m.length vc) m) from hm)
  have HT0 := (show Hid (IsT W (.slice pa ps.length pc) ps) from hT)
  have HE0 := (show Hid (Errs W) from herr)
  clear hm hT herr
  go_enter Tryz.func8, Tryz.ntmps8
  go_wp2_with fail
  generalize ((W.alloc (.cells #[.string S, .slice pa ps.length pc] 26)).alloc (.cells #[.string ⟨#[]⟩, .slice none 0 0] 26)) = W1 at *
  refine (Ml.read_yes W1 _ m (HM0.out.below hb0) hok).mono ?_
  rintro e w2 ⟨bt, bb, rfl, t2, hbt, hbb, k2⟩
  rw [hes] at t2
  generalize hRR : W.heap.size + 1 = R at *
  generalize hXX : W.heap.size = X at *
  unfold prtV
  have kA2 : Below W1.heap.size W1 (w2.alloc (.cells #[.map (some bt), .map (some bb)] 64)) := k2.alloc k2.size _
  have d0 := (kA2.cell (p := ⟨X, 0, none⟩) hX).trans c0
  have d1 := (kA2.cell (p := ⟨X, 1, none⟩) hX).trans c1
  have s0 := (kA2.cell (p := ⟨R, 0, none⟩) hR).trans r0
  have s1 := (kA2.cell (p := ⟨R, 1, none⟩) hR).trans r1
  have sf := fun j => (kA2.frozen (p := ⟨R, j, none⟩) hR).trans (rf j)
  have z2 := kA2.size
  have hW1 : X ≤ W1.heap.size := by have := hb0.size; omega
  have hk2 := k2.size
  have t2l := t2.lt
  have z2' : w2.heap.size < (w2.alloc (.cells #[.map (some bt), .map (some bb)] 64)).heap.size := by simp
  have p0 : (w2.alloc (.cells #[.map (some bt), .map (some bb)] 64)).cell? ⟨w2.heap.size, 0, none⟩ = some (.map (some bt)) := by simp
  have p1 : (w2.alloc (.cells #[.map (some bt), .map (some bb)] 64)).cell? ⟨w2.heap.size, 1, none⟩ = some (.map (some bb)) := by simp
  have HTw := (show Hid (Two (w2.alloc (.cells #[.map (some bt), .map (some bb)] 64)) bt bb es) from t2.below ((Below.refl _ _).alloc (Nat.le_refl _) _))
  have HB2 := (show Hid (Below X W (w2.alloc (.cells #[.map (some bt), .map (some bb)] 64))) from hb0.trans (kA2.mono (by omega)))
  have HT2 := (show Hid (IsT (w2.alloc (.cells #[.map (some bt), .map (some bb)] 64)) (.slice pa ps.length pc) ps) from (HT0.out.below (by rw [hXX]; exact hb0)).below kA2)
  have HE2 := (show Hid (Errs (w2.alloc (.cells #[.map (some bt), .map (some bb)] 64))) from (HE0.out.below (by rw [hXX]; exact hb0)).below kA2)
  clear kA2 c0 c1 r0 r1 rf hb0 HM0 HT0 HE0 t2
  go_wp2_with fail
  refine (chain_any S _ ps _ HT2.out HE2.out).mono ?_
  rintro e w3 ⟨cf, cl, cn, cz, cx, rfl, k3, hch⟩
  obtain ⟨C0, bs, hch1, hC0, hbs, rfl, rfl, rfl, rfl, rfl⟩ := hch hst
  clear hch
  obtain ⟨D, hD⟩ : ∃ D, w2.heap.size = D := ⟨_, rfl⟩
  rw [hD] at p0 p1 z2' ⊢
  have kA3 : Below (w2.alloc (.cells #[.map (some bt), .map (some bb)] 64)).heap.size (w2.alloc (.cells #[.map (some bt), .map (some bb)] 64)) (w3.alloc (chO (bs.head?.map ad) (bs.getLast?.map ad) (ps.length : Nat) (szW ps) (txW ps))) := k3.alloc k3.size _
  have c0 := (kA3.cell (p := ⟨X, 0, none⟩) (by simp only; omega)).trans d0
  have c1 := (kA3.cell (p := ⟨X, 1, none⟩) (by simp only; omega)).trans d1
  have r0 := (kA3.cell (p := ⟨R, 0, none⟩) (by simp only; omega)).trans s0
  have r1 := (kA3.cell (p := ⟨R, 1, none⟩) (by simp only; omega)).trans s1
  have rf := fun j => (kA3.frozen (p := ⟨R, j, none⟩) (by simp only; omega)).trans (sf j)
  have p0 := (kA3.cell (p := ⟨D, 0, none⟩) (by simp only; omega)).trans p0
  have p1 := (kA3.cell (p := ⟨D, 1, none⟩) (by simp only; omega)).trans p1
  have z3 := kA3.size
  have HTw3 := (show Hid (Two (w3.alloc (chO (bs.head?.map ad) (bs.getLast?.map ad) (ps.length : Nat) (szW ps) (txW ps))) bt bb es) from HTw.out.below kA3)
  have HB3 := (show Hid (Below X W (w3.alloc (chO (bs.head?.map ad) (bs.getLast?.map ad) (ps.length : Nat) (szW ps) (txW ps)))) from HB2.out.trans (kA3.mono (by have := HB2.out.size; omega)))
  have HE3 := (show Hid (Errs (w3.alloc (chO (bs.head?.map ad) (bs.getLast?.map ad) (ps.length : Nat) (szW ps) (txW ps)))) from HE2.out.below kA3)
  have hch3 : ChainAt (w3.alloc (chO (bs.head?.map ad) (bs.getLast?.map ad) (ps.length : Nat) (szW ps) (txW ps))) w3.heap.size bs ps := hch1.move (World.alloc_heap_new _ _) (fun b hb => Below.heap_alloc _ _ _ (by have := hch1.mem b (.inr hb); omega)) (fun b hb => by have := hch1.mem b (.inr hb); omega)
  have HC3 := (show Hid (ChainAt (w3.alloc (chO (bs.head?.map ad) (bs.getLast?.map ad) (ps.length : Nat) (szW ps) (txW ps))) w3.heap.size bs ps) from hch3)
  have HBS := (show Hid (∀ b ∈ bs, D < b) from fun b hb => by have := hbs b hb; omega)
  have hbtD : bt < D := by have := t2l.1; omega
  have hbbD : bb < D := by have := t2l.2; omega
  have hbtR : R < bt := by omega
  have hbbR : R < bb := by omega
  have hc3l : w3.heap.size < (w3.alloc (chO (bs.head?.map ad) (bs.getLast?.map ad) (ps.length : Nat) (szW ps) (txW ps))).heap.size := by simp
  have hD3 : D < w3.heap.size := by have := k3.size; omega
  have hbt' : X ≤ bt := by omega
  have hbb' : X ≤ bb := by omega
  have hRX : ¬ R = X := by omega
  have hDX : ¬ D = X := by omega
  have hRD : R < D := by omega
  clear k3 kA3 d0 d1 s0 s1 sf HTw HB2 HT2 HE2 z2 hX hR hch1 hch3 hbs hC0 hbt hbb k2 z2'
  simp only [chV]
  unfold chO at *
  go_wp2_with fail
  refine (ok_any T _).mono ?_
  rintro e w4 ⟨rfl, rfl⟩
  rw [hTok]
  obtain ⟨C, hC⟩ : ∃ C, w3.heap.size = C := ⟨_, rfl⟩
  rw [hC] at HC3 hc3l hD3 ⊢
  generalize (w3.alloc (.cells #[.pointer (bs.head?.map ad), .pointer (bs.getLast?.map ad), .int .i64 (ps.length : Nat), .int .i64 (szW ps), .string (txW ps)] 69)) = w5 at *
  have hq0 : ¬ (q : Int) < 0 := by omega
  have hq4 : ¬ (40 : Int) < (q : Int) := by omega
  have h1' : ¬ (S.size : Int) < (q : Int) := by omega
  have h2' : ¬ (40 : Int) < (q : Int) + (T.size : Int) := by omega
  obtain ⟨K, hK⟩ : ∃ K : Nat, K = min (S.size - q) T.size := ⟨_, rfl⟩
  have hmin : min ((S.size : Int) - (q : Int)) (T.size : Int) = (K : Int) := by omega
  have hKT : (K : Int) ≤ (T.size : Int) := by omega
  have hK0 : (0 : Int) ≤ (K : Int) := by omega
  have hF := putF_all o es S ps q T K hst hq1 hq2 hK
  have hHL := heldN_len S.data.toList
  rw [lenL] at hHL
  have hszW := szW_held hst
  have hsm := stB_small hst
  have htx := txW_small hsm
  have hX5 : X < w5.heap.size := by omega
  have hR5 : R < w5.heap.size := by omega
  have hD5 : D < w5.heap.size := by omega
  have HK := (show Hid (K = min (S.size - q) T.size) from hK)
  have HSZ := (show Hid (szW ps = ((S.size - heldN S.data.toList : Nat) : Int)) from hszW)
  have HF := (show Hid (putF o es S ps (q : Nat) T = ((prt o es (pieL (hp S.data.toList ++ T.data.toList.drop K)) (hp S.data.toList ++ T.data.toList.drop K)).1, mkB (S.data.toList ++ T.data.toList.drop K), ps ++ (prt o es (pieL (hp S.data.toList ++ T.data.toList.drop K)) (hp S.data.toList ++ T.data.toList.drop K)).2, true)) from hF)
  clear hK hszW hF
  go_upto_region 8 with fail
  go_quiet (fail)
  obtain ⟨J, hJ⟩ : ∃ J, S ++ T.extract K T.size = J := ⟨_, rfl⟩
  have hJl : J.data.toList = S.data.toList ++ T.data.toList.drop K := by
    rw [← hJ, ByteArray.data_append, Array.toList_append, ext_from T K]
  have HJ := (show Hid _ from hJ)
  try rw [hJ]
  clear hJ
  go_wp2_with fail
  refine (way_any _ bt bb o).mono ?_
  rintro e w6 ⟨rfl, k6'⟩
  have k6 : Below w5.heap.size w5 w6 := ⟨k6'.os, k6'.tape, k6'.output, k6'.size, k6'.block⟩
  clear k6'
  have HTw6 := HTw3.out.below k6
  have HC6 := HC3.out.below k6
  have he6 := HE3.out.below k6
  have hz6 := k6.size
  have hJs : J.size ≤ 80 := by rw [← lenL, hJl, List.length_append, lenL, List.length_drop, lenL]; omega
  obtain ⟨s, hs⟩ : ∃ s, J.extract (S.size - heldN S.data.toList) J.size = s := ⟨_, rfl⟩
  have hsl : s.data.toList = hp S.data.toList ++ T.data.toList.drop K := by
    rw [← hs, ext_from J _, hJl, List.drop_append_of_le_length (by rw [lenL]; omega)]
    unfold Tx.hp
    rw [lenL]
  have FX := callsIn_wide.1 (further_x 9 (by omega) o (av_any o) X C bs ps J s (S.size - heldN S.data.toList) w6 bt bb es HC6 (fun b hb => by have := HBS.out b hb; omega) (by omega) hbt' hbb' (by omega) (by have := hsm.1; omega) (by have := hsm.1; omega) HSZ.out (by rw [← lenL J, hJl, List.length_append, lenL]; omega) (by omega) hs (by rw [← hs, ByteArray.size_extract]; omega) HTw6 hgE he6 gE1 gE2)
  rw [hsl] at FX
  have HFX := (show Hid _ from FX)
  have hgg := prt_good o es (pieL (hp S.data.toList ++ T.data.toList.drop K)) (hp S.data.toList ++ T.data.toList.drop K) hgE
  have hpn := prt_len o es (pieL (hp S.data.toList ++ T.data.toList.drop K)) (hp S.data.toList ++ T.data.toList.drop K)
  have hput := putF_ok o q T hgE hst hTok
  rw [HF.out] at hput
  obtain ⟨_, hst1, _⟩ := hput
  simp only at hst1
  obtain ⟨es1, hes1⟩ : ∃ es1, (prt o es (pieL (hp S.data.toList ++ T.data.toList.drop K)) (hp S.data.toList ++ T.data.toList.drop K)).1 = es1 := ⟨_, rfl⟩
  obtain ⟨ps1, hps1⟩ : ∃ ps1, ps ++ (prt o es (pieL (hp S.data.toList ++ T.data.toList.drop K)) (hp S.data.toList ++ T.data.toList.drop K)).2 = ps1 := ⟨_, rfl⟩
  have hFF := HF.out
  rw [hes1, hps1, ← mkB_of hJl] at hFF
  rw [hes1] at hgg
  rw [hps1] at hst1
  have hpl1 : ps1.length ≤ 900 := by have := (stB_small hst1).1; omega
  have FY := HFX.out
  rw [hes1, hps1] at FY
  have HFY := (show Hid _ from FY)
  have HFF := (show Hid (putF o es S ps (q : Nat) T = (es1, J, ps1, true)) from hFF)
  have HB6 := (show Hid (Below X W w6) from HB3.out.trans (k6.mono (by have := HB3.out.size; omega)))
  have hX6 : X ≤ w6.heap.size := by omega
  have hg1 : GoodE es1 := hgg
  have nb : ∀ b, b < D + 1 → b ∉ bs := fun b hb h => by have := HBS.out b h; omega
  have nbR := nb R (by omega)
  have nbD := nb D (by omega)
  have R0 := (k6.cell (p := ⟨R, 0, none⟩) hR5).trans r0
  have R1 := (k6.cell (p := ⟨R, 1, none⟩) hR5).trans r1
  have RF := fun j => (k6.frozen (p := ⟨R, j, none⟩) hR5).trans (rf j)
  have P0 := (k6.cell (p := ⟨D, 0, none⟩) hD5).trans p0
  have P1 := (k6.cell (p := ⟨D, 1, none⟩) hD5).trans p1
  clear FX HFX FY hFF hgg hst1 hes1 hps1 HF HTw6 HC6 he6 k6 hs hsl hpn HTw3 HC3 HE3 r0 r1 rf p0 p1 c0 c1 nb hJl
  go_wp2_with fail
  refine Calls.mono HFY.out ?_
  rintro e w9 ⟨⟨v9, rfl⟩, t9, ⟨bs1, hc9, _⟩, b9, kp9⟩
  have eR := kp9 R (by omega) (by omega) nbR (by omega) (by omega)
  have eD := kp9 D (by omega) (by omega) nbD (by omega) (by omega)
  have p0 : w9.cell? ⟨D, 0, none⟩ = some (.map (some bt)) := (World.cell?_of_block eD).trans P0
  have p1 : w9.cell? ⟨D, 1, none⟩ = some (.map (some bb)) := (World.cell?_of_block eD).trans P1
  have s0 : w9.cell? ⟨R, 0, none⟩ = some (.string ⟨#[]⟩) := (World.cell?_of_block eR).trans R0
  have s1 : w9.cell? ⟨R, 1, none⟩ = some (.slice none 0 0) := (World.cell?_of_block eR).trans R1
  have sf : ∀ j, w9.frozen? ⟨R, j, none⟩ = false := fun j => (World.frozen?_of_block eR).trans (RF j)
  have z9 := b9.size
  have HTw9 := (show Hid (Two w9 bt bb es1) from t9)
  have HC9 := (show Hid (ChainAt w9 C bs1 ps1) from hc9)
  have HB9 := (show Hid (Below X W w9) from HB6.out.trans b9)
  have hR9 : R < w9.heap.size := by omega
  clear t9 hc9 b9 kp9 eR eD R0 R1 RF P0 P1 HB6 HFY
  go_wp2_with fail
  refine (Ml.list_any _ bt bb es1 (by exact ⟨HTw9.out.th, HTw9.out.bk, HTw9.out.ne⟩) hg1.len).mono ?_
  rintro e w8 ⟨x6, rfl, hr6', k6'⟩
  have hr6 : w8.ownsRow w9.heap.size 83 3 x6 (prs es1).length (cellsM (prs es1)) := hr6'
  have k6 : Below w9.heap.size w9 w8 := ⟨k6'.os, k6'.tape, k6'.output, k6'.size, k6'.block⟩
  have HC6 := (show Hid (ChainAt w8 C bs1 ps1) from HC9.out.below k6)
  obtain ⟨x6a, x6c, rfl⟩ := row_slice hr6
  have HR6 := (show Hid _ from hr6)
  have HK6 := (show Hid (Below w9.heap.size w9 w8) from k6)
  clear hr6' k6' hr6 k6
  go_wp2_with fail
  refine (St.list_any _ C bs1 ps1 (by exact ⟨HC6.out.blk, HC6.out.len, HC6.out.lnk, HC6.out.off, HC6.out.nd⟩) hpl1).mono ?_
  rintro e w10 ⟨y7, rfl, hr7', k7'⟩
  have hr7 : w10.ownsRow w8.heap.size 79 2 y7 ps1.length (cellsT ps1) := hr7'
  have k7 : Below w8.heap.size w8 w10 := ⟨k7'.os, k7'.tape, k7'.output, k7'.size, k7'.block⟩
  have z6 := HK6.out.size
  have t0 := (k7.cell (p := ⟨R, 0, none⟩) (by simp only; omega)).trans ((HK6.out.cell (p := ⟨R, 0, none⟩) hR9).trans s0)
  have t1 := (k7.cell (p := ⟨R, 1, none⟩) (by simp only; omega)).trans ((HK6.out.cell (p := ⟨R, 1, none⟩) hR9).trans s1)
  have tf := fun j => (k7.frozen (p := ⟨R, j, none⟩) (by simp only; omega)).trans ((HK6.out.frozen (p := ⟨R, j, none⟩) hR9).trans (sf j))
  obtain ⟨y7a, y7c, rfl⟩ := row_slice hr7
  have HR7 := (show Hid _ from hr7)
  have HK7 := (show Hid (Below w8.heap.size w8 w10) from k7)
  clear hr7' k7' hr7 k7
  have qq := set_two t0 t1 (.string J) (.slice y7a ps1.length y7c)
  have z3' : X ≤ w9.heap.size := by omega
  have kb := HB9.out.trans ((HK6.out.trans (HK7.out.mono z6)).mono z3')
  have rr := rowsI_fin HR6.out HK7.out HR7.out z3' hR9 z6 (Nat.le_refl _) (.string J) (.slice y7a ps1.length y7c)
  clear HR6 HR7 HK6 HK7
  go_wp2
  refine bodyPost_ret (v := .tuple #[.slice x6a (prs es1).length x6c, .agg #[.string J, .slice y7a ps1.length y7c], .bool true]) ?_ rfl ?_
  · simp [results, Tryz.results8, go_sem, qq.1, qq.2]
  · exact ⟨_, _, by rw [HFF.out], by rw [hXX, HFF.out]; exact rr, by rw [hXX]; exact (kb.setCell (p := ⟨R, 0, none⟩) hRW _).setCell (p := ⟨R, 1, none⟩) hRW _⟩
end Go.Proofs.YtdggchcapjidjabGreatDoor.Ip

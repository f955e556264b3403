/- Walks: a text is cut at its blanks, by the model. -/
import Derived.Test.YtnjggammbebpkaaGreatDoorApp
import Derived.Test.YtnjggammbebpkaaGreatDoorDec
import Derived.Test.YtnjggammbebpkaaGreatDoorTx
import Derived.Laws.OwnMore
import Derived.Maps.AppendAt
namespace Go.Proofs.YtnjggammbebpkaaGreatDoor.CutW
open Go.RowKit Go.Shelf Go.Proofs.YtnjggammbebpkaaGreatDoor.Kit Go.Proofs.YtnjggammbebpkaaGreatDoor.App
open Go.Proofs.YtnjggammbebpkaaGreatDoor.Itoa (isU8 oneS isU8_int oneS_int conv1)
set_option linter.unusedVariables false
set_option linter.unusedSimpArgs false

/-- one byte more -/
def stepW (ws : List ByteArray) (c : UInt8) : List ByteArray := if c = 32 then ws ++ [⟨#[]⟩] else ws.dropLast ++ [ws.getLastD ⟨#[]⟩ ++ ⟨#[c]⟩]
/-- the words -/
def cutF (l : List UInt8) : List ByteArray := l.foldl stepW [⟨#[]⟩]

theorem step_len (ws : List ByteArray) (c : UInt8) (h : 1 ≤ ws.length) : 1 ≤ (stepW ws c).length ∧ (stepW ws c).length ≤ ws.length + 1 := by
  unfold stepW; split
  · simp
  · simp <;> omega
theorem cutF_snoc (l : List UInt8) (c : UInt8) : cutF (l ++ [c]) = stepW (cutF l) c := by unfold cutF; rw [List.foldl_append]; rfl
theorem fold_len (l : List UInt8) : ∀ ws : List ByteArray, 1 ≤ ws.length → 1 ≤ (l.foldl stepW ws).length ∧ (l.foldl stepW ws).length ≤ ws.length + l.length := by
  induction l with
  | nil => intro ws h; exact ⟨h, by simp⟩
  | cons c l ih =>
    intro ws h
    have h1 := step_len ws c h
    have h2 := ih (stepW ws c) h1.1
    simp only [List.foldl_cons, List.length_cons]
    exact ⟨h2.1, by omega⟩
theorem cutF_len (l : List UInt8) : 1 ≤ (cutF l).length ∧ (cutF l).length ≤ 1 + l.length := fold_len l [⟨#[]⟩] (by simp)

/-- what words are together is no more than the text -/
theorem step_size (ws : List ByteArray) (c : UInt8) (n : Nat) (h : ∀ x ∈ ws, x.size ≤ n) : ∀ x ∈ stepW ws c, x.size ≤ n + 1 := by
  intro x hx
  unfold stepW at hx
  split at hx
  · rcases List.mem_append.1 hx with q | q
    · have := h x q; omega
    · simp at q; rw [q]; exact Nat.zero_le _
  · rcases List.mem_append.1 hx with q | q
    · have := h x ((List.dropLast_sublist ws).subset q); omega
    · rw [List.mem_singleton.1 q, ByteArray.size_append]
      have : (ws.getLastD ⟨#[]⟩).size ≤ n := by
        cases hw : ws with
        | nil => exact Nat.zero_le _
        | cons a l =>
          have hm : (a :: l).getLastD ⟨#[]⟩ ∈ ws := by
            rw [hw, List.getLastD_eq_getLast?, List.getLast?_eq_some_getLast (by simp)]
            exact List.getLast_mem _
          exact h _ hm
      have e : (⟨#[c]⟩ : ByteArray).size = 1 := rfl
      omega
theorem fold_size (l : List UInt8) : ∀ (ws : List ByteArray) (n : Nat), (∀ x ∈ ws, x.size ≤ n) → ∀ x ∈ l.foldl stepW ws, x.size ≤ n + l.length := by
  induction l with
  | nil => intro ws n h x hx; exact h x hx
  | cons c l ih =>
    intro ws n h x hx
    have := ih (stepW ws c) (n + 1) (step_size ws c n h) x hx
    simp only [List.length_cons]; omega
theorem cutF_size (l : List UInt8) : ∀ x ∈ cutF l, x.size ≤ l.length := by
  intro x hx
  have := fold_size l [⟨#[]⟩] 0 (fun x hx => by simp at hx; rw [hx]; exact Nat.zero_le _) x hx
  omega

theorem fold_word (l : List UInt8) (h : (32 : UInt8) ∉ l) : ∀ (P : List ByteArray) (y : ByteArray), l.foldl stepW (P ++ [y]) = P ++ [⟨(y.data.toList ++ l).toArray⟩] := by
  induction l with
  | nil => intro P y; simp
  | cons c l ih =>
    intro P y
    have hc : c ≠ 32 := fun e => h (by simp [e])
    have hs : stepW (P ++ [y]) c = P ++ [y ++ ⟨#[c]⟩] := by
      unfold stepW; rw [if_neg hc]; simp
    rw [List.foldl_cons, hs, ih (fun q => h (List.mem_cons_of_mem _ q))]
    congr 2
    simp [ByteArray.data_append]
theorem fold_cut (x r : List UInt8) (h : (32 : UInt8) ∉ x) (P : List ByteArray) : (x ++ 32 :: r).foldl stepW (P ++ [⟨#[]⟩]) = r.foldl stepW ((P ++ [⟨x.toArray⟩]) ++ [⟨#[]⟩]) := by
  rw [List.foldl_append, fold_word x h, List.foldl_cons]
  congr 1

/-- an element of an own row is written -/
theorem row_set {w : World} {base : Nat} {e : TypeId} {g n cap : Nat} {xs : List Value} (h : w.ownsRow base e 1 (.slice (some ⟨g, 0, none⟩) n cap) n xs) (j : Nat) (u : Value) :
    (w.setCell ⟨g, j, none⟩ u).ownsRow base e 1 (.slice (some ⟨g, 0, none⟩) n cap) n (xs.set j u) := by
  refine ⟨by simpa using h.1, ?_⟩
  rcases h.2 with ⟨h', _⟩ | ⟨g', cap', cur, h', hb, hg, hc, hm, hsz, ht⟩
  · simp at h'
  · simp only [Value.slice.injEq, Option.some.injEq, Addr.mk.injEq, and_true, true_and] at h'
    obtain ⟨rfl, rfl⟩ := h'
    refine .inr ⟨g, cap, cur.setIfInBounds j u, rfl, hb, ?_, hc, hm, by simpa using hsz, ?_⟩
    · unfold World.setCell
      simp [Array.getElem?_modify, hg]
    · rw [← ht]
      simp [List.take_set]
theorem row_last {W : World} {b g cap : Nat} {e : TypeId} {ws : List ByteArray} (h : W.ownsRow b e 1 (.slice (some ⟨g, 0, none⟩) ws.length cap) ws.length (ws.map Value.string)) (h1 : 1 ≤ ws.length) :
    W.cell? ⟨g, ws.length - 1, none⟩ = some (.string (ws.getLastD ⟨#[]⟩)) := by
  rw [h.cellAt (ws.length - 1) (by omega), List.getElem?_map]
  have : ws[ws.length - 1]? = some (ws.getLastD ⟨#[]⟩) := by
    rw [List.getLastD_eq_getLast?, ← List.getLast?_eq_getElem?]
    cases hq : ws.getLast? with
    | none => rw [List.getLast?_eq_none_iff] at hq; rw [hq] at h1; simp at h1
    | some x => rfl
  rw [this]; rfl
theorem set_last (ws : List ByteArray) (x : ByteArray) (h : 1 ≤ ws.length) : (ws.map Value.string).set (ws.length - 1) (.string x) = (ws.dropLast ++ [x]).map Value.string := by
  rw [← List.map_set]
  congr 1
  conv => lhs; rw [← List.dropLast_concat_getLast (l := ws) (by intro e; rw [e] at h; simp at h)]
  rw [List.set_append, if_neg (by simp)]
  simp
end Go.Proofs.YtnjggammbebpkaaGreatDoor.CutW

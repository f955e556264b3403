/- What holds in a region that draws its order and makes a struct: its block is made, or not yet; it is filled, or not yet. No program is named here. -/
import Derived.Test.YtnjggammbebpkaaGreatDoorRi
import Derived.Test.YtnjggammbebpkaaGreatDoorKit
namespace Go.Proofs.YtnjggammbebpkaaGreatDoor.Ri
open Go.RowKit Go.Shelf Go.Proofs.YtnjggammbebpkaaGreatDoor.Kit

structure St8 (W : World) (o : Obj) (vals : List Value) (mk st : Nat) (l : Array Bool) (x : Value) (w' : World) : Prop where
  none' : l.getD mk false = false → l.getD st false = false → w' = W
  made' : l.getD mk false = true → l.getD st false = false → x = .pointer (some ⟨W.heap.size, 0, none⟩) ∧ w' = W.alloc o
  full' : l.getD st false = true → x = .pointer (some ⟨W.heap.size, 0, none⟩) ∧ Below W.heap.size W w' ∧ (∀ j u, vals[j]? = some u → w'.cell? ⟨W.heap.size, j, none⟩ = some u) ∧ (∀ j, w'.frozen? ⟨W.heap.size, j, none⟩ = false) ∧ W.heap.size < w'.heap.size

variable {W : World} {o : Obj} {vals : List Value} {mk st : Nat} {l : Array Bool} {x : Value} {w' : World}
theorem St8.start (W : World) (o : Obj) (vals : List Value) (mk st n : Nat) : St8 W o vals mk st (Array.replicate n false) undef W :=
  ⟨fun _ _ => rfl, fun h => absurd h (by rw [Rg.rep_none]; decide), fun h => absurd h (by rw [Rg.rep_none]; decide)⟩
theorem St8.below (h : St8 W o vals mk st l x w') (q : l.getD st false = false) : Below W.heap.size W w' := by
  cases hm : l.getD mk false
  · rw [h.none' hm q]; exact Below.refl _ _
  · rw [(h.made' hm q).2]; exact (Below.refl _ _).alloc (Nat.le_refl _) _
theorem St8.other (h : St8 W o vals mk st l x w') {i : Nat} (h1 : i ≠ mk) (h2 : i ≠ st) : St8 W o vals mk st (l.setIfInBounds i true) x w' := by
  refine ⟨?_, ?_, ?_⟩
  · rw [getD_set_ne false h1, getD_set_ne false h2]; exact h.none'
  · rw [getD_set_ne false h1, getD_set_ne false h2]; exact h.made'
  · rw [getD_set_ne false h2]; exact h.full'
theorem St8.mk1 (hs : mk < l.size) (hne : mk ≠ st) (q : l.getD st false = false) : St8 W o vals mk st (l.setIfInBounds mk true) (.pointer (some ⟨W.heap.size, 0, none⟩)) (W.alloc o) := by
  refine ⟨?_, fun _ _ => ⟨rfl, rfl⟩, ?_⟩
  · intro h; rw [Rg.set_same hs] at h; cases h
  · intro h; rw [getD_set_ne false hne, q] at h; cases h
theorem St8.put1 (hs : st < l.size) (hx : x = .pointer (some ⟨W.heap.size, 0, none⟩)) (h1 : Below W.heap.size W w') (h2 : ∀ j u, vals[j]? = some u → w'.cell? ⟨W.heap.size, j, none⟩ = some u) (h3 : ∀ j, w'.frozen? ⟨W.heap.size, j, none⟩ = false) (h4 : W.heap.size < w'.heap.size) :
    St8 W o vals mk st (l.setIfInBounds st true) x w' := by
  refine ⟨?_, ?_, fun _ => ⟨hx, h1, h2, h3, h4⟩⟩
  · intro _ h; rw [Rg.set_same hs] at h; cases h
  · intro _ h; rw [Rg.set_same hs] at h; cases h
end Go.Proofs.YtnjggammbebpkaaGreatDoor.Ri

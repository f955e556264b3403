/- What holds in a region that draws its order, calls what makes a slice, and makes a struct of two cells: its block may be made ahead of the call, or behind it. No program is named here. -/
import Derived.Test.YtihhegjkliolhaaGreatDoorRi
import Derived.Test.YtihhegjkliolhaaGreatDoorKit
namespace Go.Proofs.YtihhegjkliolhaaGreatDoor.Ri
open Go.RowKit Go.Shelf Go.Proofs.YtihhegjkliolhaaGreatDoor.Kit
set_option linter.unusedVariables false

structure St9 (W0 : World) (T : TypeId) (z0 z1 v0 v1 : Value) (al st cl j : Nat) (l : Array Bool) (x y : Value) (w' : World) : Prop where
  bel : Below W0.heap.size W0 w'
  made : l.getD al false = true → ∃ g, x = .pointer (some ⟨g, 0, none⟩) ∧ W0.heap.size ≤ g ∧ (l.getD st false = false → w'.heap[g]? = some (.cells #[z0, z1] T (0, 0))) ∧ (l.getD st false = true → w'.heap[g]? = some (.cells #[v0, v1] T (0, 0)))
  called : l.getD cl false = true → ∃ a c, y = .slice a j c

variable {W0 : World} {T : TypeId} {z0 z1 v0 v1 : Value} {al st cl j : Nat} {l : Array Bool} {x y : Value} {w' : World}
theorem St9.start (n : Nat) (h : Below W0.heap.size W0 w') : St9 W0 T z0 z1 v0 v1 al st cl j (Array.replicate n false) x y w' :=
  ⟨h, fun h => absurd h (by rw [Rg.rep_none]; decide), fun h => absurd h (by rw [Rg.rep_none]; decide)⟩
theorem St9.other (h : St9 W0 T z0 z1 v0 v1 al st cl j l x y w') {i : Nat} (h1 : i ≠ al) (h2 : i ≠ st) (h3 : i ≠ cl) : St9 W0 T z0 z1 v0 v1 al st cl j (l.setIfInBounds i true) x y w' := by
  refine ⟨h.bel, ?_, ?_⟩
  · rw [getD_set_ne false h1, getD_set_ne false h2]; exact h.made
  · rw [getD_set_ne false h3]; exact h.called
theorem St9.call (h : St9 W0 T z0 z1 v0 v1 al st cl j l x y w') (h1 : cl ≠ al) (h2 : cl ≠ st) (hq : l.getD st false = false) {w9 : World} (k : Below w'.heap.size w' w9) (a : Option Addr) (c : Nat) :
    St9 W0 T z0 z1 v0 v1 al st cl j (l.setIfInBounds cl true) x (.slice a j c) w9 := by
  refine ⟨h.bel.trans (k.mono h.bel.size), ?_, fun _ => ⟨a, c, rfl⟩⟩
  rw [getD_set_ne false h1, getD_set_ne false h2]
  intro ha
  obtain ⟨g, hx, hg, m1, m2⟩ := h.made ha
  refine ⟨g, hx, hg, fun hs => ?_, fun hs => by rw [hq] at hs; cases hs⟩
  have := m1 hs
  rw [k.block g (Array.getElem?_eq_some_iff.1 this).1]; exact this
theorem St9.make (h : St9 W0 T z0 z1 v0 v1 al st cl j l x y w') (hs : al < l.size) (h1 : al ≠ st) (h2 : al ≠ cl) (hq : l.getD st false = false) :
    St9 W0 T z0 z1 v0 v1 al st cl j (l.setIfInBounds al true) (.pointer (some ⟨w'.heap.size, 0, none⟩)) y (w'.alloc (.cells #[z0, z1] T)) := by
  refine ⟨h.bel.alloc h.bel.size _, fun _ => ⟨w'.heap.size, rfl, h.bel.size, fun _ => heap_alloc_new w' _, fun hh => ?_⟩, ?_⟩
  · rw [getD_set_ne false h1, hq] at hh; cases hh
  · rw [getD_set_ne false h2]; exact h.called
theorem St9.put {g : Nat} (h : St9 W0 T z0 z1 v0 v1 al st cl j l x y w') (hs : st < l.size) (h1 : st ≠ al) (h2 : st ≠ cl) (hx : x = .pointer (some ⟨g, 0, none⟩)) (hg : W0.heap.size ≤ g) (m : w'.heap[g]? = some (.cells #[z0, z1] T (0, 0))) :
    St9 W0 T z0 z1 v0 v1 al st cl j (l.setIfInBounds st true) x y ((w'.setCell ⟨g, 0, none⟩ v0).setCell ⟨g, 1, none⟩ v1) := by
  refine ⟨(h.bel.setCell (p := ⟨g, 0, none⟩) hg _).setCell (p := ⟨g, 1, none⟩) hg _, fun _ => ⟨g, hx, hg, fun hh => ?_, fun _ => ?_⟩, ?_⟩
  · rw [Rg.set_same hs] at hh; cases hh
  · unfold World.setCell
    simp [Array.getElem?_modify, m]
  · rw [getD_set_ne false h2]; exact h.called
end Go.Proofs.YtihhegjkliolhaaGreatDoor.Ri

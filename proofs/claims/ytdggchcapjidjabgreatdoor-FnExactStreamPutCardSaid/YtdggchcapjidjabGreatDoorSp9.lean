/- What holds in a region that draws its order, calls StreamPut, and makes the box of the stream that is told: it may be made ahead of the call, or behind it. -/
import Derived.Test.YtdggchcapjidjabGreatDoorIg
import Derived.Test.YtdggchcapjidjabGreatDoorRi
namespace Go.Proofs.YtdggchcapjidjabGreatDoor.Ip
open Go.RowKit Go.Shelf Go.Proofs.YtdggchcapjidjabGreatDoor.Kit Go.Proofs.YtdggchcapjidjabGreatDoor.Mp Go.Proofs.YtdggchcapjidjabGreatDoor.Mm Go.Proofs.YtdggchcapjidjabGreatDoor.Tx Go.Proofs.YtdggchcapjidjabGreatDoor.Nm Go.Proofs.YtdggchcapjidjabGreatDoor.App Go.Proofs.YtdggchcapjidjabGreatDoor.St Go.Proofs.YtdggchcapjidjabGreatDoor.StP
set_option linter.unusedSimpArgs false
set_option linter.unusedVariables false

/-- a box of a stream holds no numbers -/
theorem box_no {W : World} {g : Nat} {s : ByteArray} {a : Option Addr} {n c : Nat} {T : TypeId} {f : Nat × Nat} (hg : W.heap[g]? = some (.cells #[.string s, .slice a n c] T f)) (k : Nat) (z : Int) : W.cell? ⟨g, k, none⟩ ≠ some (.int .i64 z) := by
  intro h
  match k with
  | 0 => simp [World.cell?, hg] at h
  | 1 => simp [World.cell?, hg] at h
  | k + 2 => simp [World.cell?, hg] at h
theorem two_set {W : World} {g b : Nat} (h : b ≠ g) (u0 u1 : Value) : ((W.setCell ⟨g, 0, none⟩ u0).setCell ⟨g, 1, none⟩ u1).heap[b]? = W.heap[b]? :=
  (Below.heap_setCell _ _ _ _ h).trans (Below.heap_setCell _ _ _ _ h)
theorem isM_box {W : World} {g : Nat} {s : ByteArray} {a : Option Addr} {n c : Nat} {T : TypeId} {f : Nat × Nat} (hg : W.heap[g]? = some (.cells #[.string s, .slice a n c] T f)) {v : Value} {m : List (Int × Int × Int)} (h : IsM W v m) (u0 u1 : Value) : IsM ((W.setCell ⟨g, 0, none⟩ u0).setCell ⟨g, 1, none⟩ u1) v m := by
  rcases h with h | ⟨b, o, cap, h1, h2, h3, h5, h4⟩
  · exact .inl h
  · refine .inr ⟨b, o, cap, h1, h2, h3, by simpa [World.setCell] using h5, fun i p hp => ?_⟩
    have q := h4 i p hp
    have hne : b ≠ g := by
      rintro rfl
      exact box_no hg _ _ q.1
    exact q.same (two_set hne u0 u1)
theorem isT_box {W : World} {g : Nat} {s : ByteArray} {a : Option Addr} {n c : Nat} {T : TypeId} {f : Nat × Nat} (hg : W.heap[g]? = some (.cells #[.string s, .slice a n c] T f)) {v : Value} {m : List (Int × ByteArray)} (h : IsT W v m) (u0 u1 : Value) : IsT ((W.setCell ⟨g, 0, none⟩ u0).setCell ⟨g, 1, none⟩ u1) v m := by
  obtain ⟨x, cap, h1, h2, h3, h4⟩ := h
  refine ⟨x, cap, h1, h2, h3, ?_⟩
  rcases h4 with r | ⟨b, o, rfl, hc⟩
  · exact .inl r
  · refine .inr ⟨b, o, rfl, fun i p hp => ?_⟩
    have q := hc i p hp
    have hne : b ≠ g := by
      rintro rfl
      exact box_no hg _ _ q.1
    exact q.same (two_set hne u0 u1)

structure Sp9 (W0 : World) (es : List (Int × Int)) (S : ByteArray) (ps : List (Int × ByteArray)) (al st cl : Nat) (l : Array Bool) (x c0 c1 : Value) (w' : World) : Prop where
  bel : Below W0.heap.size W0 w'
  made : l.getD al false = true → ∃ g, x = .pointer (some ⟨g, 0, none⟩) ∧ W0.heap.size ≤ g ∧ (l.getD st false = false → w'.heap[g]? = some (.cells #[.string ⟨#[]⟩, .slice none 0 0] 26 (0, 0))) ∧ (l.getD st false = true → ∃ pa pc, c1 = .agg #[.string S, .slice pa ps.length pc] ∧ w'.heap[g]? = some (.cells #[.string S, .slice pa ps.length pc] 26 (0, 0)))
  called : l.getD cl false = true → ∃ va vc pa pc, c0 = .slice va (prs es).length vc ∧ c1 = .agg #[.string S, .slice pa ps.length pc] ∧ IsM w' (.slice va (prs es).length vc) (prs es) ∧ IsT w' (.slice pa ps.length pc) ps

variable {W0 : World} {es : List (Int × Int)} {S : ByteArray} {ps : List (Int × ByteArray)} {al st cl : Nat} {l : Array Bool} {x c0 c1 : Value} {w' : World}
theorem Sp9.start (n : Nat) (h : Below W0.heap.size W0 w') : Sp9 W0 es S ps al st cl (Array.replicate n false) x c0 c1 w' :=
  ⟨h, fun h => absurd h (by rw [Rg.rep_none]; decide), fun h => absurd h (by rw [Rg.rep_none]; decide)⟩
theorem Sp9.other (h : Sp9 W0 es S ps al st cl l x c0 c1 w') {i : Nat} (h1 : i ≠ al) (h2 : i ≠ st) (h3 : i ≠ cl) : Sp9 W0 es S ps al st cl (l.setIfInBounds i true) x c0 c1 w' := by
  refine ⟨h.bel, ?_, ?_⟩
  · rw [getD_set_ne false h1, getD_set_ne false h2]; exact h.made
  · rw [getD_set_ne false h3]; exact h.called
theorem Sp9.call (h : Sp9 W0 es S ps al st cl l x c0 c1 w') (h1 : cl ≠ al) (h2 : cl ≠ st) (hq : l.getD st false = false) {w9 : World} (k : Below w'.heap.size w' w9) {va pa : Option Addr} {vc pc : Nat} (hM : IsM w9 (.slice va (prs es).length vc) (prs es)) (hT : IsT w9 (.slice pa ps.length pc) ps) :
    Sp9 W0 es S ps al st cl (l.setIfInBounds cl true) x (.slice va (prs es).length vc) (.agg #[.string S, .slice pa ps.length pc]) w9 := by
  refine ⟨h.bel.trans (k.mono h.bel.size), ?_, fun _ => ⟨va, vc, pa, pc, rfl, rfl, hM, hT⟩⟩
  rw [getD_set_ne false h1, getD_set_ne false h2]
  intro ha
  obtain ⟨g, hx, hg, m1, m2⟩ := h.made ha
  refine ⟨g, hx, hg, fun hs => ?_, fun hs => by rw [hq] at hs; cases hs⟩
  have := m1 hs
  rw [k.block g (Array.getElem?_eq_some_iff.1 this).1]; exact this
theorem Sp9.make (h : Sp9 W0 es S ps al st cl l x c0 c1 w') (hs : al < l.size) (h1 : al ≠ st) (h2 : al ≠ cl) (hq : l.getD st false = false) :
    Sp9 W0 es S ps al st cl (l.setIfInBounds al true) (.pointer (some ⟨w'.heap.size, 0, none⟩)) c0 c1 (w'.alloc (.cells #[.string ⟨#[]⟩, .slice none 0 0] 26)) := by
  have bA : Below w'.heap.size w' (w'.alloc (.cells #[.string ⟨#[]⟩, .slice none 0 0] 26)) := (Below.refl _ _).alloc (Nat.le_refl _) _
  refine ⟨h.bel.alloc h.bel.size _, fun _ => ⟨w'.heap.size, rfl, h.bel.size, fun _ => World.alloc_heap_new w' _, fun hh => ?_⟩, ?_⟩
  · rw [getD_set_ne false h1, hq] at hh; cases hh
  · rw [getD_set_ne false h2]
    intro hc
    obtain ⟨va, vc, pa, pc, e0, e1, hM, hT⟩ := h.called hc
    exact ⟨va, vc, pa, pc, e0, e1, hM.below bA, hT.below bA⟩
theorem Sp9.put {g : Nat} {pa : Option Addr} {pc : Nat} (h : Sp9 W0 es S ps al st cl l x c0 c1 w') (hs : st < l.size) (h1 : st ≠ al) (h2 : st ≠ cl) (hx : x = .pointer (some ⟨g, 0, none⟩)) (hg : W0.heap.size ≤ g) (m : w'.heap[g]? = some (.cells #[.string ⟨#[]⟩, .slice none 0 0] 26 (0, 0))) (e1 : c1 = .agg #[.string S, .slice pa ps.length pc]) :
    Sp9 W0 es S ps al st cl (l.setIfInBounds st true) x c0 c1 ((w'.setCell ⟨g, 0, none⟩ (.string S)).setCell ⟨g, 1, none⟩ (.slice pa ps.length pc)) := by
  refine ⟨(h.bel.setCell (p := ⟨g, 0, none⟩) hg _).setCell (p := ⟨g, 1, none⟩) hg _, fun _ => ⟨g, hx, hg, fun hh => ?_, fun _ => ⟨pa, pc, e1, ?_⟩⟩, ?_⟩
  · rw [Rg.set_same hs] at hh; cases hh
  · unfold World.setCell
    simp [Array.getElem?_modify, m]
  · rw [getD_set_ne false h2]
    intro hc
    obtain ⟨va, vc, pa', pc', q0, q1, hM, hT⟩ := h.called hc
    exact ⟨va, vc, pa', pc', q0, q1, isM_box m hM _ _, isT_box m hT _ _⟩
/-- values that a call tells anew: what is listed does not hang on them -/
theorem vals_new {l : Array Bool} {VV VV' t : Nat → Value} (h : Rg.Vals l VV t) (i : Nat) (c : Value) (hc : c = VV' i) (hs : ∀ j, j ≠ i → l.getD j false = true → VV j = VV' j) : Rg.Vals (l.setIfInBounds i true) VV' (fun j => if j = i then c else t j) := by
  intro j hj
  by_cases e : j = i
  · simp [e, hc]
  · rw [getD_set_ne false (fun q => e q.symm)] at hj
    simp [e, h j hj, hs j e hj]
end Go.Proofs.YtdggchcapjidjabGreatDoor.Ip

/- What stands while a region makes a row of one, appends it, and stores what came of it: by what is listed. No program is named here. -/
import Derived.Test.YtfmjhbdbgcgoiaaGreatDoorRi
import Derived.Test.YtfmjhbdbgcgoiaaGreatDoorApp
namespace Go.Proofs.YtfmjhbdbgcgoiaaGreatDoor.Ap
open Go.RowKit Go.Shelf Go.Proofs.YtfmjhbdbgcgoiaaGreatDoor.App
set_option linter.unusedVariables false

/-- the row of one is made at mi, appended at ai, what came of it is stored at si -/
structure Ap (mi ai si : Nat) (P0 : World → Prop) (P1 P2 P3 : Value → World → Prop) (l : Array Bool) (x y : Value) (w' : World) : Prop where
  up : (l.getD ai false = true → l.getD mi false = true) ∧ (l.getD si false = true → l.getD ai false = true)
  a0 : l.getD mi false = false → P0 w'
  a1 : l.getD mi false = true → l.getD ai false = false → P1 x w'
  a2 : l.getD ai false = true → l.getD si false = false → P2 y w'
  a3 : l.getD si false = true → P3 y w'
section
variable {mi ai si : Nat} {P0 : World → Prop} {P1 P2 P3 : Value → World → Prop} {l : Array Bool} {x y : Value} {w' : World}
theorem Ap.start (n : Nat) (h : P0 w') : Ap mi ai si P0 P1 P2 P3 (Array.replicate n false) x y w' := by
  have e : ∀ i, (Array.replicate n false).getD i false = false := fun i => by
    cases q : (Array.replicate n false).getD i false
    · rfl
    · exact absurd q (by rw [Rg.rep_none]; decide)
  exact ⟨⟨fun q => (by rw [e] at q; cases q), fun q => (by rw [e] at q; cases q)⟩, fun _ => h, fun q => (by rw [e] at q; cases q), fun q => (by rw [e] at q; cases q), fun q => (by rw [e] at q; cases q)⟩
theorem Ap.other (h : Ap mi ai si P0 P1 P2 P3 l x y w') {i : Nat} (h1 : i ≠ mi) (h2 : i ≠ ai) (h3 : i ≠ si) : Ap mi ai si P0 P1 P2 P3 (l.setIfInBounds i true) x y w' := by
  refine ⟨?_, ?_, ?_, ?_, ?_⟩
  · rw [getD_set_ne false h1, getD_set_ne false h2, getD_set_ne false h3]; exact h.up
  · rw [getD_set_ne false h1]; exact h.a0
  · rw [getD_set_ne false h1, getD_set_ne false h2]; exact h.a1
  · rw [getD_set_ne false h2, getD_set_ne false h3]; exact h.a2
  · rw [getD_set_ne false h3]; exact h.a3
theorem Ap.none_a (h : Ap mi ai si P0 P1 P2 P3 l x y w') (hn : l.getD mi false = false) : l.getD ai false = false := by
  cases q : l.getD ai false
  · rfl
  · rw [h.up.1 q] at hn; cases hn
theorem Ap.none_s (h : Ap mi ai si P0 P1 P2 P3 l x y w') (hn : l.getD ai false = false) : l.getD si false = false := by
  cases q : l.getD si false
  · rfl
  · rw [h.up.2 q] at hn; cases hn
theorem Ap.call (h : Ap mi ai si P0 P1 P2 P3 l x y w') {i : Nat} (h1 : i ≠ mi) (h2 : i ≠ ai) (h3 : i ≠ si) (hn : l.getD mi false = false) {w9 : World} (k : P0 w9) : Ap mi ai si P0 P1 P2 P3 (l.setIfInBounds i true) x y w9 := by
  have h5 := h.none_a hn
  have h7 := h.none_s h5
  refine ⟨?_, ?_, ?_, ?_, ?_⟩
  · rw [getD_set_ne false h1, getD_set_ne false h2, getD_set_ne false h3]; exact h.up
  · exact fun _ => k
  · rw [getD_set_ne false h1, hn]; intro q; cases q
  · rw [getD_set_ne false h2, h5]; intro q; cases q
  · rw [getD_set_ne false h3, h7]; intro q; cases q
theorem Ap.make (h : Ap mi ai si P0 P1 P2 P3 l x y w') (h1 : mi ≠ ai) (h2 : mi ≠ si) (hs : mi < l.size) (hn : l.getD mi false = false) {x9 : Value} {w9 : World} (k : P1 x9 w9) : Ap mi ai si P0 P1 P2 P3 (l.setIfInBounds mi true) x9 y w9 := by
  have h5 := h.none_a hn
  have h7 := h.none_s h5
  refine ⟨?_, ?_, ?_, ?_, ?_⟩
  · rw [getD_set_ne false h1, getD_set_ne false h2, h5, h7]; exact ⟨fun q => (by cases q), fun q => (by cases q)⟩
  · rw [Rg.set_same hs]; intro q; cases q
  · exact fun _ _ => k
  · rw [getD_set_ne false h1, h5]; intro q; cases q
  · rw [getD_set_ne false h2, h7]; intro q; cases q
theorem Ap.fill (h : Ap mi ai si P0 P1 P2 P3 l x y w') (h1 : ai ≠ mi) (h2 : ai ≠ si) (hs : ai < l.size) (hn : l.getD ai false = false) (hm : l.getD mi false = true) {y9 : Value} {w9 : World} (k : P2 y9 w9) : Ap mi ai si P0 P1 P2 P3 (l.setIfInBounds ai true) x y9 w9 := by
  have h7 := h.none_s hn
  refine ⟨?_, ?_, ?_, ?_, ?_⟩
  · rw [getD_set_ne false h1, getD_set_ne false h2, h7]; exact ⟨fun _ => hm, fun q => (by cases q)⟩
  · rw [getD_set_ne false h1, hm]; intro q; cases q
  · rw [Rg.set_same hs]; intro _ q; cases q
  · exact fun _ _ => k
  · rw [getD_set_ne false h2, h7]; intro q; cases q
theorem Ap.lay (h : Ap mi ai si P0 P1 P2 P3 l x y w') (h1 : si ≠ mi) (h2 : si ≠ ai) (hs : si < l.size) (ha : l.getD ai false = true) {w9 : World} (k : P3 y w9) : Ap mi ai si P0 P1 P2 P3 (l.setIfInBounds si true) x y w9 := by
  refine ⟨?_, ?_, ?_, ?_, ?_⟩
  · rw [getD_set_ne false h1, getD_set_ne false h2, ha, h.up.1 ha]; exact ⟨fun _ => rfl, fun _ => rfl⟩
  · rw [getD_set_ne false h1, h.up.1 ha]; intro q; cases q
  · rw [getD_set_ne false h2, ha]; intro _ q; cases q
  · rw [Rg.set_same hs]; intro _ q; cases q
  · exact fun _ => k
end

/-- a row of one is made -/
def Pa1 (W0 : World) (news : List Value) (x : Value) (w' : World) : Prop := Below W0.heap.size W0 w' ∧ ∃ X : Nat, x = .slice (some ⟨X, 0, none⟩) 1 1 ∧ ∀ j u, news[j]? = some u → w'.cell? ((⟨X, 0, none⟩ : Addr).add j) = some u
/-- it is appended -/
def Pa2 (W0 : World) (old : Option Nat) (base : Nat) (e : TypeId) (size n : Nat) (ys : List Value) (y : Value) (w' : World) : Prop :=
  ∃ wb : World, Below W0.heap.size W0 wb ∧ wb.grownBy w' old ∧ w'.ownsRow base e size y n ys ∧ ∀ g, y.ownBlock = some g → old = some g ∨ W0.heap.size ≤ g
/-- what came of it is stored -/
def Pa3 (W0 : World) (old : Option Nat) (base : Nat) (e : TypeId) (size n : Nat) (ys : List Value) (p : Addr) (y : Value) (w' : World) : Prop :=
  ∃ wa : World, Pa2 W0 old base e size n ys y wa ∧ w' = wa.setCell p y
theorem Pa2.block {W0 : World} {old : Option Nat} {base : Nat} {e : TypeId} {size n : Nat} {ys : List Value} {y : Value} {w' : World} (h : Pa2 W0 old base e size n ys y w') {D : Nat} (hD : D < W0.heap.size) (hne : old ≠ some D) : w'.heap[D]? = W0.heap[D]? := by
  obtain ⟨wb, h1, h2, _⟩ := h
  exact (h2.block D (Nat.lt_of_lt_of_le hD h1.size) (fun q => hne q.symm)).trans (h1.block D hD)
theorem Pa2.size {W0 : World} {old : Option Nat} {base : Nat} {e : TypeId} {size n : Nat} {ys : List Value} {y : Value} {w' : World} (h : Pa2 W0 old base e size n ys y w') : W0.heap.size ≤ w'.heap.size := by
  obtain ⟨wb, h1, h2, _⟩ := h
  exact Nat.le_trans h1.size h2.size
theorem Pa2.below {W0 : World} {old : Option Nat} {base : Nat} {e : TypeId} {size n : Nat} {ys : List Value} {y : Value} {w' : World} (h : Pa2 W0 old base e size n ys y w') {B : Nat} (hB : B ≤ W0.heap.size) (ho : ∀ k, old = some k → B ≤ k) : Below B W0 w' := by
  obtain ⟨wb, h1, h2, _⟩ := h
  exact (h1.mono hB).grown h2 (Nat.le_trans hB h1.size) ho

/-- appending in a region that draws: behind `wpOp_step` -/
theorem op_append {P : Program} {w : World} {ops : Array Oper} {o : Oper} {a : Act} {K : Act → World → Prop} {Q : Exit → Act → World → Prop} (hgd : o.guard = none) (s x : Operand) (t : TypeId)
    (ho : o.op = .call { callee := .builtin .append, args := #[s, x], argTypes := #[t, t] })
    (base : Nat) (e : TypeId) (i : TypeInfo) (z : Value) (size bytes : Nat) (ht : P.underlying t = some (.slice e)) (hi : P.info? e = some i) (hz : i.zero = some z)
    (hsize : i.size = size) (hby : i.bytes = bytes) (hzs : z.cells.size = size) (hsz : 0 < size)
    (v : Value) (n : Nat) (xs : List Value) (hs : a.eval s = v) (hown : w.ownsRow base e size v n xs)
    (ad : Addr) (m c : Nat) (news : List Value) (hx : a.eval x = .slice (some ad) m c) (hl : news.length = m * size) (hnews : ∀ j u, news[j]? = some u → w.cell? (ad.add j) = some u) (h1 : ∀ u ∈ news, u.oneCell' = true)
    (h63 : n + m ≤ maxLen) (hbytes : (n + m) * bytes ≤ 140737488355328) (hbase : base ≤ w.heap.size)
    (h : ∀ v' w', w'.ownsRow base e size v' (n + m) (xs ++ news) → w.grownBy w' v.ownBlock → (∀ g, v'.ownBlock = some g → v.ownBlock = some g ∨ w.heap.size ≤ g) → K (a.put o.dst v') w') :
    if Region.wanted o (yielded ops a.tmps) = true then Oper.wp P o a w K Q else K (a.put o.dst undef) w := by
  have hw : Region.wanted o (yielded ops a.tmps) = true := by unfold Region.wanted; rw [hgd]
  rw [if_pos hw]
  obtain ⟨v', w', hr, h2, h3, h4⟩ := run_append_own2 (P := P) w base t o.type e i z size bytes ht hi hz hsize hby hzs hsz v n xs hown ad m c news hl hnews h1 h63 hbytes hbase
  unfold Oper.wp execOp
  simp only [ho, resolve, invoke, builtin, Sem.run_bind, Sem.run_pure, Result.andThen_ok, List.map_toArray, List.map_cons, List.map_nil, hs, hx, hr]
  exact h v' w' h2 h3 h4
theorem row_slice {w : World} {b : Nat} {e : TypeId} {size : Nat} {v : Value} {n : Nat} {xs : List Value} (h : w.ownsRow b e size v n xs) : ∃ a c, v = .slice a n c := by
  rcases h.2 with ⟨rfl, rfl⟩ | ⟨g, cap, cur, rfl, _⟩
  · exact ⟨none, 0, rfl⟩
  · exact ⟨_, _, rfl⟩
theorem cell_eight_new (W : World) (t : TypeId) (a b c d e f g h : Value) : ∀ j u, [a, b, c, d, e, f, g, h][j]? = some u → (W.alloc (.cells #[a, b, c, d, e, f, g, h] t)).cell? ((⟨W.heap.size, 0, none⟩ : Addr).add j) = some u := by
  intro j u hj
  rw [Addr.add_lit, Nat.zero_add]
  have hn := World.alloc_heap_new W (.cells #[a, b, c, d, e, f, g, h] t)
  simp only [World.cell?, hn]
  have : (#[a, b, c, d, e, f, g, h] : Array Value)[j]? = some u := by rw [← Array.getElem?_toList]; exact hj
  simpa using this
end Go.Proofs.YtfmjhbdbgcgoiaaGreatDoor.Ap

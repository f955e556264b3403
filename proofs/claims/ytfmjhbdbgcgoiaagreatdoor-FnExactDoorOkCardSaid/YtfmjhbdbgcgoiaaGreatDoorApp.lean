/- Appending to a row of the call's own, and where the row then lies. What a round of a loop over pieces keeps. No program is named here. -/
import Derived.Test.YtfmjhbdbgcgoiaaGreatDoorKit
import Derived.RangeFuncNested
import Derived.RangeFuncBound
import Derived.RangeFuncCalls
import Derived.RangeFuncLeaves
import Derived.RangeFuncBox
import Derived.Shelf.Abstract
import Derived.Shelf.RegionOpen
import Derived.OwnWalkIn
import Derived.TacticsInMore
import Derived.LoopNIn
import Derived.LoopIn
import Derived.RegionIn
import Derived.ArgAppend
import Derived.Laws.OwnMore
import Derived.Maps.AppendAt
namespace Go.Proofs.YtfmjhbdbgcgoiaaGreatDoor.App
open Go.RowKit Go.Shelf

theorem ownsRow_base {w : World} {b b' : Nat} {e : TypeId} {size : Nat} {v : Value} {n : Nat} {xs : List Value} (h : w.ownsRow b e size v n xs) (hb : b' ≤ b) : w.ownsRow b' e size v n xs := by
  refine ⟨h.1, ?_⟩
  rcases h.2 with g | ⟨g, cap, cur, h1, h2, h3⟩
  · exact .inl g
  · exact .inr ⟨g, cap, cur, h1, Nat.le_trans hb h2, h3⟩

theorem row_below {w w' : World} {b : Nat} {e : TypeId} {size : Nat} {v : Value} {n : Nat} {xs : List Value} (h : w.ownsRow b e size v n xs) (k : Below w.heap.size w w') : w'.ownsRow b e size v n xs :=
  h.kept (row := none) ⟨k.os, k.tape, k.output, k.size, fun i hi _ => k.block i hi⟩ (by cases v.ownBlock with | none => exact .inl rfl | some g => exact .inr (by simp))

/-- as the law that append has, and where the new row lies -/
theorem run_append_own2 {P : Program} (w : World) (base : Nat) (t ty e : TypeId) (i : TypeInfo) (z : Value) (size bytes : Nat) (ht : P.underlying t = some (.slice e)) (hi : P.info? e = some i) (hz : i.zero = some z)
    (hsize : i.size = size) (hby : i.bytes = bytes) (hzs : z.cells.size = size) (hsz : 0 < size)
    (v : Value) (n : Nat) (xs : List Value) (hown : w.ownsRow base e size v n xs)
    (a : Addr) (m c : Nat) (news : List Value) (hl : news.length = m * size) (hnews : ∀ j u, news[j]? = some u → w.cell? (a.add j) = some u) (h1 : ∀ u ∈ news, u.oneCell' = true)
    (h63 : n + m ≤ maxLen) (hbytes : (n + m) * bytes ≤ 140737488355328) (hbase : base ≤ w.heap.size) :
    ∃ v' w', (Builtin.append_ #[t, t] ty #[v, .slice (some a) m c]).run P w = .ok v' w' ∧ w'.ownsRow base e size v' (n + m) (xs ++ news) ∧ w.grownBy w' v.ownBlock ∧
      (∀ g, v'.ownBlock = some g → v.ownBlock = some g ∨ w.heap.size ≤ g) := by
  rcases hown.2 with ⟨rfl, rfl⟩ | ⟨g, cap, cur, rfl, hbg, hg, hnc, hcm, hcs, htake⟩
  · have hx : xs = [] := List.length_eq_zero_iff.1 (by have := hown.1; omega)
    subst hx
    obtain ⟨v', w', hr, ho, hgr, _⟩ := run_append_own (P := P) w w.heap.size t ty e i z size bytes ht hi hz hsize hby hzs hsz (.slice none 0 0) 0 [] (World.ownsRow_nil _ _ _ _) a m c news hl hnews h1 h63 hbytes (Nat.le_refl _)
    refine ⟨v', w', hr, ownsRow_base ho hbase, hgr, fun k hk => .inr ?_⟩
    exact (ho.lt k hk).1
  · by_cases hroom : n + m ≤ cap
    · obtain ⟨w', hr, ho, hgr⟩ := run_append_fits (P := P) w base t ty e i size ht hi hsize g n cap xs hown a m c news hl hnews h1 hroom
      exact ⟨_, w', hr, ho, hgr, fun k hk => .inl hk⟩
    · have hxs : xs.length = n * size := hown.1
      have hold : ∀ j u, xs[j]? = some u → w.cell? ((⟨g, 0, none⟩ : Addr).add j) = some u := by
        intro j u hj
        have hlt : j < xs.length := by
          rcases Nat.lt_or_ge j xs.length with h | h
          · exact h
          · rw [List.getElem?_eq_none h] at hj; cases hj
        rw [Addr.add_lit, Nat.zero_add]
        have hcur : cur[j]? = some u := by
          rw [← htake, List.getElem?_take_of_lt (by omega), Array.getElem?_toList] at hj
          exact hj
        simp [World.cell?, hg, hcur]
      obtain ⟨v', w', hr, ho, hgr⟩ := run_append_arg_grows (P := P) w t ty e i z size bytes ht hi hz hsize hby hzs hsz ⟨g, 0, none⟩ n cap xs hxs hold a m c news hl hnews (by omega) h63 hbytes
      refine ⟨v', w', hr, ownsRow_base ho hbase, ⟨hgr.os, hgr.tape, hgr.output, hgr.size, fun k hk _ => hgr.block k hk (by simp)⟩, fun k hk => .inr (ho.lt k hk).1⟩

theorem wpListIn_append_own2 {F : Fence} {n : Nat} {P : Program} (w : World) {ops : Array Oper} {rest : List Oper} {o : Oper} {a : Act} {Q : Exit → Act → World → Prop}
    (hg : o.guard = none) (s x : Operand) (t : TypeId) (hop : o.op = Op.call { callee := Callee.builtin Builtin.append, args := #[s, x], argTypes := #[t, t] })
    (base : Nat) (e : TypeId) (i : TypeInfo) (z : Value) (size bytes : Nat) (h1 : P.underlying t = some (.slice e)) (h2 : P.info? e = some i) (h3 : i.zero = some z) (h4 : i.size = size) (h5 : i.bytes = bytes) (h6 : z.cells.size = size) (h7 : 0 < size)
    (v : Value) (k : Nat) (xs : List Value) (hs : a.eval s = v) (hown : w.ownsRow base e size v k xs) (ad : Addr) (m c : Nat) (news : List Value) (hx : a.eval x = .slice (some ad) m c) (hn : news.length = m * size)
    (hc : ∀ j u, news[j]? = some u → w.cell? (ad.add j) = some u) (h1c : ∀ u ∈ news, u.oneCell' = true) (b1 : k + m ≤ maxLen) (b2 : (k + m) * bytes ≤ 140737488355328) (b3 : base ≤ w.heap.size)
    (hK : ∀ v' w', w'.ownsRow base e size v' (k + m) (xs ++ news) → w.grownBy w' v.ownBlock → (∀ g, v'.ownBlock = some g → v.ownBlock = some g ∨ w.heap.size ≤ g) → wpListIn F n P ops Q rest (a.put o.dst v') w') :
    wpListIn F n P ops Q (o :: rest) a w := by
  refine wpListIn_plain hg fun K hK' => ?_
  obtain ⟨v', w', hrun, r1, r2, r3⟩ := run_append_own2 (P := P) w base t o.type e i z size bytes h1 h2 h3 h4 h5 h6 h7 v k xs hown ad m c news hn hc h1c b1 b2 b3
  unfold Oper.wpIn
  refine ⟨?_, ?_⟩
  · simp [Oper.about, hop, resolve, Target.leads, Sem.run_pure]
  · rw [Oper.semAt_plain F _ _ (by rw [hop]; intro c hc'; cases hc')]
    simp [execOp, hop, resolve, invoke, builtin, hs, hx, hrun, Result.andThen]
    exact hK' _ _ (hK v' w' r1 r2 r3)

/-- the row that the box Bo holds lies from base on, is not the block Bt, and is there -/
def Fit (base Bt Bo : Nat) (W : World) : Prop := ∀ v k, W.cell? ⟨Bo, 0, none⟩ = some v → v.ownBlock = some k → base ≤ k ∧ k ≠ Bt ∧ k < W.heap.size

/-- what a round keeps that writes the box Bo and the row that it holds -/
structure Kp (base Bt Bo : Nat) (W W' : World) : Prop where
  size : W.heap.size ≤ W'.heap.size
  fit : Fit base Bt Bo W → Fit base Bt Bo W'
  row : Fit base Bt Bo W → ∀ v' k, W'.cell? ⟨Bo, 0, none⟩ = some v' → v'.ownBlock = some k → W.heap.size ≤ k ∨ ∃ v, W.cell? ⟨Bo, 0, none⟩ = some v ∧ v.ownBlock = some k
  keep : Fit base Bt Bo W → ∀ (a : Addr) (u : Value), W.cell? a = some u → a.block ≠ Bo → (∀ v, W.cell? ⟨Bo, 0, none⟩ = some v → v.ownBlock ≠ some a.block) → W'.cell? a = some u

theorem Kp.trans {base Bt Bo : Nat} {A B C : World} (h : Kp base Bt Bo A B) (k : Kp base Bt Bo B C) : Kp base Bt Bo A C := by
  refine ⟨Nat.le_trans h.size k.size, fun f => k.fit (h.fit f), fun f v' j hv hj => ?_, fun f a u ha hb hr => ?_⟩
  · rcases k.row (h.fit f) v' j hv hj with g | ⟨v, h1, h2⟩
    · exact .inl (Nat.le_trans h.size g)
    · exact h.row f v j h1 h2
  · refine k.keep (h.fit f) a u (h.keep f a u ha hb hr) hb fun v hv hj => ?_
    rcases h.row f v _ hv hj with g | ⟨v0, h1, h2⟩
    · have := World.block_lt_of_cell? _ _ ha; omega
    · exact hr v0 h1 h2

theorem Kp.below {base Bt Bo : Nat} {W W' : World} (hB : Bo < W.heap.size) (k : Below W.heap.size W W') : Kp base Bt Bo W W' := by
  have hc : W'.cell? ⟨Bo, 0, none⟩ = W.cell? ⟨Bo, 0, none⟩ := k.cell (p := ⟨Bo, 0, none⟩) hB
  refine ⟨k.size, fun f v j hv hj => ?_, fun _ v j hv hj => ?_, fun _ a u ha _ _ => ?_⟩
  · rw [hc] at hv; exact ⟨(f v j hv hj).1, (f v j hv hj).2.1, Nat.lt_of_lt_of_le (f v j hv hj).2.2 k.size⟩
  · rw [hc] at hv; exact .inr ⟨v, hv, hj⟩
  · rw [k.cell (p := a) (World.block_lt_of_cell? _ _ ha)]; exact ha

theorem fit_below {base Bt Bo : Nat} {W W' : World} (hB : Bo < W.heap.size) (k : Below W.heap.size W W') (h : Fit base Bt Bo W) : Fit base Bt Bo W' := (Kp.below hB k).fit h

theorem kp_putObj {base Bt Bo : Nat} (W : World) (l : Nat) (o o' : Obj) (hB : Bo < l) (hl : W.heap[l]? = some o) (ho : o.isCells = false) : Kp base Bt Bo W (W.putObj l o') := by
  have hlt : l < W.heap.size := (Array.getElem?_eq_some_iff.1 hl).1
  have hoth : ∀ a : Addr, a.block ≠ l → (W.putObj l o').cell? a = W.cell? a := fun a h => World.cell?_of_block (World.putObj_heap_other (fun e => h e))
  have hc := hoth ⟨Bo, 0, none⟩ (by simp; omega)
  have hs : (W.putObj l o').heap.size = W.heap.size := by simp
  refine ⟨by rw [hs]; exact Nat.le_refl _, fun f v j hv hj => ?_, fun _ v j hv hj => ?_, fun _ a u ha _ _ => ?_⟩
  · rw [hc] at hv; rw [hs]; exact f v j hv hj
  · rw [hc] at hv; exact .inr ⟨v, hv, hj⟩
  · rw [hoth a]
    · exact ha
    · rintro rfl
      unfold World.cell? at ha
      rw [hl] at ha
      cases o <;> simp [Obj.isCells] at ho ha

/-- an append to the row that the box Bo holds -/
theorem kp_append {base Bt Bo : Nat} {W w1 : World} {t e : TypeId} {size m : Nat} {v v' : Value} {ys : List Value} {tmp : Obj} (hv : Boxed W Bo t v) (hBt : Bt < W.heap.size)
    (hgrow : (W.alloc tmp).grownBy w1 v.ownBlock) (hown : w1.ownsRow base e size v' m ys) (hw : ∀ g, v'.ownBlock = some g → v.ownBlock = some g ∨ (W.alloc tmp).heap.size ≤ g) (hv2 : Boxed (w1.setCell ⟨Bo, 0, none⟩ v') Bo t v') :
    Kp base Bt Bo W (w1.setCell ⟨Bo, 0, none⟩ v') := by
  have hs1 : (W.alloc tmp).heap.size = W.heap.size + 1 := by simp
  have hs2 := hgrow.size
  have hs3 : (w1.setCell ⟨Bo, 0, none⟩ v').heap.size = w1.heap.size := by simp [World.setCell]
  refine ⟨by omega, fun f u j hu hj => ?_, fun _ u j hu hj => ?_, fun _ a u ha hb hr => ?_⟩
  · rw [hv2.cell] at hu
    obtain rfl := Option.some.inj hu
    have hl := hown.lt j hj
    refine ⟨hl.1, ?_, by omega⟩
    rcases hw j hj with g | g
    · exact (f v j hv.cell g).2.1
    · omega
  · rw [hv2.cell] at hu
    obtain rfl := Option.some.inj hu
    rcases hw j hj with g | g
    · exact .inr ⟨v, hv.cell, g⟩
    · exact .inl (by omega)
  · have hlt := World.block_lt_of_cell? _ _ ha
    have e1 : (w1.setCell ⟨Bo, 0, none⟩ v').cell? a = w1.cell? a := Kit.cell_set (p := ⟨Bo, 0, none⟩) (q := a) (fun e => hb e.symm)
    have e2 : w1.cell? a = (W.alloc tmp).cell? a := World.cell?_of_block (hgrow.block a.block (by omega) (fun e => hr v hv.cell e.symm))
    have e3 : (W.alloc tmp).cell? a = W.cell? a := ((Below.refl W.heap.size W).alloc (Nat.le_refl _) tmp).cell (p := a) hlt
    rw [e1, e2, e3]; exact ha

/-- four cells of a new block -/
theorem cell_four_new (W : World) (t : TypeId) (a b c d : Value) : ∀ j u, [a, b, c, d][j]? = some u → (W.alloc (.cells #[a, b, c, d] t)).cell? ((⟨W.heap.size, 0, none⟩ : Addr).add j) = some u := by
  intro j u h
  rw [Addr.add_lit, Nat.zero_add]
  match j with
  | 0 => simp at h; subst h; simp
  | 1 => simp at h; subst h; simp
  | 2 => simp at h; subst h; simp
  | 3 => simp at h; subst h; simp
  | j + 4 => simp at h
/-- two cells of a new block -/
theorem cell_two_new (W : World) (t : TypeId) (a b : Value) : ∀ j u, [a, b][j]? = some u → (W.alloc (.cells #[a, b] t)).cell? ((⟨W.heap.size, 0, none⟩ : Addr).add j) = some u := by
  intro j u h
  rw [Addr.add_lit, Nat.zero_add]
  match j with
  | 0 => simp at h; subst h; simp
  | 1 => simp at h; subst h; simp
  | j + 2 => simp at h
end Go.Proofs.YtfmjhbdbgcgoiaaGreatDoor.App

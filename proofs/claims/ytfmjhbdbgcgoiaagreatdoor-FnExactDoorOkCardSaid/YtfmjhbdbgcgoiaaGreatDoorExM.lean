/- Walks: the exact laws' own copies, comparison, marks and looks, on lists of pairs. And pairs that are handed in. -/
import Derived.Test.YtfmjhbdbgcgoiaaGreatDoorMmOp
import Derived.Test.YtfmjhbdbgcgoiaaGreatDoorEndW
import Derived.Deep.RegionWith
import Derived.Deep.Slices
import Derived.Lib.SmallJoins
import Derived.OwnWalk
namespace Go.Proofs.YtfmjhbdbgcgoiaaGreatDoor.ExM
open Go.RowKit Go.Proofs.YtfmjhbdbgcgoiaaGreatDoor.Kit Go.Proofs.YtfmjhbdbgcgoiaaGreatDoor.Mp Go.Proofs.YtfmjhbdbgcgoiaaGreatDoor.Mm Go.Proofs.YtfmjhbdbgcgoiaaGreatDoor.App
open Go.Proofs.YtfmjhbdbgcgoiaaGreatDoor.EndW (endV)
set_option linter.unusedSimpArgs false
set_option linter.unusedVariables false

/-- pairs that are handed in -/
structure ArgM (W : World) (a : Option Addr) (len cap : Nat) (m : List (Int × Int × Int)) : Prop where
  hl : len = m.length
  hc : len ≤ cap ∧ cap ≤ maxLen
  hr : m = [] ∨ ∃ g o, a = some ⟨g, o, none⟩ ∧ ∀ (i : Nat) (p : Int × Int × Int), m[i]? = some p → At3 W g (o + i * 3) p
theorem ArgM.below {W W' : World} {a : Option Addr} {len cap : Nat} {m : List (Int × Int × Int)} (h : ArgM W a len cap m) (k : Below W.heap.size W W') : ArgM W' a len cap m := by
  refine ⟨h.hl, h.hc, ?_⟩
  rcases h.hr with r | ⟨g, o, rfl, hc⟩
  · exact .inl r
  · exact .inr ⟨g, o, rfl, fun i p hp => (hc i p hp).below k⟩

section
open Go.Deep Go.ChangeShapes Go.WideShapes Go.Joins
theorem open_pairs {H : Type} {enc : TypeId × Value → H} {P : Program} {w : World} {base : Nat} {t e : TypeId} {f0 f1 g0 g1 : Field} {a : Option Addr} {len cap : Nat} {d : DataW H} {ps : List MemPlace}
    (ht : P.underlying t = some (.slice e)) (he : P.underlying e = some (.struct #[f0, f1])) (ce : P.cellsOf e = 3) (o0 : f0.offset = 0) (o1 : f1.offset = 1) (c0 : P.cellsOf f0.type = 1) (c1 : P.cellsOf f1.type = 2)
    (i0 : P.underlying f0.type = some (.int .i64)) (i1 : P.underlying f1.type = some (.struct #[g0, g1])) (p0 : g0.offset = 0) (p1 : g1.offset = 1) (d0 : P.cellsOf g0.type = 1) (d1 : P.cellsOf g1.type = 1)
    (j0 : P.underlying g0.type = some (.int .i64)) (j1 : P.underlying g1.type = some (.int .i64))
    (h : DataW.Trod enc P w base (fun _ => true) true t (.slice a len cap) d ps) : ∃ m, ArgM w a len cap m := by
  obtain ⟨fuel, hf⟩ := h
  rcases open_slice ht hf with ⟨hcs, _⟩ | ⟨x, l, c, m, n, D, Pl, hcs, hb, hl, hm, hmm, _, hx⟩
  · simp [Value.cells] at hcs
    obtain ⟨rfl, rfl, rfl⟩ := hcs
    exact ⟨[], rfl, ⟨Nat.le_refl _, Nat.zero_le _⟩, .inl rfl⟩
  · simp [Value.cells] at hcs
    obtain ⟨rfl, rfl, rfl⟩ := hcs
    simp at hmm
    subst hmm
    have each : ∀ i, i < m → ∃ q : Int × Int × Int, w.cell? (x.add (i * 3)) = some (.int .i64 q.1) ∧ w.cell? (x.add (i * 3 + 1)) = some (.int .i64 q.2.1) ∧ w.cell? (x.add (i * 3 + 2)) = some (.int .i64 q.2.2) := by
      intro i hi
      obtain ⟨cs', h1, h2⟩ := hx i hi
      rw [ce] at h1
      obtain ⟨_, hlen, hcell⟩ := World.cells?_some h1
      obtain ⟨y0, y1, n', _, _, k0, k1⟩ := trod_struct2 he h2
      match cs', hlen with
      | [v0, v1, v2], _ =>
        simp [o0, o1, c0, c1] at k0 k1
        obtain ⟨z0, z1, n2, _, _, l0, l1⟩ := trod_struct2 i1 k1
        simp [p0, p1, d0, d1] at l0 l1
        obtain ⟨q0, e0, _, _⟩ := DataW.trod_int i0 k0
        obtain ⟨q1, e1, _, _⟩ := DataW.trod_int j0 l0
        obtain ⟨q2, e2, _, _⟩ := DataW.trod_int j1 l1
        simp at e0 e1 e2
        subst e0 e1 e2
        have a0 := hcell 0 (by omega)
        have a1 := hcell 1 (by omega)
        have a2 := hcell 2 (by omega)
        rw [add_add] at a0 a1 a2
        exact ⟨(q0, q1, q2), by simpa using a0, by simpa using a1, by simpa using a2⟩
    obtain ⟨q, hq⟩ := choose_lt each
    refine ⟨(List.range len).map q, by simp, ⟨hl, hm⟩, ?_⟩
    by_cases h0 : len = 0
    · exact .inl (by simp [h0])
    · obtain ⟨b, off, spot⟩ := x
      have hc := (hq 0 (by omega)).1
      have hspot : spot = none := by simpa [Addr.add] using World.cell?_spot hc
      subst hspot
      refine .inr ⟨b, off, rfl, fun i p hp => ?_⟩
      have hi : i < len := by have := (List.getElem?_eq_some_iff.1 hp).1; simpa using this
      have hpe : p = q i := by
        rw [List.getElem?_map, List.getElem?_range hi] at hp
        exact (Option.some.inj hp).symm
      subst hpe
      obtain ⟨b0, b1, b2⟩ := hq i (by omega)
      rw [Addr.add_lit] at b0 b1 b2
      exact ⟨b0, by rw [Nat.add_assoc]; exact b1, by rw [Nat.add_assoc]; exact b2⟩
end

set_option maxHeartbeats 1000000 in
theorem toEnd_any (x y : Int) (w : World) :
    Calls Tryz.prog 39 #[endV x y] w fun e w' => e = .returned (endV x y) ∧ Below w.heap.size w w' := by
  go_enter Tryz.func39, Tryz.ntmps39
  go_wp2
  refine bodyPost_ret (v := endV x y) ?_ rfl ?_
  · simp [results, Tryz.results39, go_sem]
  · exact ⟨rfl, (((Below.refl _ _).alloc (Nat.le_refl _) _).alloc (by simp) _).alloc (by simp; omega) _⟩

set_option maxHeartbeats 1000000 in
theorem toPair_any (p : Int × Int × Int) (w : World) :
    Calls Tryz.prog 59 #[.agg #[.int .i64 p.1, .int .i64 p.2.1, .int .i64 p.2.2]] w fun e w' => e = .returned (.agg #[.int .i64 p.1, .int .i64 p.2.1, .int .i64 p.2.2]) ∧ Below w.heap.size w w' := by
  obtain ⟨po, x, y⟩ := p
  go_enter Tryz.func59, Tryz.ntmps59
  go_wp2_with fail
  refine (toEnd_any x y _).mono ?_
  rintro e w1 ⟨rfl, k1⟩
  have z1 := k1.size
  simp at z1
  have c1 := keepc k1 (w.heap.size + 1) (by simp)
  have f1 := keepf k1 (w.heap.size + 1) (by simp)
  have c2 := keepc k1 (w.heap.size + 1 + 1) (by simp)
  have f2 := keepf k1 (w.heap.size + 1 + 1) (by simp)
  have hlt : w.heap.size + 1 + 1 < w1.heap.size := by omega
  have e0 : w1.cell? ⟨w.heap.size + 1, 0, none⟩ = some (.int .i64 0) := by rw [c1 0]; simp [go_sem]
  have e1 : w1.cell? ⟨w.heap.size + 1, 1, none⟩ = some (.int .i64 0) := by rw [c1 1]; simp [go_sem]
  have e2 : w1.cell? ⟨w.heap.size + 1, 2, none⟩ = some (.int .i64 0) := by rw [c1 2]; simp [go_sem]
  have d0 : w1.cell? ⟨w.heap.size + 1 + 1, 0, none⟩ = some (.int .i64 po) := by rw [c2 0]; simp [go_sem]
  have d1 : w1.cell? ⟨w.heap.size + 1 + 1, 1, none⟩ = some (.int .i64 0) := by rw [c2 1]; simp [go_sem]
  have d2 : w1.cell? ⟨w.heap.size + 1 + 1, 2, none⟩ = some (.int .i64 0) := by rw [c2 2]; simp [go_sem]
  have g0 : ∀ j, w1.frozen? ⟨w.heap.size + 1, j, none⟩ = false := fun j => by rw [f1 j]; simp [go_sem]
  have g1 : ∀ j, w1.frozen? ⟨w.heap.size + 1 + 1, j, none⟩ = false := fun j => by rw [f2 j]; simp [go_sem]
  have b1 : Below w.heap.size w w1 := ((((Below.refl _ _).alloc (Nat.le_refl _) _).alloc (by simp) _).alloc (by simp; omega) _).trans (k1.mono (by simp; omega))
  clear c1 c2 f1 f2 k1
  go_wp2
  refine bodyPost_ret (v := .agg #[.int .i64 po, .int .i64 x, .int .i64 y]) ?_ rfl ?_
  · simp [results, Tryz.results59, go_sem, e0, e1, e2]
  · refine ⟨rfl, ?_⟩
    exact ((((b1.setCell (p := ⟨w.heap.size + 1 + 1, 1, none⟩) (by simp; omega) _).setCell (p := ⟨w.heap.size + 1 + 1, 2, none⟩) (by simp; omega) _).setCell (p := ⟨w.heap.size + 1, 0, none⟩) (by simp) _).setCell (p := ⟨w.heap.size + 1, 1, none⟩) (by simp) _).setCell (p := ⟨w.heap.size + 1, 2, none⟩) (by simp) _

set_option maxHeartbeats 1000000 in
theorem sz_ok (a : Option Addr) (len cap : Nat) (hl : (len : Int) ≤ 1048576) (w : World) :
    Calls Tryz.prog 23 #[.slice a len cap, .int .i64 1048576] w fun e w' => e = .returned (.int .i64 (1048576 - (len : Int))) ∧ w' = w := by
  have h1 : 0 ≤ 1048576 - (len : Int) := by omega
  go_enter Tryz.func23, Tryz.ntmps23
  go_wp2
  go_ret
  exact ⟨rfl, rfl⟩
set_option maxHeartbeats 1000000 in
theorem sz_big (a : Option Addr) (len cap : Nat) (hl : (1048576 : Int) < (len : Int)) (hm : len ≤ maxLen) (w : World) :
    Calls Tryz.prog 23 #[.slice a len cap, .int .i64 1048576] w fun e w' => e = .returned (.int .i64 (-1)) ∧ w' = w := by
  unfold maxLen at hm
  have h1 : 1048576 - (len : Int) < 0 := by omega
  go_enter Tryz.func23, Tryz.ntmps23
  go_wp2
  go_ret
  exact ⟨rfl, rfl⟩

set_option maxHeartbeats 1000000 in
theorem eqEnd_true (x y : Int) (w : World) :
    Calls Tryz.prog 43 #[endV x y, endV x y] w fun e w' => e = .returned (.bool true) ∧ Below w.heap.size w w' := by
  go_enter Tryz.func43, Tryz.ntmps43
  go_wp2
  go_ret
  exact ⟨rfl, ((Below.refl _ _).alloc (Nat.le_refl _) _).alloc (by simp) _⟩

set_option maxHeartbeats 1000000 in
theorem eqPair_true (p : Int × Int × Int) (w : World) :
    Calls Tryz.prog 64 #[.agg #[.int .i64 p.1, .int .i64 p.2.1, .int .i64 p.2.2], .agg #[.int .i64 p.1, .int .i64 p.2.1, .int .i64 p.2.2]] w fun e w' => e = .returned (.bool true) ∧ Below w.heap.size w w' := by
  obtain ⟨po, x, y⟩ := p
  go_enter Tryz.func64, Tryz.ntmps64
  go_wp2_with fail
  refine (eqEnd_true _ _ _).mono ?_
  rintro e w2 ⟨rfl, k2⟩
  go_wp2
  go_ret
  exact ⟨rfl, (((Below.refl _ _).alloc (Nat.le_refl _) _).alloc (by simp) _).trans (k2.mono (by first | omega | (simp; done) | (simp; omega)))⟩

set_option maxHeartbeats 4000000 in
theorem eqM_nil (w : World) (c0 c1 : Nat) (a0 a1 : Option Addr) :
    Calls Tryz.prog 33 #[.slice a0 0 c0, .slice a1 0 c1] w fun e w' => e = .returned (.bool true) ∧ Below w.heap.size w w' := by
  go_enter Tryz.func33, Tryz.ntmps33
  go_wp2
  refine wp_loop_rounds 1 ?_
  rw [rounds_succ]
  go_wp2
  go_ret
  exact ⟨rfl, Below.refl _ _⟩

set_option maxRecDepth 8000 in
set_option maxHeartbeats 4000000 in
theorem eqM_row (w : World) (m : List (Int × Int × Int)) (hm : m.length ≤ 1048576) (g0 o0 c0 g1 o1 c1 : Nat) (h0 : ∀ (i : Nat) (p : Int × Int × Int), m[i]? = some p → At3 w g0 (o0 + i * 3) p) (h1 : ∀ (i : Nat) (p : Int × Int × Int), m[i]? = some p → At3 w g1 (o1 + i * 3) p) :
    Calls Tryz.prog 33 #[.slice (some ⟨g0, o0, none⟩) m.length c0, .slice (some ⟨g1, o1, none⟩) m.length c1] w fun e w' => e = .returned (.bool true) ∧ Below w.heap.size w w' := by
  go_enter Tryz.func33, Tryz.ntmps33
  go_wp2
  go_loopw [5] (fun i wr => ∃ k : Nat, k ≤ m.length ∧ i = .int .i64 k ∧ Below w.heap.size w wr) (fun i wr => m.length - (intOf i).toNat)
  case atStart => exact ⟨0, Nat.zero_le _, rfl, Below.refl _ _⟩
  case round =>
    obtain ⟨k, hk, rfl, hb⟩ := hrel
    by_cases hlt : k < m.length
    · have hlt' : (k : Int) < (m.length : Int) := by omega
      obtain ⟨x0, x1, x2⟩ := (h0 k _ (List.getElem?_eq_getElem hlt)).below (W' := wr) (hb.mono (Nat.le_refl _))
      obtain ⟨y0, y1, y2⟩ := (h1 k _ (List.getElem?_eq_getElem hlt)).below (W' := wr) (hb.mono (Nat.le_refl _))
      generalize m[k] = P at x0 x1 x2 y0 y1 y2
      clear h0 h1
      go_wp2_with fail
      go_region_with (go_at_call 64; refine (eqPair_true P _).mono ?_; rintro e w2 ⟨rfl, k2⟩; have bb : Below wr.heap.size wr w2 := (by first | exact k2 | exact (Below.refl _ wr).drew.trans k2 | exact (Below.refl _ wr).drew.drew.trans k2 | exact (Below.refl _ wr).drew.drew.drew.trans k2))
      all_goals
        go_wp2
        go_roundw
        case rel =>
          have b9 := hb.trans (bb.mono hb.size)
          first | exact ⟨k + 1, by omega, by go_num, b9⟩ | exact ⟨k + 1, by omega, by go_num, b9.drew⟩ | exact ⟨k + 1, by omega, by go_num, b9.drew.drew⟩
        case measure => simp [intOf]; omega
    · have hge : (m.length : Int) ≤ (k : Int) := by omega
      go_wp2
      go_ret
      exact ⟨rfl, hb⟩
theorem eqM_true (w : World) (m : List (Int × Int × Int)) (hm : m.length ≤ 1048576) (a b : Value) (h0 : IsM w a m) (h1 : IsM w b m) :
    Calls Tryz.prog 33 #[a, b] w fun e w' => e = .returned (.bool true) ∧ Below w.heap.size w w' := by
  rcases h0 with ⟨rfl, rfl⟩ | ⟨g0, o0, c0, rfl, _, _, _, h0⟩
  · rcases h1 with ⟨rfl, _⟩ | ⟨g1, o1, c1, rfl, _, _, _, h1⟩
    · exact eqM_nil w 0 0 none none
    · exact eqM_nil w 0 c1 none _
  · rcases h1 with ⟨rfl, rfl⟩ | ⟨g1, o1, c1, rfl, _, _, _, h1⟩
    · exact eqM_nil w c0 0 _ none
    · exact eqM_row w m hm g0 o0 c0 g1 o1 c1 h0 h1

theorem made_len (z : Array Value) (n : Nat) : (madeCells z n).toList.length = n := by rw [Array.length_toList, size_madeCells]
theorem grown_below {w w' : World} {row : Option Nat} {B : Nat} (h : w.grownBy w' row) (hB : B ≤ w.heap.size) (hr : ∀ k, row = some k → B ≤ k) : Below B w w' := (Below.refl B w).grown h hB hr

set_option maxRecDepth 8000 in
set_option maxHeartbeats 4000000 in
theorem toS_any (W : World) (a : Option Addr) (len cap : Nat) (m : List (Int × Int × Int)) (h : ArgM W a len cap m) (hl : m.length ≤ 1048576) :
    Calls Tryz.prog 29 #[.slice a len cap] W fun r W' => ∃ v, r = .returned v ∧ W'.ownsRow W.heap.size 58 3 v m.length (cellsM m) ∧ Below W.heap.size W W' := by
  obtain ⟨i0, hi, hz0, hz1, hz2⟩ := info_parts infoM
  obtain ⟨rfl, hc, hr⟩ := h
  go_enter Tryz.func29, Tryz.ntmps29
  go_wp2_with (at_make; refine wpList_make_full _ rfl _ _ 28 rfl W.heap.size 58 i0 (.agg #[.int .i64 0, .int .i64 0, .int .i64 0]) 3 Tryz.underlying28 hi hz0 hz1 _ _ _ _ m.length rfl rfl rfl rfl (by rw [hz2]; omega) (by unfold maxLen; omega) (Nat.le_refl _) ?_; intro w1 hown hgrow)
  have b1 : Below W.heap.size W w1 := grown_below hgrow (Nat.le_refl _) (fun k hk => by cases hk)
  go_loopw [4] (fun i wr => ∃ (k : Nat) (xs : List Value), k ≤ m.length ∧ i = .int .i64 k ∧ wr.ownsRow W.heap.size 58 3 (.slice (some ⟨W.heap.size, 0, none⟩) m.length m.length) m.length xs ∧ (∀ j, j < k * 3 → xs[j]? = (cellsM m)[j]?) ∧ Below W.heap.size W wr) (fun i wr => m.length - (intOf i).toNat)
  case atStart => exact ⟨0, _, Nat.zero_le _, rfl, hown, fun j hj => absurd hj (by omega), b1⟩
  case round =>
    obtain ⟨k, xs, hk, rfl, hrow, hxs, hb⟩ := hrel
    by_cases hlt : k < m.length
    · have hlt' : (k : Int) < (m.length : Int) := by omega
      have hp : m[k]? = some m[k] := List.getElem?_eq_getElem hlt
      rcases hr with rfl | ⟨g, o, rfl, hat⟩
      · cases hp
      obtain ⟨x0, x1, x2⟩ := (hat k _ hp).below hb
      obtain ⟨q0, q1, q2⟩ := cellsM_at m k _ hp
      generalize m[k] = P at hp x0 x1 x2 q0 q1 q2
      clear hat
      go_wp2_with fail
      refine (toPair_any P _).mono ?_
      rintro e w2 ⟨rfl, k2⟩
      have hrow2 := row_below hrow k2
      have b2 := hb.trans (k2.mono hb.size)
      have hxl : xs.length = m.length * 3 := hrow.1
      obtain ⟨u0, hu0⟩ : ∃ u, xs[k * 3]? = some u := ⟨_, List.getElem?_eq_getElem (by omega)⟩
      obtain ⟨u1, hu1⟩ : ∃ u, xs[k * 3 + 1]? = some u := ⟨_, List.getElem?_eq_getElem (by omega)⟩
      obtain ⟨u2, hu2⟩ : ∃ u, xs[k * 3 + 2]? = some u := ⟨_, List.getElem?_eq_getElem (by omega)⟩
      have c0 := (hrow2.cellAt (k * 3) (by omega)).trans hu0
      have c1 := (hrow2.cellAt (k * 3 + 1) (by omega)).trans hu1
      have c2 := (hrow2.cellAt (k * 3 + 2) (by omega)).trans hu2
      have g0 := hrow2.frozenAt (k * 3)
      have g1 := hrow2.frozenAt (k * 3 + 1)
      have g2 := hrow2.frozenAt (k * 3 + 2)
      have H2 : Hid (w2.ownsRow W.heap.size 58 3 (.slice (some ⟨W.heap.size, 0, none⟩) m.length m.length) m.length xs) := hrow2
      have HX : Hid (∀ j, j < k * 3 → xs[j]? = (cellsM m)[j]?) := hxs
      clear hrow hrow2 k2 hxs hown hgrow
      go_wp2
      go_roundw
      case rel =>
        have r1 := (H2.out.stored (k * 3) (.int .i64 P.1)).1
        have r2 := (r1.stored (k * 3 + 1) (.int .i64 P.2.1)).1
        have r3 := (r2.stored (k * 3 + 2) (.int .i64 P.2.2)).1
        refine ⟨k + 1, _, by omega, by go_num, r3, fun j hj => ?_, ((b2.setCell (p := ⟨W.heap.size, k * 3, none⟩) (Nat.le_refl _) _).setCell (p := ⟨W.heap.size, k * 3 + 1, none⟩) (Nat.le_refl _) _).setCell (p := ⟨W.heap.size, k * 3 + 2, none⟩) (Nat.le_refl _) _⟩
        by_cases j2 : j = k * 3 + 2
        · subst j2; rw [List.getElem?_set_self (by simp; omega), q2]
        · rw [List.getElem?_set_ne (fun e => j2 e.symm)]
          by_cases j1 : j = k * 3 + 1
          · subst j1; rw [List.getElem?_set_self (by simp; omega), q1]
          · rw [List.getElem?_set_ne (fun e => j1 e.symm)]
            by_cases j0 : j = k * 3
            · subst j0; rw [List.getElem?_set_self (by omega), q0]
            · rw [List.getElem?_set_ne (fun e => j0 e.symm)]
              exact HX.out j (by omega)
      case measure => simp [intOf]; omega
    · have hge : (m.length : Int) ≤ (k : Int) := by omega
      have hxl : xs.length = m.length * 3 := hrow.1
      have hx : xs = cellsM m := by
        apply List.ext_getElem?
        intro j
        by_cases hj : j < k * 3
        · exact hxs j hj
        · rw [List.getElem?_eq_none (by omega), List.getElem?_eq_none (by rw [cellsM_len]; omega)]
      subst hx
      go_wp2
      go_ret
      exact ⟨_, rfl, hrow, hb⟩

/-- marks and looks -/
def Free (w : World) (g n : Nat) : Prop := ∀ j, j < n → (w.cell? ⟨g, j, none⟩).isSome = true ∧ w.frozen? ⟨g, j, none⟩ = false
theorem Free.set {w : World} {g n : Nat} (h : Free w g n) (i : Nat) (v : Value) : Free (w.setCell ⟨g, i, none⟩ v) g n := by
  intro j hj
  refine ⟨?_, by rw [World.frozen?_setCell]; exact (h j hj).2⟩
  by_cases e : i = j
  · subst e
    rw [World.cell?_setCell_same' _ _ _ (h i hj).1]; rfl
  · have ne : (⟨g, i, none⟩ : Addr) ≠ ⟨g, j, none⟩ := fun q => e (by injection q)
    have : (w.setCell ⟨g, i, none⟩ v).cell? ⟨g, j, none⟩ = w.cell? ⟨g, j, none⟩ := by
      first | exact World.cell?_setCell_other _ _ _ ne | exact World.cell?_setCell_other _ _ _ _ ne | exact World.cell?_setCell_other _ _ ne
    rw [this]; exact (h j hj).1
theorem set_other {w : World} {g i j : Nat} {v : Value} (h : i ≠ j) : (w.setCell ⟨g, i, none⟩ v).cell? ⟨g, j, none⟩ = w.cell? ⟨g, j, none⟩ := by
  have ne : (⟨g, i, none⟩ : Addr) ≠ ⟨g, j, none⟩ := fun q => h (by injection q)
  first | exact World.cell?_setCell_other _ _ _ ne | exact World.cell?_setCell_other _ _ _ _ ne | exact World.cell?_setCell_other _ _ ne
def Marks (w : World) (g n : Nat) : Prop := ∀ j : Nat, j < n → w.cell? ⟨g, j, none⟩ = some (.int .i64 (((j + 1 : Nat)) : Int))
theorem free_of {W : World} {g cap n : Nat} {cur : Array Value} {e : TypeId} (hg : W.heap[g]? = some (.cells cur e (0, 0))) (hnc : n ≤ cap) (hcs : cur.size = cap * 3) : Free W g (n * 3) := by
  intro j hj
  have hlt : j < cur.size := by rw [hcs]; omega
  constructor
  · simp [World.cell?, hg, Array.getElem?_eq_getElem hlt]
  · simp [World.frozen?, hg]
theorem marks_below {W W' : World} {g n : Nat} (h : Marks W g n) (k : Below W.heap.size W W') : Marks W' g n := fun j hj => (k.cell (p := ⟨g, j, none⟩) (blk (h j hj))).trans (h j hj)

set_option maxHeartbeats 1000000 in
theorem mark_nil (w : World) (a : Option Addr) (c : Nat) :
    Calls Tryz.prog 44 #[.slice a 0 c, .int .i64 1] w fun e w' => e = .returned (.int .i64 1) ∧ w' = w := by
  go_enter Tryz.func44, Tryz.ntmps44
  go_wp2
  refine wp_loop_rounds 1 ?_
  rw [rounds_succ]
  go_wp2
  go_ret
  exact ⟨rfl, rfl⟩
set_option maxHeartbeats 1000000 in
theorem held_nil (w : World) (a : Option Addr) (c : Nat) :
    Calls Tryz.prog 46 #[.slice a 0 c, .int .i64 1] w fun e w' => e = .returned (.int .i64 1) ∧ w' = w := by
  go_enter Tryz.func46, Tryz.ntmps46
  go_wp2
  refine wp_loop_rounds 1 ?_
  rw [rounds_succ]
  go_wp2
  go_ret
  exact ⟨rfl, rfl⟩

set_option maxRecDepth 8000 in
set_option maxHeartbeats 4000000 in
theorem mark_row (w : World) (g n c : Nat) (hn : n ≤ 1048576) (hf : Free w g (n * 3)) :
    Calls Tryz.prog 44 #[.slice (some ⟨g, 0, none⟩) n c, .int .i64 1] w fun e w' => e = .returned (.int .i64 ((1 + n * 3 : Nat) : Int)) ∧ But g w w' ∧ Marks w' g (n * 3) := by
  go_enter Tryz.func44, Tryz.ntmps44
  go_wp2
  go_loopw [1, 5] (fun q i wr => ∃ k : Nat, k ≤ n ∧ i = .int .i64 k ∧ q = .int .i64 ((1 + k * 3 : Nat) : Int) ∧ But g w wr ∧ Free wr g (n * 3) ∧ Marks wr g (k * 3)) (fun q i wr => n - (intOf i).toNat)
  case atStart => exact ⟨0, Nat.zero_le _, rfl, rfl, But.refl _ _, hf, fun j hj => absurd hj (by omega)⟩
  case round =>
    obtain ⟨k, hk, rfl, rfl, hb, hfr, hmk⟩ := hrel
    by_cases hlt : k < n
    · have hlt' : (k : Int) < (n : Int) := by omega
      obtain ⟨c0, f0⟩ := hfr (k * 3) (by omega)
      obtain ⟨c1, f1⟩ := hfr (k * 3 + 1) (by omega)
      obtain ⟨c2, f2⟩ := hfr (k * 3 + 2) (by omega)
      have HF : Hid (Free wr g (n * 3)) := hfr
      have HM : Hid (Marks wr g (k * 3)) := hmk
      obtain ⟨u0, e0⟩ := Option.isSome_iff_exists.1 c0
      obtain ⟨u1, e1⟩ := Option.isSome_iff_exists.1 c1
      obtain ⟨u2, e2⟩ := Option.isSome_iff_exists.1 c2
      clear hfr hmk hf c0 c1 c2
      go_wp2
      go_roundw
      case rel =>
        have F1 := HF.out.set (k * 3) (.int .i64 (1 + (k : Int) * 3))
        have F2 := F1.set (k * 3 + 1) (.int .i64 (1 + (k : Int) * 3 + 1))
        refine ⟨k + 1, by omega, by go_num, congrArg (Value.int IntKind.i64) (by omega), ((hb.setCell rfl _).setCell rfl _).setCell rfl _, F2.set _ _, fun j hj => ?_⟩
        by_cases j2 : j = k * 3 + 1 + 1
        · subst j2
          rw [World.cell?_setCell_same' _ _ _ (F2 _ (by omega)).1]
          exact congrArg some (congrArg (Value.int IntKind.i64) (by omega))
        · rw [set_other (fun e => j2 e.symm)]
          by_cases j1 : j = k * 3 + 1
          · subst j1
            rw [World.cell?_setCell_same' _ _ _ (F1 _ (by omega)).1]
            exact congrArg some (congrArg (Value.int IntKind.i64) (by omega))
          · rw [set_other (fun e => j1 e.symm)]
            by_cases j0 : j = k * 3
            · subst j0
              rw [World.cell?_setCell_same' _ _ _ (HF.out _ (by omega)).1]
              exact congrArg some (congrArg (Value.int IntKind.i64) (by omega))
            · rw [set_other (fun e => j0 e.symm)]
              exact HM.out j (by omega)
      case measure => simp [intOf]; omega
    · have hge : (n : Int) ≤ (k : Int) := by omega
      obtain rfl : k = n := by omega
      go_wp2
      go_ret
      exact ⟨rfl, hb, hmk⟩

set_option maxRecDepth 8000 in
set_option maxHeartbeats 4000000 in
theorem held_row (w : World) (g n c : Nat) (hn : n ≤ 1048576) (hm : Marks w g (n * 3)) :
    Calls Tryz.prog 46 #[.slice (some ⟨g, 0, none⟩) n c, .int .i64 1] w fun e w' => e = .returned (.int .i64 ((1 + n * 3 : Nat) : Int)) ∧ w' = w := by
  go_enter Tryz.func46, Tryz.ntmps46
  go_wp2
  go_loop [1, 5] (fun q i => ∃ k : Nat, k ≤ n ∧ i = .int .i64 k ∧ q = .int .i64 ((1 + k * 3 : Nat) : Int)) (fun q i => n - (intOf i).toNat)
  case atStart => exact ⟨0, Nat.zero_le _, rfl, rfl⟩
  case round =>
    obtain ⟨k, hk, rfl, rfl⟩ := hrel
    by_cases hlt : k < n
    · have hlt' : (k : Int) < (n : Int) := by omega
      have c0 : w.cell? ⟨g, k * 3, none⟩ = some (.int .i64 (1 + (k : Int) * 3)) := (hm (k * 3) (by omega)).trans (congrArg some (congrArg (Value.int IntKind.i64) (by omega)))
      have c1 : w.cell? ⟨g, k * 3 + 1, none⟩ = some (.int .i64 (1 + (k : Int) * 3 + 1)) := (hm (k * 3 + 1) (by omega)).trans (congrArg some (congrArg (Value.int IntKind.i64) (by omega)))
      have c2 : w.cell? ⟨g, k * 3 + 2, none⟩ = some (.int .i64 (1 + (k : Int) * 3 + 1 + 1)) := (hm (k * 3 + 2) (by omega)).trans (congrArg some (congrArg (Value.int IntKind.i64) (by omega)))
      clear hm
      go_wp2
      all_goals
        go_round
        case rel => exact ⟨k + 1, by omega, by go_num, congrArg (Value.int IntKind.i64) (by omega)⟩
        case measure => simp [intOf]; omega
    · have hge : (n : Int) ≤ (k : Int) := by omega
      obtain rfl : k = n := by omega
      go_wp2
      go_ret
      exact ⟨rfl, rfl⟩

/-- what was marked of a row -/
def MarksV (w : World) (v : Value) (n : Nat) : Prop := (∃ a c, v = .slice a n c) ∧ (n = 0 ∨ ∃ g c, v = .slice (some ⟨g, 0, none⟩) n c ∧ Marks w g (n * 3))
theorem MarksV.below {W W' : World} {v : Value} {n : Nat} (h : MarksV W v n) (k : Below W.heap.size W W') : MarksV W' v n := by
  refine ⟨h.1, ?_⟩
  rcases h.2 with h0 | ⟨g, c, e, hm⟩
  · exact .inl h0
  · exact .inr ⟨g, c, e, marks_below hm k⟩
theorem mark_any (w : World) (base : Nat) (e : TypeId) (v : Value) (n : Nat) (xs : List Value) (hr : w.ownsRow base e 3 v n xs) (hn : n ≤ 1048576) :
    Calls Tryz.prog 44 #[v, .int .i64 1] w fun e w' => e = .returned (.int .i64 ((1 + n * 3 : Nat) : Int)) ∧ w.grownBy w' v.ownBlock ∧ MarksV w' v n := by
  rcases hr.2 with ⟨rfl, h0⟩ | ⟨g, cap, cur, rfl, hbg, hg, hnc, _, hcs, _⟩
  · subst h0
    refine (mark_nil w none 0).mono ?_
    rintro e w' ⟨rfl, rfl⟩
    exact ⟨rfl, ⟨rfl, rfl, rfl, Nat.le_refl _, fun _ _ _ => rfl⟩, ⟨_, _, rfl⟩, .inl rfl⟩
  · refine (mark_row w g n cap hn (free_of hg hnc hcs)).mono ?_
    rintro e w' ⟨rfl, kb, hmk⟩
    exact ⟨rfl, ⟨kb.os, kb.tape, kb.output, by rw [kb.size]; exact Nat.le_refl _, fun k _ hk => kb.block k (fun q => hk (by rw [q]; rfl))⟩, ⟨_, _, rfl⟩, .inr ⟨g, cap, rfl, hmk⟩⟩
theorem held_any (w : World) (v : Value) (n : Nat) (h : MarksV w v n) (hn : n ≤ 1048576) :
    Calls Tryz.prog 46 #[v, .int .i64 1] w fun e w' => e = .returned (.int .i64 ((1 + n * 3 : Nat) : Int)) ∧ w' = w := by
  obtain ⟨⟨a, c, rfl⟩, h0 | ⟨g, c', e, hm⟩⟩ := h
  · subst h0
    exact held_nil w a c
  · rw [e]
    exact held_row w g n c' hn hm
/-- two rows, the later one made behind the other -/
theorem row_apart {w1 w2 : World} {b1 e1 s1 n1 b2 e2 s2 n2 : Nat} {v1 v2 : Value} {x1 x2 : List Value} (h1 : w1.ownsRow b1 e1 s1 v1 n1 x1) (h2 : w2.ownsRow b2 e2 s2 v2 n2 x2) (hb : w1.heap.size ≤ b2) : v2.ownBlock = none ∨ v2.ownBlock ≠ v1.ownBlock := by
  cases q : v2.ownBlock with
  | none => exact .inl rfl
  | some k =>
    refine .inr fun h => ?_
    have := (h1.lt k h.symm).2
    have := (h2.lt k q).1
    omega
theorem row_apart' {w1 w2 : World} {b1 e1 s1 n1 b2 e2 s2 n2 : Nat} {v1 v2 : Value} {x1 x2 : List Value} (h1 : w1.ownsRow b1 e1 s1 v1 n1 x1) (h2 : w2.ownsRow b2 e2 s2 v2 n2 x2) (hb : w1.heap.size ≤ b2) : v1.ownBlock = none ∨ v1.ownBlock ≠ v2.ownBlock := by
  cases q : v1.ownBlock with
  | none => exact .inl rfl
  | some k =>
    refine .inr fun h => ?_
    have := (h1.lt k q).2
    have := (h2.lt k h.symm).1
    omega
theorem row_grown {w w' : World} {b B : Nat} {e s n : Nat} {v : Value} {xs : List Value} (h : w.ownsRow b e s v n xs) (g : w.grownBy w' v.ownBlock) (hB : B ≤ w.heap.size) (hb : B ≤ b) : Below B w w' :=
  grown_below g hB (fun k hk => Nat.le_trans hb (h.lt k hk).1)
end Go.Proofs.YtfmjhbdbgcgoiaaGreatDoor.ExM

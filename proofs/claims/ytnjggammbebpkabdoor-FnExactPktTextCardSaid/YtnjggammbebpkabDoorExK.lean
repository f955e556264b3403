/- Packets as arguments and in the exact laws: a packet that came in is read; the mirror of a packet, and how it is held against another one. -/
import Derived.Test.YtnjggammbebpkabDoorExact1
import Derived.Test.YtnjggammbebpkabDoorPkC
import Derived.Lib.SmallJoins
import Derived.ChangeOld
namespace Go.Proofs.YtnjggammbebpkabDoor.ExK
open Go.RowKit Go.Joins Go.ChangeShapes Go.WideShapes Go.Proofs.YtnjggammbebpkabDoor.Kit Go.Proofs.YtnjggammbebpkabDoor.Pk
open Go.Proofs.YtnjggammbebpkabDoor.EndW (endV)
open Go.Proofs.YtnjggammbebpkabDoor.Exact (toEnd_any)

theorem array7 {α : Type} {cs : Array α} (h : cs.size = 7) : ∃ a b c d e f g, cs = #[a, b, c, d, e, f, g] := by
  obtain ⟨l⟩ := cs
  match l, h with
  | [a, b, c, d, e, f, g], _ => exact ⟨a, b, c, d, e, f, g, rfl⟩

theorem open_end {H : Type} {enc : TypeId × Value → H} {P : Program} {w : World} {base n : Nat} {t : TypeId} {g0 g1 : Field} {v0 v1 : Value} {y : DataW H × List MemPlace}
    (ht : P.underlying t = some (.struct #[g0, g1])) (p0 : g0.offset = 0) (p1 : g1.offset = 1) (d0 : P.cellsOf g0.type = 1) (d1 : P.cellsOf g1.type = 1)
    (j0 : P.underlying g0.type = some (.int .i64)) (j1 : P.underlying g1.type = some (.int .i64))
    (h : DataW.trod enc P w base (fun _ => true) true n t [v0, v1] = some y) : ∃ a b, v0 = .int .i64 a ∧ v1 = .int .i64 b := by
  obtain ⟨z0, z1, n2, _, _, l0, l1⟩ := trod_struct2 ht h
  simp [p0, p1, d0, d1] at l0 l1
  obtain ⟨q1, e1, _, _⟩ := DataW.trod_int j0 l0
  obtain ⟨q2, e2, _, _⟩ := DataW.trod_int j1 l1
  simp at e1 e2
  exact ⟨q1, q2, e1, e2⟩

/-- a packet that came in, read -/
theorem open_pkt {H : Type} {enc : TypeId × Value → H} {P : Program} {w : World} {base : Nat} {r : Reach} {b0 : Nat} {t : TypeId} {f0 f1 f2 f3 f4 g0 g1 : Field} {v : Value} {d : DataW H} {ps : List MemPlace}
    (ht : P.underlying t = some (.struct #[f0, f1, f2, f3, f4])) (hC : P.cellsOf t = 7) (ho : (f0.offset, f1.offset, f2.offset, f3.offset, f4.offset) = (0, 1, 3, 5, 6))
    (hc : (P.cellsOf f0.type, P.cellsOf f1.type, P.cellsOf f2.type, P.cellsOf f3.type, P.cellsOf f4.type) = (1, 2, 2, 1, 1)) (h2 : f2.type = f1.type)
    (i0 : P.underlying f0.type = some (.int .i64)) (i1 : P.underlying f1.type = some (.struct #[g0, g1])) (i3 : P.underlying f3.type = some (.int .i64)) (i4 : P.underlying f4.type = some .string)
    (p0 : g0.offset = 0) (p1 : g1.offset = 1) (d0 : P.cellsOf g0.type = 1) (d1 : P.cellsOf g1.type = 1) (j0 : P.underlying g0.type = some (.int .i64)) (j1 : P.underlying g1.type = some (.int .i64))
    (hv : Value.okWide P w r b0 t v) (h : DataW.Trod enc P w base (fun _ => true) true t v d ps) : ∃ k a b c e n s, v = pktV k a b c e n s ∧ s.size ≤ maxLen := by
  obtain ⟨cs, rfl, hsz⟩ := okWide_struct ht hv
  obtain ⟨v0, v1, v2, v3, v4, v5, v6, rfl⟩ := array7 (hsz.trans hC)
  obtain ⟨fuel, hf⟩ := h
  obtain ⟨xs, n, _, _, _, hlen, hx⟩ := DataW.trod_struct ht hf
  simp only [Prod.mk.injEq] at ho hc
  obtain ⟨o0, o1, o2, o3, o4⟩ := ho
  obtain ⟨c0, c1, c2, c3, c4⟩ := hc
  have h0 := hx 0 f0 rfl
  have h1 := hx 1 f1 rfl
  have h2' := hx 2 f2 rfl
  have h3 := hx 3 f3 rfl
  have h4 := hx 4 f4 rfl
  match xs, hlen with
  | [y0, y1, y2, y3, y4], _ =>
    simp [Value.cells, o0, c0] at h0
    simp [Value.cells, o1, c1] at h1
    simp [Value.cells, o2, c2] at h2'
    simp [Value.cells, o3, c3] at h3
    simp [Value.cells, o4, c4] at h4
    rw [h2] at h2'
    obtain ⟨q0, e0, _, _⟩ := DataW.trod_int i0 h0
    obtain ⟨q1, q2, e1, e2⟩ := open_end i1 p0 p1 d0 d1 j0 j1 h1
    obtain ⟨q3, q4, e3, e4⟩ := open_end i1 p0 p1 d0 d1 j0 j1 h2'
    obtain ⟨q5, e5, _, _⟩ := DataW.trod_int i3 h3
    obtain ⟨s, e6, _, hs⟩ := DataW.trod_string i4 h4
    simp at e0 e5 e6
    exact ⟨q0, q1, q2, q3, q4, q5, s, by rw [e0, e1, e2, e3, e4, e5, e6], hs⟩

set_option maxHeartbeats 1000000 in
theorem toPkt_any (k a b c d n : Int) (t : ByteArray) (w : World) :
    Calls Tryd.prog 6 #[pktV k a b c d n t] w fun e w' => e = .returned (pktV k a b c d n t) ∧ Below w.heap.size w w' := by
  have bel0 : Below w.heap.size w (((w.alloc (.cells #[.int .i64 k, .int .i64 a, .int .i64 b, .int .i64 c, .int .i64 d, .int .i64 n, .string t] 25)).alloc (.cells #[.int .i64 0, .int .i64 0, .int .i64 0, .int .i64 0, .int .i64 0, .int .i64 0, .string ⟨#[]⟩] 30))) :=
    ((Below.refl _ _).alloc (Nat.le_refl _) _).alloc (by simp) _
  go_enter Tryd.func6, Tryd.ntmps6
  go_wp2_with fail
  refine (toEnd_any _ _ _).mono ?_
  rintro e w1 ⟨rfl, k1⟩
  have z1 := k1.size
  simp at z1
  have a1 := keepc k1 w.heap.size (by simp <;> omega)
  have r1 := keepc k1 (w.heap.size + 1) (by simp <;> omega)
  have rf1 := keepf k1 (w.heap.size + 1) (by simp <;> omega)
  have p1 := keepc k1 (w.heap.size + 2) (by simp <;> omega)
  have pf1 := keepf k1 (w.heap.size + 2) (by simp <;> omega)
  have bel1 : Below w.heap.size w w1 := ((((Below.refl _ _).alloc (Nat.le_refl _) _).alloc (by simp) _).alloc (by simp <;> omega) _).trans (k1.mono (by simp <;> omega))
  clear k1
  go_wp2_with fail
  refine (toEnd_any _ _ _).mono ?_
  rintro e w2 ⟨rfl, k2⟩
  have z2 := k2.size
  simp [World.setCell] at z2
  have a2 : ∀ j, w2.cell? ⟨w.heap.size, j, none⟩ = w1.cell? ⟨w.heap.size, j, none⟩ := fun j => by
    rw [keepc k2 w.heap.size (by simp [World.setCell] <;> omega) j, cell_set (by first | (simp; done) | (simp; omega)), cell_set (by first | (simp; done) | (simp; omega))]
  have r2 : ∀ j, w2.cell? ⟨w.heap.size + 1, j, none⟩ = w1.cell? ⟨w.heap.size + 1, j, none⟩ := fun j => by
    rw [keepc k2 (w.heap.size + 1) (by simp [World.setCell] <;> omega) j, cell_set (by first | (simp; done) | (simp; omega)), cell_set (by first | (simp; done) | (simp; omega))]
  have rf2 : ∀ j, w2.frozen? ⟨w.heap.size + 1, j, none⟩ = w1.frozen? ⟨w.heap.size + 1, j, none⟩ := fun j => by
    rw [keepf k2 (w.heap.size + 1) (by simp [World.setCell] <;> omega) j]; simp
  have pf2 : ∀ j, w2.frozen? ⟨w.heap.size + 2, j, none⟩ = w1.frozen? ⟨w.heap.size + 2, j, none⟩ := fun j => by
    rw [keepf k2 (w.heap.size + 2) (by simp [World.setCell] <;> omega) j]; simp
  have p2 := keepc k2 (w.heap.size + 2) (by simp [World.setCell] <;> omega)
  have P0 : w2.cell? ⟨w.heap.size + 2, 0, none⟩ = some (.int .i64 k) := by rw [p2]; simp [go_sem, p1]
  have P1 : w2.cell? ⟨w.heap.size + 2, 1, none⟩ = some (.int .i64 a) := by rw [p2]; simp [go_sem, p1]
  have P2 : w2.cell? ⟨w.heap.size + 2, 2, none⟩ = some (.int .i64 b) := by rw [p2]; simp [go_sem, p1]
  have P3 : w2.cell? ⟨w.heap.size + 2, 3, none⟩ = some (.int .i64 0) := by rw [p2]; simp [go_sem, p1]
  have P4 : w2.cell? ⟨w.heap.size + 2, 4, none⟩ = some (.int .i64 0) := by rw [p2]; simp [go_sem, p1]
  have P5 : w2.cell? ⟨w.heap.size + 2, 5, none⟩ = some (.int .i64 0) := by rw [p2]; simp [go_sem, p1]
  have P6 : w2.cell? ⟨w.heap.size + 2, 6, none⟩ = some (.string ⟨#[]⟩) := by rw [p2]; simp [go_sem, p1]
  have bel2 := ((bel1.setCell (p := ⟨w.heap.size + 2, 1, none⟩) (by simp) (.int .i64 a)).setCell (p := ⟨w.heap.size + 2, 2, none⟩) (by simp) (.int .i64 b)).trans (k2.mono (by simp [World.setCell] <;> omega))
  clear k2 p1 p2 bel1
  go_wp2_with fail
  refine bodyPost_ret (v := pktV k a b c d n t) ?_ rfl ?_
  · simp [results, Tryd.results6, go_sem, r1, r2]
  · refine ⟨rfl, ?_⟩
    repeat (refine Below.setCell ?_ (by simp <;> omega) _)
    exact bel2

set_option maxHeartbeats 1000000 in
theorem szPkt_any (k a b c d n : Int) (t : ByteArray) (ht : t.size ≤ maxLen) (w : World) :
    Calls Tryd.prog 4 #[pktV k a b c d n t, .int .i64 1048576] w fun e w' => e = .returned (.int .i64 (if (1048576 : Int) < t.size then -1 else 1048576 - t.size)) ∧ Below w.heap.size w w' := by
  unfold maxLen at ht
  by_cases h : (1048576 : Int) < t.size
  · rw [if_pos h]
    have h' : (1048576 : Int) - t.size < 0 := by omega
    go_enter Tryd.func4, Tryd.ntmps4
    go_wp2
    go_ret
    exact ⟨rfl, (Below.refl _ _).alloc (Nat.le_refl _) _⟩
  · rw [if_neg h]
    have h' : 0 ≤ (1048576 : Int) - t.size := by omega
    go_enter Tryd.func4, Tryd.ntmps4
    go_wp2
    go_ret
    exact ⟨rfl, (Below.refl _ _).alloc (Nat.le_refl _) _⟩
end Go.Proofs.YtnjggammbebpkabDoor.ExK

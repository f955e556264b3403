/- Walks: what the laws on streams draw. -/
import Derived.Test.YtihhegjkliolhaaGreatDoorDrawP
import Derived.Test.YtihhegjkliolhaaGreatDoorSsC
import Derived.Deep.RegionWith
namespace Go.Proofs.YtihhegjkliolhaaGreatDoor.StP
open Go.RowKit Go.Shelf Go.Proofs.YtihhegjkliolhaaGreatDoor.Kit Go.Proofs.YtihhegjkliolhaaGreatDoor.Rd Go.Proofs.YtihhegjkliolhaaGreatDoor.Draw Go.Proofs.YtihhegjkliolhaaGreatDoor.Tx Go.Proofs.YtihhegjkliolhaaGreatDoor.Mp Go.Proofs.YtihhegjkliolhaaGreatDoor.Mm Go.Proofs.YtihhegjkliolhaaGreatDoor.Ms Go.Proofs.YtihhegjkliolhaaGreatDoor.Nm Go.Proofs.YtihhegjkliolhaaGreatDoor.App Go.Proofs.YtihhegjkliolhaaGreatDoor.St Go.Proofs.YtihhegjkliolhaaGreatDoor.SpA
set_option linter.unusedSimpArgs false
set_option linter.unusedVariables false

/-- a stream that was drawn is small -/
def Sm (S : ByteArray) (ps : List (Int × ByteArray)) : Prop := S.size ≤ 41 ∧ ps.length ≤ 40 ∧ ∀ q ∈ ps, (1 ≤ q.1 ∧ q.1 ≤ 6) ∧ q.2.size ≤ 8
theorem set_two {W : World} {R : Nat} {x y : Value} (e0 : W.cell? ⟨R, 0, none⟩ = some x) (e1 : W.cell? ⟨R, 1, none⟩ = some y) (u v : Value) :
    ((W.setCell ⟨R, 0, none⟩ u).setCell ⟨R, 1, none⟩ v).cell? ⟨R, 0, none⟩ = some u ∧ ((W.setCell ⟨R, 0, none⟩ u).setCell ⟨R, 1, none⟩ v).cell? ⟨R, 1, none⟩ = some v := by
  have ne : (⟨R, 1, none⟩ : Addr) ≠ ⟨R, 0, none⟩ := by simp
  have ne' : (⟨R, 0, none⟩ : Addr) ≠ ⟨R, 1, none⟩ := by simp
  have h0 : (W.setCell ⟨R, 0, none⟩ u).cell? ⟨R, 0, none⟩ = some u := by
    first | exact World.cell?_setCell_same _ _ _ e0 | exact World.cell?_setCell_same _ _ e0 | exact World.cell?_setCell_same _ e0
  have h1 : (W.setCell ⟨R, 0, none⟩ u).cell? ⟨R, 1, none⟩ = some y := by
    first | (rw [World.cell?_setCell_other _ _ _ ne']; exact e1) | (rw [World.cell?_setCell_other _ _ _ _ ne']; exact e1) | (rw [World.cell?_setCell_other _ _ ne']; exact e1)
  refine ⟨?_, ?_⟩
  · first | (rw [World.cell?_setCell_other _ _ _ ne]; exact h0) | (rw [World.cell?_setCell_other _ _ _ _ ne]; exact h0) | (rw [World.cell?_setCell_other _ _ ne]; exact h0)
  · first | exact World.cell?_setCell_same _ _ _ h1 | exact World.cell?_setCell_same _ _ h1 | exact World.cell?_setCell_same _ h1
set_option maxRecDepth 8000 in
set_option maxHeartbeats 4000000 in
theorem drawStreamOk (a : Option Addr) (len cap : Nat) (z : Nat → Int) (w : World) (h : CodeIn w a len cap z) :
    Calls Tryz.prog 46 #[.slice a len cap] w fun e w' => ∃ S pv ps, e = .returned (.agg #[.string S, pv]) ∧ IsT w' pv ps ∧ Sm S ps ∧ Below w.heap.size w w' := by
  have bA : Below w.heap.size w (w.alloc (.cells #[.string ⟨#[]⟩, .slice none 0 0] 26)) := (Below.refl _ _).alloc (Nat.le_refl _) _
  go_enter Tryz.func46, Tryz.ntmps46
  go_wp2_with fail
  refine (open_any a len cap z _ (h.below bA)).mono ?_
  rintro e w1 ⟨b, len', rfl, hbs, r1, k1⟩
  have hb1 : w.heap.size < b := by rw [hbs]; simp
  have z1 : w.heap.size < w1.heap.size := by have := k1.size; simp at this; omega
  have c1 := fun j => k1.cell (p := ⟨w.heap.size, j, none⟩) (by simp)
  have f1 := fun j => k1.frozen (p := ⟨w.heap.size, j, none⟩) (by simp)
  have bel1 := bA.trans (k1.mono (by simp))
  clear hbs k1
  go_wp2_with fail
  refine (stream_any b a len' cap z 0 _ r1 (by omega)).mono ?_
  rintro e w2 ⟨v, es, S, pv, ps, p2, rfl, hg, hm, hrow, hS, hpl, hpb, hp2, r2, k2⟩
  obtain ⟨va, vc, rfl⟩ := hm.slice
  obtain ⟨pa, pc, rfl⟩ := row_slice hrow
  have c2 := fun j => (k2.cell (p := ⟨w.heap.size, j, none⟩) z1 (by simp; omega)).trans (c1 j)
  have f2 := fun j => (k2.frozen (p := ⟨w.heap.size, j, none⟩) z1 (by simp; omega)).trans (f1 j)
  have e0 : w2.cell? ⟨w.heap.size, 0, none⟩ = some (.string ⟨#[]⟩) := by rw [c2 0]; simp
  have e1 : w2.cell? ⟨w.heap.size, 1, none⟩ = some (.slice none 0 0) := by rw [c2 1]; simp
  have ef : ∀ j, w2.frozen? ⟨w.heap.size, j, none⟩ = false := fun j => by rw [f2 j]; simp
  have bel2 := bel1.trans (k2.below (by omega) (by omega))
  have z2 : w.heap.size < w2.heap.size := by have := k2.size; omega
  have HR := (show Hid (w2.ownsRow w1.heap.size 45 2 (.slice pa ps.length pc) ps.length (cellsT ps)) from hrow)
  have HB := (show Hid (Below w.heap.size w w2) from bel2)
  clear c1 f1 c2 f2 r1 r2 k2 hrow hm bel1 bel2
  have hne : ∀ k, (Value.slice pa ps.length pc).ownBlock = some k → k ≠ w.heap.size := fun k hk => by have := (HR.out.lt k hk).1; omega
  have bw : Below w2.heap.size ((w2.setCell ⟨w.heap.size, 0, none⟩ (.string S)).setCell ⟨w.heap.size, 1, none⟩ (.slice pa ps.length pc)) (((w2.setCell ⟨w.heap.size, 0, none⟩ (.string S)).setCell ⟨w.heap.size, 1, none⟩ (.slice pa ps.length pc)).alloc (.cells #[.string S, .slice pa ps.length pc] 26)) := (Below.refl _ _).alloc (by simp) _
  have q0 : (((w2.setCell ⟨w.heap.size, 0, none⟩ (.string S)).setCell ⟨w.heap.size, 1, none⟩ (.slice pa ps.length pc)).alloc (.cells #[.string S, .slice pa ps.length pc] 26)).cell? ⟨w.heap.size, 0, none⟩ = some (.string S) := by
    rw [bw.cell (p := ⟨w.heap.size, 0, none⟩) z2]; exact (set_two e0 e1 _ _).1
  have q1 : (((w2.setCell ⟨w.heap.size, 0, none⟩ (.string S)).setCell ⟨w.heap.size, 1, none⟩ (.slice pa ps.length pc)).alloc (.cells #[.string S, .slice pa ps.length pc] 26)).cell? ⟨w.heap.size, 1, none⟩ = some (.slice pa ps.length pc) := by
    rw [bw.cell (p := ⟨w.heap.size, 1, none⟩) z2]; exact (set_two e0 e1 _ _).2
  go_wp2
  refine bodyPost_ret (v := .agg #[.string S, .slice pa ps.length pc]) ?_ rfl ?_
  · simp [results, Tryz.results46, go_sem, q0, q1]
  · refine ⟨S, _, ps, rfl, ?_, ⟨hS, hpl, hpb⟩, ?_⟩
    · exact (isT_of_row (ownsRow_setCell_other (ownsRow_setCell_other HR.out (a := ⟨w.heap.size, 0, none⟩) (fun e => hne _ e rfl) _) (a := ⟨w.heap.size, 1, none⟩) (fun e => hne _ e rfl) _)).below ((Below.refl _ _).alloc (Nat.le_refl _) _)
    · exact ((HB.out.setCell (p := ⟨w.heap.size, 0, none⟩) (Nat.le_refl _) _).setCell (p := ⟨w.heap.size, 1, none⟩) (Nat.le_refl _) _).trans (bw.mono (by omega))

/-- what stands while numbers are picked beside a stream that lies at X; the result's place is R -/
structure Pk (w W : World) (b : Nat) (a : Option Addr) (len cap : Nat) (z : Nat → Int) (p X base : Nat) (S : ByteArray) (pv : Value) (ps : List (Int × ByteArray)) : Prop where
  rd : Rd W b a len cap z p
  x0 : W.cell? ⟨X, 0, none⟩ = some (.string S)
  x1 : W.cell? ⟨X, 1, none⟩ = some pv
  r0 : W.cell? ⟨w.heap.size, 0, none⟩ = some (.string ⟨#[]⟩)
  r1 : W.cell? ⟨w.heap.size, 1, none⟩ = some (.slice none 0 0)
  rf : ∀ j, W.frozen? ⟨w.heap.size, j, none⟩ = false
  hx : X ≠ b
  hr : w.heap.size < b
  hb : b < base
  row : W.ownsRow base 45 2 pv ps.length (cellsT ps)
  bel : Below w.heap.size w W
theorem Pk.drew {w W : World} {b : Nat} {a : Option Addr} {len cap : Nat} {z : Nat → Int} {p X base : Nat} {S : ByteArray} {pv : Value} {ps : List (Int × ByteArray)} (h : Pk w W b a len cap z p X base S pv ps) : Pk w W.drew b a len cap z p X base S pv ps :=
  ⟨h.rd.below (Below.refl _ _).drew, h.x0, h.x1, h.r0, h.r1, h.rf, h.hx, h.hr, h.hb, h.row.drew, h.bel.drew⟩
theorem Pk.but {w W W' : World} {b : Nat} {a : Option Addr} {len cap : Nat} {z : Nat → Int} {p q X base : Nat} {S : ByteArray} {pv : Value} {ps : List (Int × ByteArray)} (h : Pk w W b a len cap z p X base S pv ps) (r : Rd W' b a len cap z q) (k : But b W W') : Pk w W' b a len cap z q X base S pv ps :=
  ⟨r, (k.cell (p := ⟨X, 0, none⟩) h.hx).trans h.x0, (k.cell (p := ⟨X, 1, none⟩) h.hx).trans h.x1, (k.cell (p := ⟨w.heap.size, 0, none⟩) (Nat.ne_of_lt h.hr)).trans h.r0, (k.cell (p := ⟨w.heap.size, 1, none⟩) (Nat.ne_of_lt h.hr)).trans h.r1, fun j => (k.frozen (p := ⟨w.heap.size, j, none⟩) (Nat.ne_of_lt h.hr)).trans (h.rf j), h.hx, h.hr, h.hb, DrawM.row_but h.row k h.hb, h.bel.trans (k.below (Nat.le_of_lt h.hr))⟩
theorem Pk.pick {w W : World} {b : Nat} {a : Option Addr} {len cap : Nat} {z : Nat → Int} {p X base : Nat} {S : ByteArray} {pv : Value} {ps : List (Int × ByteArray)} (h : Pk w W b a len cap z p X base S pv ps) (hp : p ≤ 1000000) (n : Int) (hn : 1 ≤ n) :
    Calls Tryz.prog 28 #[.pointer (some ⟨b, 0, none⟩), .int .i64 n] W fun e W' => ∃ v, e = .returned (.int .i64 v) ∧ 0 ≤ v ∧ v < n ∧ Hid (Pk w W' b a len cap z (p + 1) X base S pv ps) ∧ W'.cell? ⟨X, 0, none⟩ = some (.string S) ∧ W'.cell? ⟨X, 1, none⟩ = some pv ∧ W'.cell? ⟨w.heap.size, 0, none⟩ = some (.string ⟨#[]⟩) ∧ W'.cell? ⟨w.heap.size, 1, none⟩ = some (.slice none 0 0) ∧ (∀ j, W'.frozen? ⟨w.heap.size, j, none⟩ = false) := by
  refine (pick_any b a len cap z p n W h.rd (by omega) hn).mono ?_
  rintro e W' ⟨v, rfl, h0, h1, r, k⟩
  have h' := h.but r k
  exact ⟨v, rfl, h0, h1, h', h'.x0, h'.x1, h'.r0, h'.r1, h'.rf⟩
theorem Pk.fin {w W : World} {b : Nat} {a : Option Addr} {len cap : Nat} {z : Nat → Int} {p X base : Nat} {S : ByteArray} {pv : Value} {ps : List (Int × ByteArray)} (h : Pk w W b a len cap z p X base S pv ps) (u u' : Value) :
    IsT ((W.setCell ⟨w.heap.size, 0, none⟩ u).setCell ⟨w.heap.size, 1, none⟩ u') pv ps ∧ Below w.heap.size w ((W.setCell ⟨w.heap.size, 0, none⟩ u).setCell ⟨w.heap.size, 1, none⟩ u') := by
  have hne : ∀ k, pv.ownBlock = some k → k ≠ w.heap.size := fun k hk => by have := (h.row.lt k hk).1; have := h.hr; have := h.hb; omega
  exact ⟨isT_of_row (ownsRow_setCell_other (ownsRow_setCell_other h.row (a := ⟨w.heap.size, 0, none⟩) (fun e => hne _ e rfl) _) (a := ⟨w.heap.size, 1, none⟩) (fun e => hne _ e rfl) _),
    (h.bel.setCell (p := ⟨w.heap.size, 0, none⟩) (Nat.le_refl _) _).setCell (p := ⟨w.heap.size, 1, none⟩) (Nat.le_refl _) _⟩

end Go.Proofs.YtihhegjkliolhaaGreatDoor.StP

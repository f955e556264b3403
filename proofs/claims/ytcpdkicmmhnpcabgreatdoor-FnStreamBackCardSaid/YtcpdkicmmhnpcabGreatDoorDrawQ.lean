/- Walks: what the laws on streams draw. -/
import Derived.Test.YtcpdkicmmhnpcabGreatDoorDrawP
import Derived.Test.YtcpdkicmmhnpcabGreatDoorSsC
import Derived.Deep.RegionWith
namespace Go.Proofs.YtcpdkicmmhnpcabGreatDoor.StP
open Go.RowKit Go.Shelf Go.Proofs.YtcpdkicmmhnpcabGreatDoor.Kit Go.Proofs.YtcpdkicmmhnpcabGreatDoor.Rd Go.Proofs.YtcpdkicmmhnpcabGreatDoor.Draw Go.Proofs.YtcpdkicmmhnpcabGreatDoor.Tx Go.Proofs.YtcpdkicmmhnpcabGreatDoor.Mp Go.Proofs.YtcpdkicmmhnpcabGreatDoor.Mm Go.Proofs.YtcpdkicmmhnpcabGreatDoor.Ms Go.Proofs.YtcpdkicmmhnpcabGreatDoor.Nm Go.Proofs.YtcpdkicmmhnpcabGreatDoor.App Go.Proofs.YtcpdkicmmhnpcabGreatDoor.St Go.Proofs.YtcpdkicmmhnpcabGreatDoor.SpA
set_option linter.unusedSimpArgs false
set_option linter.unusedVariables false

/-- a stream that was drawn is small -/
def Sm (S : ByteArray) (ps : List (Int × ByteArray)) : Prop := S.size ≤ 41 ∧ ps.length ≤ 40 ∧ ∀ q ∈ ps, (1 ≤ q.1 ∧ q.1 ≤ 6) ∧ q.2.size ≤ 8
theorem set_two {W : World} {R : Nat} {x y : Value} (e0 : W.cell? ⟨R, 0, none⟩ = some x) (e1 : W.cell? ⟨R, 1, none⟩ = some y) (u v : Value) :
    ((W.setCell ⟨R, 0, none⟩ u).setCell ⟨R, 1, none⟩ v).cell? ⟨R, 0, none⟩ = some u ∧ ((W.setCell ⟨R, 0, none⟩ u).setCell ⟨R, 1, none⟩ v).cell? ⟨R, 1, none⟩ = some v := by
  have ne : (⟨R, 1, none⟩ : Addr) ≠ ⟨R, 0, none⟩ := by simp
  have ne' : (⟨R, 0, none⟩ : Addr) ≠ ⟨R, 1, none⟩ := by simp
  have h0 : (W.setCell ⟨R, 0, none⟩ u).cell? ⟨R, 0, none⟩ = some u := by
    first | exact World.cell?_setCell_same _ _ _ e0 | exact World.cell?_setCell_same _ _ e0 | exact World.cell?_setCell_same _ e0
  have h1 : (W.setCell ⟨R, 0, none⟩ u).cell? ⟨R, 1, none⟩ = some y := by
    first | (rw [World.cell?_setCell_other _ _ _ ne']; exact e1) | (rw [World.cell?_setCell_other _ _ _ _ ne']; exact e1) | (rw [World.cell?_setCell_other _ _ ne']; exact e1)
  refine ⟨?_, ?_⟩
  · first | (rw [World.cell?_setCell_other _ _ _ ne]; exact h0) | (rw [World.cell?_setCell_other _ _ _ _ ne]; exact h0) | (rw [World.cell?_setCell_other _ _ ne]; exact h0)
  · first | exact World.cell?_setCell_same _ _ _ h1 | exact World.cell?_setCell_same _ _ h1 | exact World.cell?_setCell_same _ h1
set_option maxRecDepth 8000 in
set_option maxHeartbeats 4000000 in
theorem drawStreamOk (a : Option Addr) (len cap : Nat) (z : Nat → Int) (w : World) (h : CodeIn w a len cap z) :
    Calls Tryz.prog 45 #[.slice a len cap] w fun e w' => ∃ S pv ps, e = .returned (.agg #[.string S, pv]) ∧ IsT w' pv ps ∧ Sm S ps ∧ Below w.heap.size w w' := by
  have bA : Below w.heap.size w (w.alloc (.cells #[.string ⟨#[]⟩, .slice none 0 0] 25)) := (Below.refl _ _).alloc (Nat.le_refl _) _
  go_enter Tryz.func45, Tryz.ntmps45
  go_wp2_with fail
  refine (open_any a len cap z _ (h.below bA)).mono ?_
  rintro e w1 ⟨b, len', rfl, hbs, r1, k1⟩
  have hb1 : w.heap.size < b := by rw [hbs]; simp
  have z1 : w.heap.size < w1.heap.size := by have := k1.size; simp at this; omega
  have c1 := fun j => k1.cell (p := ⟨w.heap.size, j, none⟩) (by simp)
  have f1 := fun j => k1.frozen (p := ⟨w.heap.size, j, none⟩) (by simp)
  have bel1 := bA.trans (k1.mono (by simp))
  clear hbs k1
  go_wp2_with fail
  refine (stream_any b a len' cap z 0 _ r1 (by omega)).mono ?_
  rintro e w2 ⟨v, es, S, pv, ps, p2, rfl, hg, hm, hrow, hS, hpl, hpb, hp2, r2, k2⟩
  obtain ⟨va, vc, rfl⟩ := hm.slice
  obtain ⟨pa, pc, rfl⟩ := row_slice hrow
  have c2 := fun j => (k2.cell (p := ⟨w.heap.size, j, none⟩) z1 (by simp; omega)).trans (c1 j)
  have f2 := fun j => (k2.frozen (p := ⟨w.heap.size, j, none⟩) z1 (by simp; omega)).trans (f1 j)
  have e0 : w2.cell? ⟨w.heap.size, 0, none⟩ = some (.string ⟨#[]⟩) := by rw [c2 0]; simp
  have e1 : w2.cell? ⟨w.heap.size, 1, none⟩ = some (.slice none 0 0) := by rw [c2 1]; simp
  have ef : ∀ j, w2.frozen? ⟨w.heap.size, j, none⟩ = false := fun j => by rw [f2 j]; simp
  have bel2 := bel1.trans (k2.below (by omega) (by omega))
  have z2 : w.heap.size < w2.heap.size := by have := k2.size; omega
  have HR := (show Hid (w2.ownsRow w1.heap.size 36 2 (.slice pa ps.length pc) ps.length (cellsT ps)) from hrow)
  have HB := (show Hid (Below w.heap.size w w2) from bel2)
  clear c1 f1 c2 f2 r1 r2 k2 hrow hm bel1 bel2
  have hne : ∀ k, (Value.slice pa ps.length pc).ownBlock = some k → k ≠ w.heap.size := fun k hk => by have := (HR.out.lt k hk).1; omega
  have bw : Below w2.heap.size ((w2.setCell ⟨w.heap.size, 0, none⟩ (.string S)).setCell ⟨w.heap.size, 1, none⟩ (.slice pa ps.length pc)) (((w2.setCell ⟨w.heap.size, 0, none⟩ (.string S)).setCell ⟨w.heap.size, 1, none⟩ (.slice pa ps.length pc)).alloc (.cells #[.string S, .slice pa ps.length pc] 25)) := (Below.refl _ _).alloc (by simp) _
  have q0 : (((w2.setCell ⟨w.heap.size, 0, none⟩ (.string S)).setCell ⟨w.heap.size, 1, none⟩ (.slice pa ps.length pc)).alloc (.cells #[.string S, .slice pa ps.length pc] 25)).cell? ⟨w.heap.size, 0, none⟩ = some (.string S) := by
    rw [bw.cell (p := ⟨w.heap.size, 0, none⟩) z2]; exact (set_two e0 e1 _ _).1
  have q1 : (((w2.setCell ⟨w.heap.size, 0, none⟩ (.string S)).setCell ⟨w.heap.size, 1, none⟩ (.slice pa ps.length pc)).alloc (.cells #[.string S, .slice pa ps.length pc] 25)).cell? ⟨w.heap.size, 1, none⟩ = some (.slice pa ps.length pc) := by
    rw [bw.cell (p := ⟨w.heap.size, 1, none⟩) z2]; exact (set_two e0 e1 _ _).2
  go_wp2
  refine bodyPost_ret (v := .agg #[.string S, .slice pa ps.length pc]) ?_ rfl ?_
  · simp [results, Tryz.results45, go_sem, q0, q1]
  · refine ⟨S, _, ps, rfl, ?_, ⟨hS, hpl, hpb⟩, ?_⟩
    · exact (isT_of_row (ownsRow_setCell_other (ownsRow_setCell_other HR.out (a := ⟨w.heap.size, 0, none⟩) (fun e => hne _ e rfl) _) (a := ⟨w.heap.size, 1, none⟩) (fun e => hne _ e rfl) _)).below ((Below.refl _ _).alloc (Nat.le_refl _) _)
    · exact ((HB.out.setCell (p := ⟨w.heap.size, 0, none⟩) (Nat.le_refl _) _).setCell (p := ⟨w.heap.size, 1, none⟩) (Nat.le_refl _) _).trans (bw.mono (by omega))

/-- what stands while numbers are picked beside a stream that lies at X; the result's place is R -/
structure Pk (w W : World) (b : Nat) (a : Option Addr) (len cap : Nat) (z : Nat → Int) (p X base : Nat) (S : ByteArray) (pv : Value) (ps : List (Int × ByteArray)) : Prop where
  rd : Rd W b a len cap z p
  x0 : W.cell? ⟨X, 0, none⟩ = some (.string S)
  x1 : W.cell? ⟨X, 1, none⟩ = some pv
  r0 : W.cell? ⟨w.heap.size, 0, none⟩ = some (.string ⟨#[]⟩)
  r1 : W.cell? ⟨w.heap.size, 1, none⟩ = some (.slice none 0 0)
  rf : ∀ j, W.frozen? ⟨w.heap.size, j, none⟩ = false
  hx : X ≠ b
  hr : w.heap.size < b
  hb : b < base
  row : W.ownsRow base 36 2 pv ps.length (cellsT ps)
  bel : Below w.heap.size w W
theorem Pk.drew {w W : World} {b : Nat} {a : Option Addr} {len cap : Nat} {z : Nat → Int} {p X base : Nat} {S : ByteArray} {pv : Value} {ps : List (Int × ByteArray)} (h : Pk w W b a len cap z p X base S pv ps) : Pk w W.drew b a len cap z p X base S pv ps :=
  ⟨h.rd.below (Below.refl _ _).drew, h.x0, h.x1, h.r0, h.r1, h.rf, h.hx, h.hr, h.hb, h.row.drew, h.bel.drew⟩
theorem Pk.but {w W W' : World} {b : Nat} {a : Option Addr} {len cap : Nat} {z : Nat → Int} {p q X base : Nat} {S : ByteArray} {pv : Value} {ps : List (Int × ByteArray)} (h : Pk w W b a len cap z p X base S pv ps) (r : Rd W' b a len cap z q) (k : But b W W') : Pk w W' b a len cap z q X base S pv ps :=
  ⟨r, (k.cell (p := ⟨X, 0, none⟩) h.hx).trans h.x0, (k.cell (p := ⟨X, 1, none⟩) h.hx).trans h.x1, (k.cell (p := ⟨w.heap.size, 0, none⟩) (Nat.ne_of_lt h.hr)).trans h.r0, (k.cell (p := ⟨w.heap.size, 1, none⟩) (Nat.ne_of_lt h.hr)).trans h.r1, fun j => (k.frozen (p := ⟨w.heap.size, j, none⟩) (Nat.ne_of_lt h.hr)).trans (h.rf j), h.hx, h.hr, h.hb, DrawM.row_but h.row k h.hb, h.bel.trans (k.below (Nat.le_of_lt h.hr))⟩
theorem Pk.pick {w W : World} {b : Nat} {a : Option Addr} {len cap : Nat} {z : Nat → Int} {p X base : Nat} {S : ByteArray} {pv : Value} {ps : List (Int × ByteArray)} (h : Pk w W b a len cap z p X base S pv ps) (hp : p ≤ 1000000) (n : Int) (hn : 1 ≤ n) :
    Calls Tryz.prog 32 #[.pointer (some ⟨b, 0, none⟩), .int .i64 n] W fun e W' => ∃ v, e = .returned (.int .i64 v) ∧ 0 ≤ v ∧ v < n ∧ Hid (Pk w W' b a len cap z (p + 1) X base S pv ps) ∧ W'.cell? ⟨X, 0, none⟩ = some (.string S) ∧ W'.cell? ⟨X, 1, none⟩ = some pv ∧ W'.cell? ⟨w.heap.size, 0, none⟩ = some (.string ⟨#[]⟩) ∧ W'.cell? ⟨w.heap.size, 1, none⟩ = some (.slice none 0 0) ∧ (∀ j, W'.frozen? ⟨w.heap.size, j, none⟩ = false) := by
  refine (pick_any b a len cap z p n W h.rd (by omega) hn).mono ?_
  rintro e W' ⟨v, rfl, h0, h1, r, k⟩
  have h' := h.but r k
  exact ⟨v, rfl, h0, h1, h', h'.x0, h'.x1, h'.r0, h'.r1, h'.rf⟩
theorem Pk.fin {w W : World} {b : Nat} {a : Option Addr} {len cap : Nat} {z : Nat → Int} {p X base : Nat} {S : ByteArray} {pv : Value} {ps : List (Int × ByteArray)} (h : Pk w W b a len cap z p X base S pv ps) (u u' : Value) :
    IsT ((W.setCell ⟨w.heap.size, 0, none⟩ u).setCell ⟨w.heap.size, 1, none⟩ u') pv ps ∧ Below w.heap.size w ((W.setCell ⟨w.heap.size, 0, none⟩ u).setCell ⟨w.heap.size, 1, none⟩ u') := by
  have hne : ∀ k, pv.ownBlock = some k → k ≠ w.heap.size := fun k hk => by have := (h.row.lt k hk).1; have := h.hr; have := h.hb; omega
  exact ⟨isT_of_row (ownsRow_setCell_other (ownsRow_setCell_other h.row (a := ⟨w.heap.size, 0, none⟩) (fun e => hne _ e rfl) _) (a := ⟨w.heap.size, 1, none⟩) (fun e => hne _ e rfl) _),
    (h.bel.setCell (p := ⟨w.heap.size, 0, none⟩) (Nat.le_refl _) _).setCell (p := ⟨w.heap.size, 1, none⟩) (Nat.le_refl _) _⟩

set_option maxRecDepth 8000 in
set_option maxHeartbeats 8000000 in
theorem drawStreamFor (a : Option Addr) (len cap : Nat) (z : Nat → Int) (w : World) (h : CodeIn w a len cap z) :
    Calls Tryz.prog 15 #[.slice a len cap] w fun e w' => ∃ S pv ps n, e = .returned (.tuple #[.agg #[.string S, pv], .int .i64 n]) ∧ IsT w' pv ps ∧ Sm S ps ∧ Below w.heap.size w w' := by
  have bA : Below w.heap.size w (w.alloc (.cells #[.string ⟨#[]⟩, .slice none 0 0] 25)) := (Below.refl _ _).alloc (Nat.le_refl _) _
  go_enter Tryz.func15, Tryz.ntmps15
  go_wp2_with fail
  refine (open_any a len cap z _ (h.below bA)).mono ?_
  rintro e w1 ⟨b, len', rfl, hbs, r1, k1⟩
  have hb1 : w.heap.size < b := by rw [hbs]; simp
  have z1 : w.heap.size < w1.heap.size := by have := k1.size; simp at this; omega
  have c1 := fun j => k1.cell (p := ⟨w.heap.size, j, none⟩) (by simp)
  have f1 := fun j => k1.frozen (p := ⟨w.heap.size, j, none⟩) (by simp)
  have bel1 := bA.trans (k1.mono (by simp))
  have hbl1 : b < w1.heap.size := blk r1.c0
  clear hbs k1
  go_wp2_with fail
  refine (stream_any b a len' cap z 0 _ r1 (by omega)).mono ?_
  rintro e w2 ⟨v, es, S, pv, ps, p2, rfl, hg, hm, hrow, hS, hpl, hpb, hp2, r2, k2⟩
  obtain ⟨va, vc, rfl⟩ := hm.slice
  obtain ⟨pa, pc, rfl⟩ := row_slice hrow
  have c2 := fun j => (k2.cell (p := ⟨w.heap.size, j, none⟩) z1 (by simp; omega)).trans (c1 j)
  have f2 := fun j => (k2.frozen (p := ⟨w.heap.size, j, none⟩) z1 (by simp; omega)).trans (f1 j)
  have e0 : w2.cell? ⟨w.heap.size, 0, none⟩ = some (.string ⟨#[]⟩) := by rw [c2 0]; simp
  have e1 : w2.cell? ⟨w.heap.size, 1, none⟩ = some (.slice none 0 0) := by rw [c2 1]; simp
  have ef : ∀ j, w2.frozen? ⟨w.heap.size, j, none⟩ = false := fun j => by rw [f2 j]; simp
  have bel2 := bel1.trans (k2.below (by omega) (by omega))
  have z2 : w1.heap.size ≤ w2.heap.size := k2.size
  have HR := (show Hid (w2.ownsRow w1.heap.size 36 2 (.slice pa ps.length pc) ps.length (cellsT ps)) from hrow)
  have HB := (show Hid (Below w.heap.size w w2) from bel2)
  clear c1 f1 c2 f2 r1 k2 hrow hm bel1 bel2 hg bA h
  have bA2 : Below w2.heap.size w2 (w2.alloc (.cells #[.string S, .slice pa ps.length pc] 25)) := (Below.refl _ _).alloc (Nat.le_refl _) _
  have hpk : Pk w (w2.alloc (.cells #[.string S, .slice pa ps.length pc] 25)) b a len' cap z p2 w2.heap.size w1.heap.size S (.slice pa ps.length pc) ps :=
    ⟨r2.below bA2, by simp, by simp, (bA2.cell (p := ⟨w.heap.size, 0, none⟩) (by simp; omega)).trans e0, (bA2.cell (p := ⟨w.heap.size, 1, none⟩) (by simp; omega)).trans e1, fun j => (bA2.frozen (p := ⟨w.heap.size, j, none⟩) (by simp; omega)).trans (ef j), by omega, hb1, hbl1, HR.out.alloc _, HB.out.trans (bA2.mono (by omega))⟩
  have HK := (show Hid (Pk w (w2.alloc (.cells #[.string S, .slice pa ps.length pc] 25)).drew b a len' cap z p2 w2.heap.size w1.heap.size S (.slice pa ps.length pc) ps) from hpk.drew)
  have z2' : w.heap.size < w2.heap.size := by omega
  have hwS : IntKind.i64.wrap ((S.size : Int) + 1) = (S.size : Int) + 1 := by simp [IntKind.wrap, IntKind.bits, IntKind.signed]; omega
  clear bA2 hpk e0 e1 ef HR HB r2
  go_wp2_with fail
  go_region_with (go_at_call 32; first | (refine (HK.out.pick (by omega) _ (by omega)).mono ?_; rintro e w3 ⟨x3, rfl, h30, h31, K3, q30, q31, q32, q33, q34⟩) | (refine (K3.out.pick (by omega) _ (by omega)).mono ?_; rintro e w4 ⟨x4, rfl, h40, h41, K4, q40, q41, q42, q43, q44⟩))
  all_goals
    go_wp2
    first
    | (refine bodyPost_ret (v := .tuple #[.agg #[.string S, .slice pa ps.length pc], .int .i64 (IntKind.i64.wrap (x3 - IntKind.i64.wrap (IntKind.i64.wrap (x4.tdiv 19) * 30)))]) (by simp [results, Tryz.results15, go_sem, q40, q41, q42, q43]; done) rfl ?_; obtain ⟨i1, i2⟩ := K4.out.fin (.string S) (.slice pa ps.length pc); exact ⟨S, _, ps, _, rfl, i1, ⟨hS, hpl, hpb⟩, i2⟩)
    | (refine bodyPost_ret (v := .tuple #[.agg #[.string S, .slice pa ps.length pc], .int .i64 (IntKind.i64.wrap (x4 - IntKind.i64.wrap (IntKind.i64.wrap (x3.tdiv 19) * 30)))]) (by simp [results, Tryz.results15, go_sem, q40, q41, q42, q43]; done) rfl ?_; obtain ⟨i1, i2⟩ := K4.out.fin (.string S) (.slice pa ps.length pc); exact ⟨S, _, ps, _, rfl, i1, ⟨hS, hpl, hpb⟩, i2⟩)
end Go.Proofs.YtcpdkicmmhnpcabGreatDoor.StP

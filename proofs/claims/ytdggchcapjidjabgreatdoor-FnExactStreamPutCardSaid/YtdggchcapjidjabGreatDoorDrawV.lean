/- Walks: what the laws on StreamPut draw. -/
import Derived.Test.YtdggchcapjidjabGreatDoorDrPQ
import Derived.Deep.Cut
import Derived.Test.YtdggchcapjidjabGreatDoorRi
namespace Go.Proofs.YtdggchcapjidjabGreatDoor.StP
open Go.RowKit Go.Shelf Go.Proofs.YtdggchcapjidjabGreatDoor.Kit Go.Proofs.YtdggchcapjidjabGreatDoor.Rd Go.Proofs.YtdggchcapjidjabGreatDoor.Draw Go.Proofs.YtdggchcapjidjabGreatDoor.Tx Go.Proofs.YtdggchcapjidjabGreatDoor.Mp Go.Proofs.YtdggchcapjidjabGreatDoor.Mm Go.Proofs.YtdggchcapjidjabGreatDoor.Ms Go.Proofs.YtdggchcapjidjabGreatDoor.Nm Go.Proofs.YtdggchcapjidjabGreatDoor.App Go.Proofs.YtdggchcapjidjabGreatDoor.St Go.Proofs.YtdggchcapjidjabGreatDoor.SpA
set_option linter.unusedSimpArgs false
set_option linter.unusedVariables false

theorem ownP_but {W W' : World} {base b : Nat} {v : Value} {es : List (Int × Int)} (h : OwnP W base v es) (k : But b W W') (hb : b < base) : OwnP W' base v es := by
  rcases h with r | ⟨g, o, cap, cur, e, hg, hc, h1, h2, h3, h4⟩
  · exact .inl r
  · have hne : g ≠ b := by omega
    exact .inr ⟨g, o, cap, cur, e, hg, (k.block g hne).trans hc, h1, h2, h3, fun i p hp => (h4 i p hp).same (k.block g hne)⟩
/-- what stands while numbers are picked beside a map and a stream -/
def PkM (w W : World) (b : Nat) (a : Option Addr) (len cap : Nat) (z : Nat → Int) (p X base : Nat) (S : ByteArray) (pv : Value) (ps : List (Int × ByteArray)) (v : Value) (es : List (Int × Int)) : Prop :=
  Pk w W b a len cap z p X base S pv ps ∧ OwnP W base v es
theorem PkM.pick {w W : World} {b : Nat} {a : Option Addr} {len cap : Nat} {z : Nat → Int} {p X base : Nat} {S : ByteArray} {pv : Value} {ps : List (Int × ByteArray)} {v : Value} {es : List (Int × Int)} (h : PkM w W b a len cap z p X base S pv ps v es) (hp : p ≤ 1000000) (n : Int) (hn : 1 ≤ n) :
    Calls Tryz.prog 28 #[.pointer (some ⟨b, 0, none⟩), .int .i64 n] W fun e W' => ∃ x, e = .returned (.int .i64 x) ∧ 0 ≤ x ∧ x < n ∧ Hid (PkM w W' b a len cap z (p + 1) X base S pv ps v es) ∧ W'.cell? ⟨X, 0, none⟩ = some (.string S) ∧ W'.cell? ⟨X, 1, none⟩ = some pv ∧ W'.cell? ⟨w.heap.size, 0, none⟩ = some (.string ⟨#[]⟩) ∧ W'.cell? ⟨w.heap.size, 1, none⟩ = some (.slice none 0 0) ∧ (∀ j, W'.frozen? ⟨w.heap.size, j, none⟩ = false) := by
  refine (pick_any b a len cap z p n W h.1.rd (by omega) hn).mono ?_
  rintro e W' ⟨x, rfl, h0, h1, r, k⟩
  have h' := h.1.but r k
  exact ⟨x, rfl, h0, h1, ⟨h', ownP_but h.2 k h.1.hb⟩, h'.x0, h'.x1, h'.r0, h'.r1, h'.rf⟩
theorem ownP_asideM {W W' : World} {base b : Nat} {v : Value} {es : List (Int × Int)} (h : OwnP W base v es) (k : Kit.Aside b W W') (hb : b < base) : OwnP W' base v es := by
  rcases h with r | ⟨g, o, cap, cur, e, hg, hc, h1, h2, h3, h4⟩
  · exact .inl r
  · have hne : g ≠ b := by omega
    have hl : g < W.heap.size := (Array.getElem?_eq_some_iff.1 hc).1
    exact .inr ⟨g, o, cap, cur, e, hg, (k.block g hl hne).trans hc, h1, h2, h3, fun i p hp => (h4 i p hp).same (k.block g hl hne)⟩
theorem PkM.aside {w W W' : World} {b : Nat} {a : Option Addr} {len cap : Nat} {z : Nat → Int} {p q X base : Nat} {S : ByteArray} {pv : Value} {ps : List (Int × ByteArray)} {v : Value} {es : List (Int × Int)} (h : PkM w W b a len cap z p X base S pv ps v es) (r : Rd W' b a len cap z q) (k : Kit.Aside b W W') : PkM w W' b a len cap z q X base S pv ps v es := by
  have hX : X < W.heap.size := blk h.1.x0
  have hw : w.heap.size < W.heap.size := blk h.1.r0
  exact ⟨⟨r, (k.cell (p := ⟨X, 0, none⟩) hX h.1.hx).trans h.1.x0, (k.cell (p := ⟨X, 1, none⟩) hX h.1.hx).trans h.1.x1, (k.cell (p := ⟨w.heap.size, 0, none⟩) hw (Nat.ne_of_lt h.1.hr)).trans h.1.r0, (k.cell (p := ⟨w.heap.size, 1, none⟩) hw (Nat.ne_of_lt h.1.hr)).trans h.1.r1, fun j => (k.frozen (p := ⟨w.heap.size, j, none⟩) hw (Nat.ne_of_lt h.1.hr)).trans (h.1.rf j), h.1.hx, h.1.hr, h.1.hb, DrawM.row_aside h.1.row k h.1.hb, h.1.bel.trans (k.below (Nat.le_of_lt h.1.hr) (Nat.le_of_lt hw))⟩, ownP_asideM h.2 k h.1.hb⟩
theorem PkM.text {w W : World} {b : Nat} {a : Option Addr} {len cap : Nat} {z : Nat → Int} {p X base : Nat} {S : ByteArray} {pv : Value} {ps : List (Int × ByteArray)} {v : Value} {es : List (Int × Int)} (h : PkM w W b a len cap z p X base S pv ps v es) (hp : p ≤ 10000) (most : Nat) (hn : most ≤ 1000) :
    Calls Tryz.prog 27 #[.pointer (some ⟨b, 0, none⟩), .int .i64 (most : Nat)] W fun e W' => ∃ s p', e = .returned (.string s) ∧ s.size ≤ most ∧ p' ≤ p + 100 ∧ Hid (PkM w W' b a len cap z p' X base S pv ps v es) ∧ W'.cell? ⟨X, 0, none⟩ = some (.string S) ∧ W'.cell? ⟨X, 1, none⟩ = some pv ∧ W'.cell? ⟨w.heap.size, 0, none⟩ = some (.string ⟨#[]⟩) ∧ W'.cell? ⟨w.heap.size, 1, none⟩ = some (.slice none 0 0) ∧ (∀ j, W'.frozen? ⟨w.heap.size, j, none⟩ = false) := by
  refine (Draw.text_any b a len cap z p most hn W h.1.rd (by omega)).mono ?_
  rintro e W' ⟨s, p', rfl, h0, h1, r, k⟩
  have h' := h.aside r k
  exact ⟨s, p', rfl, h0, h1, h', h'.1.x0, h'.1.x1, h'.1.r0, h'.1.r1, h'.1.rf⟩
theorem PkM.fin2 {w W : World} {b : Nat} {a : Option Addr} {len cap : Nat} {z : Nat → Int} {p X base : Nat} {S : ByteArray} {pv : Value} {ps : List (Int × ByteArray)} {v : Value} {es : List (Int × Int)} (h : PkM w W b a len cap z p X base S pv ps v es) (u u' : Value) :
    IsM ((W.setCell ⟨w.heap.size, 0, none⟩ u).setCell ⟨w.heap.size, 1, none⟩ u') v (prs es) := by
  have hne : v.ownBlock ≠ some w.heap.size := fun e => by have := (h.2.lt _ e).1; have := h.1.hr; have := h.1.hb; omega
  exact ((h.2.setCell_other (a := ⟨w.heap.size, 0, none⟩) hne u).setCell_other (a := ⟨w.heap.size, 1, none⟩) hne u').isM
theorem vals_pick {l : Array Bool} {VV t : Nat → Value} (h : Rg.Vals l VV t) (n11 : ¬ l.getD 11 false = true) (n16 : ¬ l.getD 16 false = true) (c a : Value) :
    Rg.Vals (l.setIfInBounds 10 true) (fun j => if j = 10 then c else if j = 11 then a else if j = 16 then a else VV j) (fun j => if j = 10 then c else t j) := by
  intro j hj
  by_cases e : j = 10
  · simp [e]
  · rw [getD_set_ne false (fun q => e q.symm)] at hj
    have h1 : j ≠ 11 := fun q => n11 (q ▸ hj)
    have h2 : j ≠ 16 := fun q => n16 (q ▸ hj)
    simp [e, h1, h2, h j hj]
theorem vals_pick11 {l : Array Bool} {VV t : Nat → Value} (h : Rg.Vals l VV t) (n12 : ¬ l.getD 12 false = true) (n13 : ¬ l.getD 13 false = true) (n14 : ¬ l.getD 14 false = true) (c a d e : Value) :
    Rg.Vals (l.setIfInBounds 11 true) (fun j => if j = 11 then c else if j = 12 then a else if j = 13 then d else if j = 14 then e else VV j) (fun j => if j = 11 then c else t j) := by
  intro j hj
  by_cases q : j = 11
  · simp [q]
  · rw [getD_set_ne false (fun r => q r.symm)] at hj
    have h1 : j ≠ 12 := fun r => n12 (r ▸ hj)
    have h2 : j ≠ 13 := fun r => n13 (r ▸ hj)
    have h3 : j ≠ 14 := fun r => n14 (r ▸ hj)
    simp [q, h1, h2, h3, h j hj]
set_option maxRecDepth 8000 in
set_option maxHeartbeats 16000000 in
theorem drawStreamPut (a : Option Addr) (len cap : Nat) (z : Nat → Int) (w : World) (h : CodeIn w a len cap z) :
    Calls Tryz.prog 6 #[.slice a len cap] w fun e w' => ∃ v es S pv ps q T o, e = .returned (.tuple #[v, .agg #[.string S, pv], .int .i64 q, .string T, .bool o]) ∧ GoodE es ∧ IsM w' v (prs es) ∧ IsT w' pv ps ∧ Sm S ps ∧ (0 ≤ q ∧ q ≤ 40) ∧ T.size ≤ 40 ∧ Below w.heap.size w w' := by
  have bA : Below w.heap.size w (w.alloc (.cells #[.string ⟨#[]⟩, .slice none 0 0] 26)) := (Below.refl _ _).alloc (Nat.le_refl _) _
  go_enter Tryz.func6, Tryz.ntmps6
  go_wp2_with fail
  refine (open_any a len cap z _ (h.below bA)).mono ?_
  rintro e w1 ⟨b, len', rfl, hbs, r1, k1⟩
  have hb1 : w.heap.size < b := by rw [hbs]; simp
  have z1 : w.heap.size < w1.heap.size := by have := k1.size; simp at this; omega
  have c1 := fun j => k1.cell (p := ⟨w.heap.size, j, none⟩) (by simp)
  have f1 := fun j => k1.frozen (p := ⟨w.heap.size, j, none⟩) (by simp)
  have bel1 := bA.trans (k1.mono (by simp))
  have hbl1 : b < w1.heap.size := blk r1.c0
  clear hbs k1
  go_wp2_with fail
  refine (stream_any b a len' cap z 0 _ r1 (by omega)).mono ?_
  rintro e w2 ⟨v, es, S, pv, ps, p2, rfl, hg, hm, hrow, hS, hpl, hpb, hp2, r2, k2⟩
  obtain ⟨va, vc, rfl⟩ := hm.slice
  obtain ⟨pa, pc, rfl⟩ := row_slice hrow
  have c2 := fun j => (k2.cell (p := ⟨w.heap.size, j, none⟩) z1 (by simp; omega)).trans (c1 j)
  have f2 := fun j => (k2.frozen (p := ⟨w.heap.size, j, none⟩) z1 (by simp; omega)).trans (f1 j)
  have e0 : w2.cell? ⟨w.heap.size, 0, none⟩ = some (.string ⟨#[]⟩) := by rw [c2 0]; simp
  have e1 : w2.cell? ⟨w.heap.size, 1, none⟩ = some (.slice none 0 0) := by rw [c2 1]; simp
  have ef : ∀ j, w2.frozen? ⟨w.heap.size, j, none⟩ = false := fun j => by rw [f2 j]; simp
  have bel2 := bel1.trans (k2.below (by omega) (by omega))
  have z2 : w1.heap.size ≤ w2.heap.size := k2.size
  have HR := (show Hid (w2.ownsRow w1.heap.size 79 2 (.slice pa ps.length pc) ps.length (cellsT ps)) from hrow)
  have HG := (show Hid (GoodE es) from hg)
  have HPB := (show Hid (∀ q ∈ ps, (1 ≤ q.1 ∧ q.1 ≤ 6) ∧ q.2.size ≤ 8) from hpb)
  have HB := (show Hid (Below w.heap.size w w2) from bel2)
  have bA2 : Below w2.heap.size w2 (w2.alloc (.cells #[.string S, .slice pa ps.length pc] 26)) := (Below.refl _ _).alloc (Nat.le_refl _) _
  have hpk : Pk w (w2.alloc (.cells #[.string S, .slice pa ps.length pc] 26)) b a len' cap z p2 w2.heap.size w1.heap.size S (.slice pa ps.length pc) ps :=
    ⟨r2.below bA2, by simp, by simp, (bA2.cell (p := ⟨w.heap.size, 0, none⟩) (by simp; omega)).trans e0, (bA2.cell (p := ⟨w.heap.size, 1, none⟩) (by simp; omega)).trans e1, fun j => (bA2.frozen (p := ⟨w.heap.size, j, none⟩) (by simp; omega)).trans (ef j), by omega, hb1, hbl1, HR.out.alloc _, HB.out.trans (bA2.mono (by omega))⟩
  have HK := (show Hid (PkM w (w2.alloc (.cells #[.string S, .slice pa ps.length pc] 26)) b a len' cap z p2 w2.heap.size w1.heap.size S (.slice pa ps.length pc) ps (.slice va es.length vc) es) from ⟨hpk, hm.alloc _⟩)
  have hX0 : (w2.alloc (.cells #[.string S, .slice pa ps.length pc] 26)).cell? ⟨w2.heap.size, 0, none⟩ = some (.string S) := by simp
  have hX1 : (w2.alloc (.cells #[.string S, .slice pa ps.length pc] 26)).cell? ⟨w2.heap.size, 1, none⟩ = some (.slice pa ps.length pc) := by simp
  clear c1 f1 c2 f2 r1 k2 hrow hm bel1 bel2 hg hpb bA h hpk bA2 e0 e1 ef HR HB r2
  go_wp2_with fail
  refine (HK.out.text (by omega) 12 (by omega)).mono ?_
  rintro e w3 ⟨s0, p3, rfl, hs0, hp3, HK3, x0, x1, -, -, -⟩
  obtain ⟨X, hXX⟩ : ∃ X, w2.heap.size = X := ⟨_, rfl⟩
  obtain ⟨BS, hBS⟩ : ∃ BS, w1.heap.size = BS := ⟨_, rfl⟩
  rw [hXX] at x0 x1 HK3 ⊢
  rw [hBS] at HK3
  clear HK hX0 hX1 hXX hBS
  go_wp2_with fail
  refine (HK3.out.pick (by omega) 5 (by omega)).mono ?_
  rintro e w4 ⟨k, rfl, hk0, hk5, HK4, y0, y1, -, -, -⟩
  clear HK3 x0 x1
  have hwS : IntKind.i64.wrap ((S.size : Int) + 1) = (S.size : Int) + 1 := by simp [IntKind.wrap, IntKind.bits, IntKind.signed]; omega
  by_cases hc0 : k = 0
  · subst hc0
    go_wp2_with fail
    refine (HK4.out.pick (by omega) _ (by omega)).mono ?_
    rintro e w5 ⟨at5, rfl, ha0, ha1, HK5, x0, x1, -, -, -⟩
    clear HK4 y0 y1
    obtain ⟨A, rfl⟩ : ∃ A : Nat, at5 = (A : Int) := ⟨at5.toNat, by omega⟩
    have hA : (A : Int) ≤ (S.size : Int) := by omega
    go_upto_region 14 with fail
    generalize hT1 : S.extract A S.size ++ s0 = T1
    have hT1z : T1.size ≤ 60 := by rw [← hT1, ByteArray.size_append, ← lenL (S.extract A S.size), ext_from, List.length_drop, lenL]; omega
    generalize hQ1 : (A : Int) = Q1
    have hq1 : 0 ≤ Q1 ∧ Q1 ≤ 50 := by omega
    clear hT1 hQ1
    obtain ⟨Q2, hQ2⟩ : ∃ Q2 : Int, min Q1 40 = Q2 := ⟨_, rfl⟩
    have hq2 : 0 ≤ Q2 ∧ Q2 ≤ 40 := by omega
    obtain ⟨K, hK⟩ : ∃ K : Nat, min T1.size 40 = K := ⟨_, rfl⟩
    have hmn : min (T1.size : Int) 40 = (K : Int) := by omega
    have hKT : (K : Int) ≤ (T1.size : Int) := by omega
    have hK40 : K ≤ 40 := by omega
    clear hK ha0 ha1 hA
    have hmix : Tryz.prog.follows .mixedOrders = true := by kernel_rfl
    refine wp_region_any hmix ?_
    refine Ri.any_inv (I := fun l a' w' => l.size = 17 ∧ ∃ (VV t : Nat → Value) (x : Int), (VV 0 = (.slice va es.length vc : Value) ∧ VV 1 = (.agg #[.string S, .slice pa ps.length pc] : Value) ∧ VV 2 = (.int .i64 Q1 : Value) ∧ VV 3 = (.int .i64 Q2 : Value) ∧ VV 4 = (.string T1 : Value) ∧ VV 5 = (.string T1 : Value) ∧ VV 6 = (.int .i64 (T1.size : Nat) : Value) ∧ VV 7 = (.int .i64 (K : Nat) : Value) ∧ VV 8 = (.string (T1.extract 0 K) : Value) ∧ VV 9 = (.pointer (some ⟨b, 0, none⟩) : Value) ∧ VV 12 = (.slice va es.length vc : Value) ∧ VV 14 = (.int .i64 Q2 : Value) ∧ VV 15 = (.string (T1.extract 0 K) : Value)) ∧ (VV 10 = (.int .i64 x : Value) ∧ VV 11 = (.bool (x == 0) : Value) ∧ VV 16 = (.bool (x == 0) : Value)) ∧ a' = { tmps := #[(Value.slice a len cap : Value), undef, t 12, Value.pointer (some { block := w.heap.size, off := 0 }), t 14, t 15, t 16, Value.pointer (some { block := b, off := 0 }), Value.slice va es.length vc, Value.pointer (some { block := X, off := 0 }), Value.int IntKind.i64 Q1, Value.string T1, Value.slice a len cap, Value.pointer (some { block := b, off := 0 }), Value.tuple #[Value.slice va es.length vc, Value.agg #[Value.string S, Value.slice pa ps.length pc]], Value.pointer (some { block := b, off := 0 }), Value.tuple #[Value.slice va es.length vc, Value.agg #[Value.string S, Value.slice pa ps.length pc]], Value.slice va es.length vc, Value.agg #[Value.string S, Value.slice pa ps.length pc], Value.pointer (some { block := X, off := 0 }), Value.string S, Value.int IntKind.i64 ↑S.size, Value.pointer (some { block := b, off := 0 }), Value.string s0, Value.pointer (some { block := b, off := 0 }), Value.int IntKind.i64 0, Value.bool true, Value.bool true, Value.pointer (some { block := b, off := 0 }), Value.pointer (some { block := X, off := 0 }), Value.string S, Value.int IntKind.i64 ↑S.size, Value.int IntKind.i64 (↑S.size + 1), Value.int IntKind.i64 Q1, Value.pointer (some { block := X, off := 0 }), Value.string S, Value.int IntKind.i64 Q1, Value.string (S.extract A S.size), Value.string s0, Value.string T1, undef, undef, undef, undef, undef, undef, undef, undef, undef, undef, undef, undef, undef, undef, undef, undef, undef, undef, undef, undef, undef, undef, undef, undef, undef, undef, undef, undef, t 0, t 1, t 2, t 3, t 4, t 5, t 6, t 7, t 8, t 9, t 10, t 11], defers := [] } ∧ Rg.Vals l VV t ∧ (l.getD 13 false = false → ∃ p, (l.getD 10 false = false → p ≤ 10000) ∧ PkM w w' b a len' cap z p X BS S (.slice pa ps.length pc) ps (.slice va es.length vc) es) ∧ (l.getD 13 false = true → ∃ W p, PkM w W b a len' cap z p X BS S (.slice pa ps.length pc) ps (.slice va es.length vc) es ∧ w' = (W.setCell ⟨w.heap.size, 0, none⟩ (.string S)).setCell ⟨w.heap.size, 1, none⟩ (.slice pa ps.length pc))) ?sz ?low ?step ?fin _ _ _ _ ?start (Ri.closed_none _ _ _) (Rg.left_all _)
    case sz => exact fun l a' w' h => h.1
    case start =>
      exact ⟨by simp, fun j => [(.slice va es.length vc : Value), (.agg #[.string S, .slice pa ps.length pc] : Value), (.int .i64 Q1 : Value), (.int .i64 Q2 : Value), (.string T1 : Value), (.string T1 : Value), (.int .i64 (T1.size : Nat) : Value), (.int .i64 (K : Nat) : Value), (.string (T1.extract 0 K) : Value), (.pointer (some ⟨b, 0, none⟩) : Value), (.int .i64 0 : Value), (.bool ((0 : Int) == 0) : Value), (.slice va es.length vc : Value), undef, (.int .i64 Q2 : Value), (.string (T1.extract 0 K) : Value), (.bool ((0 : Int) == 0) : Value)].getD j undef, fun j => [(undef : Value), (undef : Value), (undef : Value), (undef : Value), (undef : Value), (undef : Value), (undef : Value), (undef : Value), (undef : Value), (undef : Value), (undef : Value), (undef : Value), (Value.slice none 0 0 : Value), (undef : Value), (Value.int IntKind.i64 0 : Value), (Value.string { data := #[] } : Value), (Value.bool false : Value)].getD j undef, 0, ⟨rfl, rfl, rfl, rfl, rfl, rfl, rfl, rfl, rfl, rfl, rfl, rfl, rfl⟩, ⟨rfl, rfl, rfl⟩, rfl, Rg.vals_none _ _ _, fun _ => ⟨_, fun _ => (by omega), ⟨Pk.drew HK5.out.1, HK5.out.2.drew⟩⟩, fun q => absurd q (by rw [Rg.rep_none]; decide)⟩
    case low => exact Ri.low_of (by kernel_rfl)
    case step =>
      rintro l a' w' i ⟨hsz, VV, t, x, hvf, hlf, rfl, hv, hM, hD⟩ hcl hi
      obtain ⟨h0, op, ho, hd⟩ := mem_ready.1 hi
      have hin : i < 17 := (Array.getElem?_eq_some_iff.1 ho).1
      have hnl := Rg.not_listed h0
      have u1 : l.getD 13 false = true → l.getD 1 false = true := Ri.reach_sound hcl 10 13 1 (by kernel_rfl)
      have u10 : l.getD 13 false = true → l.getD 10 false = true := Ri.reach_sound hcl 10 13 10 (by kernel_rfl)
      have u11 : l.getD 11 false = true → l.getD 10 false = true := Ri.reach_sound hcl 10 11 10 (by kernel_rfl)
      have u16 : l.getD 16 false = true → l.getD 10 false = true := Ri.reach_sound hcl 10 16 10 (by kernel_rfl)
      have HVF := (show Hid (VV 0 = (.slice va es.length vc : Value) ∧ VV 1 = (.agg #[.string S, .slice pa ps.length pc] : Value) ∧ VV 2 = (.int .i64 Q1 : Value) ∧ VV 3 = (.int .i64 Q2 : Value) ∧ VV 4 = (.string T1 : Value) ∧ VV 5 = (.string T1 : Value) ∧ VV 6 = (.int .i64 (T1.size : Nat) : Value) ∧ VV 7 = (.int .i64 (K : Nat) : Value) ∧ VV 8 = (.string (T1.extract 0 K) : Value) ∧ VV 9 = (.pointer (some ⟨b, 0, none⟩) : Value) ∧ VV 12 = (.slice va es.length vc : Value) ∧ VV 14 = (.int .i64 Q2 : Value) ∧ VV 15 = (.string (T1.extract 0 K) : Value)) from hvf)
      have HLF := (show Hid (VV 10 = (.int .i64 x : Value) ∧ VV 11 = (.bool (x == 0) : Value) ∧ VV 16 = (.bool (x == 0) : Value)) from hlf)
      clear h0 hi hcl hvf hlf
      have hc : i = 0 ∨ i = 1 ∨ i = 2 ∨ i = 3 ∨ i = 4 ∨ i = 5 ∨ i = 6 ∨ i = 7 ∨ i = 8 ∨ i = 9 ∨ i = 10 ∨ i = 11 ∨ i = 12 ∨ i = 13 ∨ i = 14 ∨ i = 15 ∨ i = 16 := by omega
      rcases hc with rfl | rfl | rfl | rfl | rfl | rfl | rfl | rfl | rfl | rfl | rfl | rfl | rfl | rfl | rfl | rfl | rfl
      · obtain rfl : _ = op := Option.some.inj (show some _ = some op from ho)
        have nl : l.getD 0 false = false := by
          cases q : l.getD 0 false
          · rfl
          · rw [q] at hnl; cases hnl
        have HV := (show Hid (Rg.Vals l VV t) from hv)
        have HM := (show Hid (l.getD 13 false = false → ∃ p, (l.getD 10 false = false → p ≤ 10000) ∧ PkM w w' b a len' cap z p X BS S (.slice pa ps.length pc) ps (.slice va es.length vc) es) from hM)
        have HD := (show Hid (l.getD 13 false = true → ∃ W p, PkM w W b a len' cap z p X BS S (.slice pa ps.length pc) ps (.slice va es.length vc) es ∧ w' = (W.setCell ⟨w.heap.size, 0, none⟩ (.string S)).setCell ⟨w.heap.size, 1, none⟩ (.slice pa ps.length pc)) from hD)
        clear hv hd ho hM hD
        refine wpOp_step rfl fun K9 hK9 => ?_
        have HKK := (show Hid _ from hK9)
        clear hK9
        go_simp
        exact HKK.out _ _ ⟨by simp [hsz], VV, fun j => if j = 0 then (.slice va es.length vc : Value) else t j, x, HVF.out, HLF.out, by simp, HV.out.put 0 _ HVF.out.1.symm, by rw [getD_set_ne false (by decide : 0 ≠ 13), getD_set_ne false (by decide : 0 ≠ 10)]; exact HM.out, by rw [getD_set_ne false (by decide : 0 ≠ 13)]; exact HD.out⟩
      · obtain rfl : _ = op := Option.some.inj (show some _ = some op from ho)
        have nl : l.getD 1 false = false := by
          cases q : l.getD 1 false
          · rfl
          · rw [q] at hnl; cases hnl
        have n13 : l.getD 13 false = false := by
          cases q : l.getD 13 false
          · rfl
          · rw [u1 q] at nl; cases nl
        obtain ⟨p, hp, hk⟩ := hM n13
        have y0 := hk.1.x0
        have y1 := hk.1.x1
        have HKP := (show Hid _ from hk)
        clear hk
        have HV := (show Hid (Rg.Vals l VV t) from hv)
        have HM := (show Hid (l.getD 13 false = false → ∃ p, (l.getD 10 false = false → p ≤ 10000) ∧ PkM w w' b a len' cap z p X BS S (.slice pa ps.length pc) ps (.slice va es.length vc) es) from hM)
        have HD := (show Hid (l.getD 13 false = true → ∃ W p, PkM w W b a len' cap z p X BS S (.slice pa ps.length pc) ps (.slice va es.length vc) es ∧ w' = (W.setCell ⟨w.heap.size, 0, none⟩ (.string S)).setCell ⟨w.heap.size, 1, none⟩ (.slice pa ps.length pc)) from hD)
        clear hv hd ho hM hD
        refine wpOp_step rfl fun K9 hK9 => ?_
        have HKK := (show Hid _ from hK9)
        clear hK9
        go_simp
        exact HKK.out _ _ ⟨by simp [hsz], VV, fun j => if j = 1 then (.agg #[.string S, .slice pa ps.length pc] : Value) else t j, x, HVF.out, HLF.out, by simp, HV.out.put 1 _ HVF.out.2.1.symm, by rw [getD_set_ne false (by decide : 1 ≠ 13), getD_set_ne false (by decide : 1 ≠ 10)]; exact HM.out, by rw [getD_set_ne false (by decide : 1 ≠ 13)]; exact HD.out⟩
      · obtain rfl : _ = op := Option.some.inj (show some _ = some op from ho)
        have nl : l.getD 2 false = false := by
          cases q : l.getD 2 false
          · rfl
          · rw [q] at hnl; cases hnl
        have HV := (show Hid (Rg.Vals l VV t) from hv)
        have HM := (show Hid (l.getD 13 false = false → ∃ p, (l.getD 10 false = false → p ≤ 10000) ∧ PkM w w' b a len' cap z p X BS S (.slice pa ps.length pc) ps (.slice va es.length vc) es) from hM)
        have HD := (show Hid (l.getD 13 false = true → ∃ W p, PkM w W b a len' cap z p X BS S (.slice pa ps.length pc) ps (.slice va es.length vc) es ∧ w' = (W.setCell ⟨w.heap.size, 0, none⟩ (.string S)).setCell ⟨w.heap.size, 1, none⟩ (.slice pa ps.length pc)) from hD)
        clear hv hd ho hM hD
        refine wpOp_step rfl fun K9 hK9 => ?_
        have HKK := (show Hid _ from hK9)
        clear hK9
        go_simp
        exact HKK.out _ _ ⟨by simp [hsz], VV, fun j => if j = 2 then (.int .i64 Q1 : Value) else t j, x, HVF.out, HLF.out, by simp, HV.out.put 2 _ HVF.out.2.2.1.symm, by rw [getD_set_ne false (by decide : 2 ≠ 13), getD_set_ne false (by decide : 2 ≠ 10)]; exact HM.out, by rw [getD_set_ne false (by decide : 2 ≠ 13)]; exact HD.out⟩
      · obtain rfl : _ = op := Option.some.inj (show some _ = some op from ho)
        have nl : l.getD 3 false = false := by
          cases q : l.getD 3 false
          · rfl
          · rw [q] at hnl; cases hnl
        have e2 : t 2 = .int .i64 Q1 := (hv 2 (hd { on := 2, ground := .data } (by simp) rfl)).trans HVF.out.2.2.1
        have HV := (show Hid (Rg.Vals l VV t) from hv)
        have HM := (show Hid (l.getD 13 false = false → ∃ p, (l.getD 10 false = false → p ≤ 10000) ∧ PkM w w' b a len' cap z p X BS S (.slice pa ps.length pc) ps (.slice va es.length vc) es) from hM)
        have HD := (show Hid (l.getD 13 false = true → ∃ W p, PkM w W b a len' cap z p X BS S (.slice pa ps.length pc) ps (.slice va es.length vc) es ∧ w' = (W.setCell ⟨w.heap.size, 0, none⟩ (.string S)).setCell ⟨w.heap.size, 1, none⟩ (.slice pa ps.length pc)) from hD)
        clear hv hd ho hM hD
        refine wpOp_step rfl fun K9 hK9 => ?_
        have HKK := (show Hid _ from hK9)
        clear hK9
        rw [e2]
        go_simp
        exact HKK.out _ _ ⟨by simp [hsz], VV, fun j => if j = 3 then (.int .i64 Q2 : Value) else t j, x, HVF.out, HLF.out, by simp [e2], HV.out.put 3 _ HVF.out.2.2.2.1.symm, by rw [getD_set_ne false (by decide : 3 ≠ 13), getD_set_ne false (by decide : 3 ≠ 10)]; exact HM.out, by rw [getD_set_ne false (by decide : 3 ≠ 13)]; exact HD.out⟩
      · obtain rfl : _ = op := Option.some.inj (show some _ = some op from ho)
        have nl : l.getD 4 false = false := by
          cases q : l.getD 4 false
          · rfl
          · rw [q] at hnl; cases hnl
        have HV := (show Hid (Rg.Vals l VV t) from hv)
        have HM := (show Hid (l.getD 13 false = false → ∃ p, (l.getD 10 false = false → p ≤ 10000) ∧ PkM w w' b a len' cap z p X BS S (.slice pa ps.length pc) ps (.slice va es.length vc) es) from hM)
        have HD := (show Hid (l.getD 13 false = true → ∃ W p, PkM w W b a len' cap z p X BS S (.slice pa ps.length pc) ps (.slice va es.length vc) es ∧ w' = (W.setCell ⟨w.heap.size, 0, none⟩ (.string S)).setCell ⟨w.heap.size, 1, none⟩ (.slice pa ps.length pc)) from hD)
        clear hv hd ho hM hD
        refine wpOp_step rfl fun K9 hK9 => ?_
        have HKK := (show Hid _ from hK9)
        clear hK9
        go_simp
        exact HKK.out _ _ ⟨by simp [hsz], VV, fun j => if j = 4 then (.string T1 : Value) else t j, x, HVF.out, HLF.out, by simp, HV.out.put 4 _ HVF.out.2.2.2.2.1.symm, by rw [getD_set_ne false (by decide : 4 ≠ 13), getD_set_ne false (by decide : 4 ≠ 10)]; exact HM.out, by rw [getD_set_ne false (by decide : 4 ≠ 13)]; exact HD.out⟩
      · obtain rfl : _ = op := Option.some.inj (show some _ = some op from ho)
        have nl : l.getD 5 false = false := by
          cases q : l.getD 5 false
          · rfl
          · rw [q] at hnl; cases hnl
        have HV := (show Hid (Rg.Vals l VV t) from hv)
        have HM := (show Hid (l.getD 13 false = false → ∃ p, (l.getD 10 false = false → p ≤ 10000) ∧ PkM w w' b a len' cap z p X BS S (.slice pa ps.length pc) ps (.slice va es.length vc) es) from hM)
        have HD := (show Hid (l.getD 13 false = true → ∃ W p, PkM w W b a len' cap z p X BS S (.slice pa ps.length pc) ps (.slice va es.length vc) es ∧ w' = (W.setCell ⟨w.heap.size, 0, none⟩ (.string S)).setCell ⟨w.heap.size, 1, none⟩ (.slice pa ps.length pc)) from hD)
        clear hv hd ho hM hD
        refine wpOp_step rfl fun K9 hK9 => ?_
        have HKK := (show Hid _ from hK9)
        clear hK9
        go_simp
        exact HKK.out _ _ ⟨by simp [hsz], VV, fun j => if j = 5 then (.string T1 : Value) else t j, x, HVF.out, HLF.out, by simp, HV.out.put 5 _ HVF.out.2.2.2.2.2.1.symm, by rw [getD_set_ne false (by decide : 5 ≠ 13), getD_set_ne false (by decide : 5 ≠ 10)]; exact HM.out, by rw [getD_set_ne false (by decide : 5 ≠ 13)]; exact HD.out⟩
      · obtain rfl : _ = op := Option.some.inj (show some _ = some op from ho)
        have nl : l.getD 6 false = false := by
          cases q : l.getD 6 false
          · rfl
          · rw [q] at hnl; cases hnl
        have e5 : t 5 = .string T1 := (hv 5 (hd { on := 5, ground := .data } (by simp) rfl)).trans HVF.out.2.2.2.2.2.1
        have HV := (show Hid (Rg.Vals l VV t) from hv)
        have HM := (show Hid (l.getD 13 false = false → ∃ p, (l.getD 10 false = false → p ≤ 10000) ∧ PkM w w' b a len' cap z p X BS S (.slice pa ps.length pc) ps (.slice va es.length vc) es) from hM)
        have HD := (show Hid (l.getD 13 false = true → ∃ W p, PkM w W b a len' cap z p X BS S (.slice pa ps.length pc) ps (.slice va es.length vc) es ∧ w' = (W.setCell ⟨w.heap.size, 0, none⟩ (.string S)).setCell ⟨w.heap.size, 1, none⟩ (.slice pa ps.length pc)) from hD)
        clear hv hd ho hM hD
        refine wpOp_step rfl fun K9 hK9 => ?_
        have HKK := (show Hid _ from hK9)
        clear hK9
        rw [e5]
        go_simp
        exact HKK.out _ _ ⟨by simp [hsz], VV, fun j => if j = 6 then (.int .i64 (T1.size : Nat) : Value) else t j, x, HVF.out, HLF.out, by simp [e5], HV.out.put 6 _ HVF.out.2.2.2.2.2.2.1.symm, by rw [getD_set_ne false (by decide : 6 ≠ 13), getD_set_ne false (by decide : 6 ≠ 10)]; exact HM.out, by rw [getD_set_ne false (by decide : 6 ≠ 13)]; exact HD.out⟩
      · obtain rfl : _ = op := Option.some.inj (show some _ = some op from ho)
        have nl : l.getD 7 false = false := by
          cases q : l.getD 7 false
          · rfl
          · rw [q] at hnl; cases hnl
        have e6 : t 6 = .int .i64 (T1.size : Nat) := (hv 6 (hd { on := 6, ground := .data } (by simp) rfl)).trans HVF.out.2.2.2.2.2.2.1
        have HV := (show Hid (Rg.Vals l VV t) from hv)
        have HM := (show Hid (l.getD 13 false = false → ∃ p, (l.getD 10 false = false → p ≤ 10000) ∧ PkM w w' b a len' cap z p X BS S (.slice pa ps.length pc) ps (.slice va es.length vc) es) from hM)
        have HD := (show Hid (l.getD 13 false = true → ∃ W p, PkM w W b a len' cap z p X BS S (.slice pa ps.length pc) ps (.slice va es.length vc) es ∧ w' = (W.setCell ⟨w.heap.size, 0, none⟩ (.string S)).setCell ⟨w.heap.size, 1, none⟩ (.slice pa ps.length pc)) from hD)
        clear hv hd ho hM hD
        refine wpOp_step rfl fun K9 hK9 => ?_
        have HKK := (show Hid _ from hK9)
        clear hK9
        rw [e6]
        go_simp
        exact HKK.out _ _ ⟨by simp [hsz], VV, fun j => if j = 7 then (.int .i64 (K : Nat) : Value) else t j, x, HVF.out, HLF.out, by simp [e6], HV.out.put 7 _ HVF.out.2.2.2.2.2.2.2.1.symm, by rw [getD_set_ne false (by decide : 7 ≠ 13), getD_set_ne false (by decide : 7 ≠ 10)]; exact HM.out, by rw [getD_set_ne false (by decide : 7 ≠ 13)]; exact HD.out⟩
      · obtain rfl : _ = op := Option.some.inj (show some _ = some op from ho)
        have nl : l.getD 8 false = false := by
          cases q : l.getD 8 false
          · rfl
          · rw [q] at hnl; cases hnl
        have e4 : t 4 = .string T1 := (hv 4 (hd { on := 4, ground := .data } (by simp) rfl)).trans HVF.out.2.2.2.2.1
        have e7 : t 7 = .int .i64 (K : Nat) := (hv 7 (hd { on := 7, ground := .data } (by simp) rfl)).trans HVF.out.2.2.2.2.2.2.2.1
        have HV := (show Hid (Rg.Vals l VV t) from hv)
        have HM := (show Hid (l.getD 13 false = false → ∃ p, (l.getD 10 false = false → p ≤ 10000) ∧ PkM w w' b a len' cap z p X BS S (.slice pa ps.length pc) ps (.slice va es.length vc) es) from hM)
        have HD := (show Hid (l.getD 13 false = true → ∃ W p, PkM w W b a len' cap z p X BS S (.slice pa ps.length pc) ps (.slice va es.length vc) es ∧ w' = (W.setCell ⟨w.heap.size, 0, none⟩ (.string S)).setCell ⟨w.heap.size, 1, none⟩ (.slice pa ps.length pc)) from hD)
        clear hv hd ho hM hD
        refine wpOp_step rfl fun K9 hK9 => ?_
        have HKK := (show Hid _ from hK9)
        clear hK9
        rw [e4, e7]
        go_simp
        exact HKK.out _ _ ⟨by simp [hsz], VV, fun j => if j = 8 then (.string (T1.extract 0 K) : Value) else t j, x, HVF.out, HLF.out, by simp [e4, e7], HV.out.put 8 _ HVF.out.2.2.2.2.2.2.2.2.1.symm, by rw [getD_set_ne false (by decide : 8 ≠ 13), getD_set_ne false (by decide : 8 ≠ 10)]; exact HM.out, by rw [getD_set_ne false (by decide : 8 ≠ 13)]; exact HD.out⟩
      · obtain rfl : _ = op := Option.some.inj (show some _ = some op from ho)
        have nl : l.getD 9 false = false := by
          cases q : l.getD 9 false
          · rfl
          · rw [q] at hnl; cases hnl
        have HV := (show Hid (Rg.Vals l VV t) from hv)
        have HM := (show Hid (l.getD 13 false = false → ∃ p, (l.getD 10 false = false → p ≤ 10000) ∧ PkM w w' b a len' cap z p X BS S (.slice pa ps.length pc) ps (.slice va es.length vc) es) from hM)
        have HD := (show Hid (l.getD 13 false = true → ∃ W p, PkM w W b a len' cap z p X BS S (.slice pa ps.length pc) ps (.slice va es.length vc) es ∧ w' = (W.setCell ⟨w.heap.size, 0, none⟩ (.string S)).setCell ⟨w.heap.size, 1, none⟩ (.slice pa ps.length pc)) from hD)
        clear hv hd ho hM hD
        refine wpOp_step rfl fun K9 hK9 => ?_
        have HKK := (show Hid _ from hK9)
        clear hK9
        go_simp
        exact HKK.out _ _ ⟨by simp [hsz], VV, fun j => if j = 9 then (.pointer (some ⟨b, 0, none⟩) : Value) else t j, x, HVF.out, HLF.out, by simp, HV.out.put 9 _ HVF.out.2.2.2.2.2.2.2.2.2.1.symm, by rw [getD_set_ne false (by decide : 9 ≠ 13), getD_set_ne false (by decide : 9 ≠ 10)]; exact HM.out, by rw [getD_set_ne false (by decide : 9 ≠ 13)]; exact HD.out⟩
      · obtain rfl : _ = op := Option.some.inj (show some _ = some op from ho)
        have nl : l.getD 10 false = false := by
          cases q : l.getD 10 false
          · rfl
          · rw [q] at hnl; cases hnl
        have n13 : l.getD 13 false = false := by
          cases q : l.getD 13 false
          · rfl
          · rw [u10 q] at nl; cases nl
        have e9 : t 9 = .pointer (some ⟨b, 0, none⟩) := (hv 9 (hd { on := 9, ground := .data } (by simp) rfl)).trans HVF.out.2.2.2.2.2.2.2.2.2.1
        obtain ⟨p, hp, hk⟩ := hM n13
        have y0 := hk.1.x0
        have y1 := hk.1.x1
        have HKP := (show Hid _ from hk)
        clear hk
        have HV := (show Hid (Rg.Vals l VV t) from hv)
        have HM := (show Hid (l.getD 13 false = false → ∃ p, (l.getD 10 false = false → p ≤ 10000) ∧ PkM w w' b a len' cap z p X BS S (.slice pa ps.length pc) ps (.slice va es.length vc) es) from hM)
        have HD := (show Hid (l.getD 13 false = true → ∃ W p, PkM w W b a len' cap z p X BS S (.slice pa ps.length pc) ps (.slice va es.length vc) es ∧ w' = (W.setCell ⟨w.heap.size, 0, none⟩ (.string S)).setCell ⟨w.heap.size, 1, none⟩ (.slice pa ps.length pc)) from hD)
        clear hv hd ho hM hD
        refine wpOp_step rfl fun K9 hK9 => ?_
        have HKK := (show Hid _ from hK9)
        clear hK9
        rw [e9]
        go_simp
        refine (PkM.pick HKP.out (by have := hp nl; omega) _ (by omega)).mono ?_
        rintro e w9 ⟨x9, rfl, h90, h91, hk9, -, -, -, -, -⟩
        exact HKK.out _ _ ⟨by simp [hsz], fun j => if j = 10 then .int .i64 x9 else if j = 11 then .bool (x9 == 0) else if j = 16 then .bool (x9 == 0) else VV j, fun j => if j = 10 then .int .i64 x9 else t j, x9, by simpa using HVF.out, by simp, by simp [e9], vals_pick HV.out (fun q => (by rw [u11 q] at nl; cases nl)) (fun q => (by rw [u16 q] at nl; cases nl)) _ _, fun _ => ⟨_, fun q => (by rw [Rg.set_same (by omega)] at q; cases q), hk9.out⟩, fun q => (by rw [getD_set_ne false (by decide : 10 ≠ 13), n13] at q; cases q)⟩
      · obtain rfl : _ = op := Option.some.inj (show some _ = some op from ho)
        have nl : l.getD 11 false = false := by
          cases q : l.getD 11 false
          · rfl
          · rw [q] at hnl; cases hnl
        have e10 : t 10 = .int .i64 x := (hv 10 (hd { on := 10, ground := .data } (by simp) rfl)).trans HLF.out.1
        have HV := (show Hid (Rg.Vals l VV t) from hv)
        have HM := (show Hid (l.getD 13 false = false → ∃ p, (l.getD 10 false = false → p ≤ 10000) ∧ PkM w w' b a len' cap z p X BS S (.slice pa ps.length pc) ps (.slice va es.length vc) es) from hM)
        have HD := (show Hid (l.getD 13 false = true → ∃ W p, PkM w W b a len' cap z p X BS S (.slice pa ps.length pc) ps (.slice va es.length vc) es ∧ w' = (W.setCell ⟨w.heap.size, 0, none⟩ (.string S)).setCell ⟨w.heap.size, 1, none⟩ (.slice pa ps.length pc)) from hD)
        clear hv hd ho hM hD
        refine wpOp_step rfl fun K9 hK9 => ?_
        have HKK := (show Hid _ from hK9)
        clear hK9
        rw [e10]
        go_simp
        exact HKK.out _ _ ⟨by simp [hsz], VV, fun j => if j = 11 then (.bool (x == 0) : Value) else t j, x, HVF.out, HLF.out, by simp [e10], HV.out.put 11 _ HLF.out.2.1.symm, by rw [getD_set_ne false (by decide : 11 ≠ 13), getD_set_ne false (by decide : 11 ≠ 10)]; exact HM.out, by rw [getD_set_ne false (by decide : 11 ≠ 13)]; exact HD.out⟩
      · obtain rfl : _ = op := Option.some.inj (show some _ = some op from ho)
        have nl : l.getD 12 false = false := by
          cases q : l.getD 12 false
          · rfl
          · rw [q] at hnl; cases hnl
        have e0 : t 0 = .slice va es.length vc := (hv 0 (hd { on := 0, ground := .data } (by simp) rfl)).trans HVF.out.1
        have HV := (show Hid (Rg.Vals l VV t) from hv)
        have HM := (show Hid (l.getD 13 false = false → ∃ p, (l.getD 10 false = false → p ≤ 10000) ∧ PkM w w' b a len' cap z p X BS S (.slice pa ps.length pc) ps (.slice va es.length vc) es) from hM)
        have HD := (show Hid (l.getD 13 false = true → ∃ W p, PkM w W b a len' cap z p X BS S (.slice pa ps.length pc) ps (.slice va es.length vc) es ∧ w' = (W.setCell ⟨w.heap.size, 0, none⟩ (.string S)).setCell ⟨w.heap.size, 1, none⟩ (.slice pa ps.length pc)) from hD)
        clear hv hd ho hM hD
        refine wpOp_step rfl fun K9 hK9 => ?_
        have HKK := (show Hid _ from hK9)
        clear hK9
        rw [e0]
        go_simp
        exact HKK.out _ _ ⟨by simp [hsz], VV, fun j => if j = 12 then (.slice va es.length vc : Value) else t j, x, HVF.out, HLF.out, by simp [e0], HV.out.put 12 _ HVF.out.2.2.2.2.2.2.2.2.2.2.1.symm, by rw [getD_set_ne false (by decide : 12 ≠ 13), getD_set_ne false (by decide : 12 ≠ 10)]; exact HM.out, by rw [getD_set_ne false (by decide : 12 ≠ 13)]; exact HD.out⟩
      · obtain rfl : _ = op := Option.some.inj (show some _ = some op from ho)
        have nl : l.getD 13 false = false := by
          cases q : l.getD 13 false
          · rfl
          · rw [q] at hnl; cases hnl
        have e1 : t 1 = .agg #[.string S, .slice pa ps.length pc] := (hv 1 (hd { on := 1, ground := .data } (by simp) rfl)).trans HVF.out.2.1
        obtain ⟨p, hp, hk⟩ := hM nl
        have y0 := hk.1.r0
        have y1 := hk.1.r1
        have yf := hk.1.rf
        have HKP := (show Hid _ from hk)
        clear hk
        have HV := (show Hid (Rg.Vals l VV t) from hv)
        have HM := (show Hid (l.getD 13 false = false → ∃ p, (l.getD 10 false = false → p ≤ 10000) ∧ PkM w w' b a len' cap z p X BS S (.slice pa ps.length pc) ps (.slice va es.length vc) es) from hM)
        have HD := (show Hid (l.getD 13 false = true → ∃ W p, PkM w W b a len' cap z p X BS S (.slice pa ps.length pc) ps (.slice va es.length vc) es ∧ w' = (W.setCell ⟨w.heap.size, 0, none⟩ (.string S)).setCell ⟨w.heap.size, 1, none⟩ (.slice pa ps.length pc)) from hD)
        clear hv hd ho hM hD
        refine wpOp_step rfl fun K9 hK9 => ?_
        have HKK := (show Hid _ from hK9)
        clear hK9
        rw [e1]
        go_simp
        exact HKK.out _ _ ⟨by simp [hsz], VV, fun j => if j = 13 then VV 13 else t j, x, HVF.out, HLF.out, by simp [e1], HV.out.put 13 _ rfl, fun q => (by rw [Rg.set_same (by omega)] at q; cases q), fun _ => ⟨w', _, HKP.out, rfl⟩⟩
      · obtain rfl : _ = op := Option.some.inj (show some _ = some op from ho)
        have nl : l.getD 14 false = false := by
          cases q : l.getD 14 false
          · rfl
          · rw [q] at hnl; cases hnl
        have e3 : t 3 = .int .i64 Q2 := (hv 3 (hd { on := 3, ground := .data } (by simp) rfl)).trans HVF.out.2.2.2.1
        have HV := (show Hid (Rg.Vals l VV t) from hv)
        have HM := (show Hid (l.getD 13 false = false → ∃ p, (l.getD 10 false = false → p ≤ 10000) ∧ PkM w w' b a len' cap z p X BS S (.slice pa ps.length pc) ps (.slice va es.length vc) es) from hM)
        have HD := (show Hid (l.getD 13 false = true → ∃ W p, PkM w W b a len' cap z p X BS S (.slice pa ps.length pc) ps (.slice va es.length vc) es ∧ w' = (W.setCell ⟨w.heap.size, 0, none⟩ (.string S)).setCell ⟨w.heap.size, 1, none⟩ (.slice pa ps.length pc)) from hD)
        clear hv hd ho hM hD
        refine wpOp_step rfl fun K9 hK9 => ?_
        have HKK := (show Hid _ from hK9)
        clear hK9
        rw [e3]
        go_simp
        exact HKK.out _ _ ⟨by simp [hsz], VV, fun j => if j = 14 then (.int .i64 Q2 : Value) else t j, x, HVF.out, HLF.out, by simp [e3], HV.out.put 14 _ HVF.out.2.2.2.2.2.2.2.2.2.2.2.1.symm, by rw [getD_set_ne false (by decide : 14 ≠ 13), getD_set_ne false (by decide : 14 ≠ 10)]; exact HM.out, by rw [getD_set_ne false (by decide : 14 ≠ 13)]; exact HD.out⟩
      · obtain rfl : _ = op := Option.some.inj (show some _ = some op from ho)
        have nl : l.getD 15 false = false := by
          cases q : l.getD 15 false
          · rfl
          · rw [q] at hnl; cases hnl
        have e8 : t 8 = .string (T1.extract 0 K) := (hv 8 (hd { on := 8, ground := .data } (by simp) rfl)).trans HVF.out.2.2.2.2.2.2.2.2.1
        have HV := (show Hid (Rg.Vals l VV t) from hv)
        have HM := (show Hid (l.getD 13 false = false → ∃ p, (l.getD 10 false = false → p ≤ 10000) ∧ PkM w w' b a len' cap z p X BS S (.slice pa ps.length pc) ps (.slice va es.length vc) es) from hM)
        have HD := (show Hid (l.getD 13 false = true → ∃ W p, PkM w W b a len' cap z p X BS S (.slice pa ps.length pc) ps (.slice va es.length vc) es ∧ w' = (W.setCell ⟨w.heap.size, 0, none⟩ (.string S)).setCell ⟨w.heap.size, 1, none⟩ (.slice pa ps.length pc)) from hD)
        clear hv hd ho hM hD
        refine wpOp_step rfl fun K9 hK9 => ?_
        have HKK := (show Hid _ from hK9)
        clear hK9
        rw [e8]
        go_simp
        exact HKK.out _ _ ⟨by simp [hsz], VV, fun j => if j = 15 then (.string (T1.extract 0 K) : Value) else t j, x, HVF.out, HLF.out, by simp [e8], HV.out.put 15 _ HVF.out.2.2.2.2.2.2.2.2.2.2.2.2.symm, by rw [getD_set_ne false (by decide : 15 ≠ 13), getD_set_ne false (by decide : 15 ≠ 10)]; exact HM.out, by rw [getD_set_ne false (by decide : 15 ≠ 13)]; exact HD.out⟩
      · obtain rfl : _ = op := Option.some.inj (show some _ = some op from ho)
        have nl : l.getD 16 false = false := by
          cases q : l.getD 16 false
          · rfl
          · rw [q] at hnl; cases hnl
        have e11 : t 11 = .bool (x == 0) := (hv 11 (hd { on := 11, ground := .data } (by simp) rfl)).trans HLF.out.2.1
        have HV := (show Hid (Rg.Vals l VV t) from hv)
        have HM := (show Hid (l.getD 13 false = false → ∃ p, (l.getD 10 false = false → p ≤ 10000) ∧ PkM w w' b a len' cap z p X BS S (.slice pa ps.length pc) ps (.slice va es.length vc) es) from hM)
        have HD := (show Hid (l.getD 13 false = true → ∃ W p, PkM w W b a len' cap z p X BS S (.slice pa ps.length pc) ps (.slice va es.length vc) es ∧ w' = (W.setCell ⟨w.heap.size, 0, none⟩ (.string S)).setCell ⟨w.heap.size, 1, none⟩ (.slice pa ps.length pc)) from hD)
        clear hv hd ho hM hD
        refine wpOp_step rfl fun K9 hK9 => ?_
        have HKK := (show Hid _ from hK9)
        clear hK9
        rw [e11]
        go_simp
        exact HKK.out _ _ ⟨by simp [hsz], VV, fun j => if j = 16 then (.bool (x == 0) : Value) else t j, x, HVF.out, HLF.out, by simp [e11], HV.out.put 16 _ HLF.out.2.2.symm, by rw [getD_set_ne false (by decide : 16 ≠ 13), getD_set_ne false (by decide : 16 ≠ 10)]; exact HM.out, by rw [getD_set_ne false (by decide : 16 ≠ 13)]; exact HD.out⟩
    case fin =>
      rintro l a' w' ⟨hsz, VV, t, x, hvf, hlf, rfl, hv, -, hD⟩ hall
      have HVF := (show Hid (VV 0 = (.slice va es.length vc : Value) ∧ VV 1 = (.agg #[.string S, .slice pa ps.length pc] : Value) ∧ VV 2 = (.int .i64 Q1 : Value) ∧ VV 3 = (.int .i64 Q2 : Value) ∧ VV 4 = (.string T1 : Value) ∧ VV 5 = (.string T1 : Value) ∧ VV 6 = (.int .i64 (T1.size : Nat) : Value) ∧ VV 7 = (.int .i64 (K : Nat) : Value) ∧ VV 8 = (.string (T1.extract 0 K) : Value) ∧ VV 9 = (.pointer (some ⟨b, 0, none⟩) : Value) ∧ VV 12 = (.slice va es.length vc : Value) ∧ VV 14 = (.int .i64 Q2 : Value) ∧ VV 15 = (.string (T1.extract 0 K) : Value)) from hvf)
      obtain ⟨W, p, hk, rfl⟩ := hD (hall 13 (by simp))
      have e12 : t 12 = .slice va es.length vc := (hv 12 (hall 12 (by simp))).trans HVF.out.2.2.2.2.2.2.2.2.2.2.1
      have e14 : t 14 = .int .i64 Q2 := (hv 14 (hall 14 (by simp))).trans HVF.out.2.2.2.2.2.2.2.2.2.2.2.1
      have e15 : t 15 = .string (T1.extract 0 K) := (hv 15 (hall 15 (by simp))).trans HVF.out.2.2.2.2.2.2.2.2.2.2.2.2
      have e16 : t 16 = .bool (x == 0) := (hv 16 (hall 16 (by simp))).trans hlf.2.2
      obtain ⟨o9, ho9⟩ : ∃ o9, (x == 0) = o9 := ⟨_, rfl⟩
      rw [ho9] at e16
      rw [e12, e14, e15, e16]
      have HKP := (show Hid _ from hk)
      obtain ⟨r0, r1⟩ := set_two hk.1.r0 hk.1.r1 (.string S) (.slice pa ps.length pc)
      clear hv hall e12 e14 e15 e16 hvf hlf HVF hD hk ho9
      go_wp2
      refine bodyPost_ret (v := .tuple #[.slice va es.length vc, .agg #[.string S, .slice pa ps.length pc], .int .i64 Q2, .string (T1.extract 0 K), .bool o9]) (by simp [results, Tryz.results6, go_sem, r0, r1]; done) rfl ?_
      obtain ⟨i1, i2⟩ := HKP.out.1.fin (.string S) (.slice pa ps.length pc)
      refine ⟨_, es, S, _, ps, Q2, _, o9, rfl, HG.out, PkM.fin2 HKP.out _ _, i1, ⟨hS, hpl, HPB.out⟩, ⟨by omega, by omega⟩, ?_, i2⟩
      rw [← lenL, ext_to, List.length_take, List.length_drop]; omega
  · by_cases hc1 : k = 1
    · subst hc1
      go_wp2_with fail
      refine (HK4.out.pick (by omega) _ (by omega)).mono ?_
      rintro e w5 ⟨a5, rfl, ha0, ha1, HK5, x0, x1, -, -, -⟩
      clear HK4 y0 y1
      obtain ⟨A, rfl⟩ : ∃ A : Nat, a5 = (A : Int) := ⟨a5.toNat, by omega⟩
      have hA : (A : Int) ≤ (S.size : Int) := by omega
      have hwD : IntKind.i64.wrap ((S.size : Int) - (A : Int)) = (S.size : Int) - (A : Int) := by simp [IntKind.wrap, IntKind.bits, IntKind.signed]; omega
      have hwD1 : IntKind.i64.wrap ((S.size : Int) - (A : Int) + 1) = (S.size : Int) - (A : Int) + 1 := by simp [IntKind.wrap, IntKind.bits, IntKind.signed]; omega
      go_upto_region 11 with fail
      have hmix : Tryz.prog.follows .mixedOrders = true := by kernel_rfl
      refine wp_region_any hmix ?_
      refine Ri.any_inv (I := fun l a' w' => l.size = 15 ∧ ∃ (VV t : Nat → Value) (x : Nat), A + x ≤ S.size ∧ (VV 0 = (.pointer (some ⟨X, 0, none⟩) : Value) ∧ VV 1 = (.string S : Value) ∧ VV 2 = (.int .i64 (A : Nat) : Value) ∧ VV 3 = (.int .i64 (A : Nat) : Value) ∧ VV 4 = (.pointer (some ⟨b, 0, none⟩) : Value) ∧ VV 5 = (.pointer (some ⟨X, 0, none⟩) : Value) ∧ VV 6 = (.string S : Value) ∧ VV 7 = (.int .i64 (S.size : Nat) : Value) ∧ VV 8 = (.int .i64 (A : Nat) : Value) ∧ VV 9 = (.int .i64 ((S.size : Int) - (A : Int)) : Value) ∧ VV 10 = (.int .i64 ((S.size : Int) - (A : Int) + 1) : Value)) ∧ (VV 11 = (.int .i64 (x : Nat) : Value) ∧ VV 12 = (.int .i64 ((A : Int) + (x : Int)) : Value) ∧ VV 13 = (.string (S.extract A (A + x)) : Value) ∧ VV 14 = (.string (S.extract A (A + x)) : Value)) ∧ a' = { tmps := #[(Value.slice a len cap : Value), undef, Value.slice none 0 0, Value.pointer (some { block := w.heap.size, off := 0 }), Value.int IntKind.i64 0, Value.string { data := #[] }, Value.bool false, Value.pointer (some { block := b, off := 0 }), Value.slice va es.length vc, Value.pointer (some { block := X, off := 0 }), Value.int IntKind.i64 ↑A, t 14, Value.slice a len cap, Value.pointer (some { block := b, off := 0 }), Value.tuple #[Value.slice va es.length vc, Value.agg #[Value.string S, Value.slice pa ps.length pc]], Value.pointer (some { block := b, off := 0 }), Value.tuple #[Value.slice va es.length vc, Value.agg #[Value.string S, Value.slice pa ps.length pc]], Value.slice va es.length vc, Value.agg #[Value.string S, Value.slice pa ps.length pc], Value.pointer (some { block := X, off := 0 }), Value.string S, Value.int IntKind.i64 ↑S.size, Value.pointer (some { block := b, off := 0 }), Value.string s0, Value.pointer (some { block := b, off := 0 }), Value.int IntKind.i64 1, Value.bool false, Value.bool false, undef, undef, undef, undef, undef, undef, undef, undef, undef, undef, undef, undef, Value.bool true, Value.bool true, Value.pointer (some { block := b, off := 0 }), Value.pointer (some { block := X, off := 0 }), Value.string S, Value.int IntKind.i64 ↑S.size, Value.int IntKind.i64 (↑S.size + 1), Value.int IntKind.i64 ↑A, t 0, t 1, t 2, t 3, t 4, t 5, t 6, t 7, t 8, t 9, t 10, t 11, t 12, t 13, undef, undef, undef, undef, undef, undef, undef, undef, undef, undef, undef, undef, undef, undef, undef, undef, undef, undef], defers := [] } ∧ Rg.Vals l VV t ∧ ∃ p, (l.getD 11 false = false → p ≤ 1000) ∧ p ≤ 1001 ∧ PkM w w' b a len' cap z p X BS S (.slice pa ps.length pc) ps (.slice va es.length vc) es) ?sz ?low ?step ?fin _ _ _ _ ?start (Ri.closed_none _ _ _) (Rg.left_all _)
      case sz => exact fun l a' w' h => h.1
      case start =>
        exact ⟨by simp, fun j => [(.pointer (some ⟨X, 0, none⟩) : Value), (.string S : Value), (.int .i64 (A : Nat) : Value), (.int .i64 (A : Nat) : Value), (.pointer (some ⟨b, 0, none⟩) : Value), (.pointer (some ⟨X, 0, none⟩) : Value), (.string S : Value), (.int .i64 (S.size : Nat) : Value), (.int .i64 (A : Nat) : Value), (.int .i64 ((S.size : Int) - (A : Int)) : Value), (.int .i64 ((S.size : Int) - (A : Int) + 1) : Value), (.int .i64 ((0 : Nat) : Int) : Value), (.int .i64 ((A : Int) + ((0 : Nat) : Int)) : Value), (.string (S.extract A (A + 0)) : Value), (.string (S.extract A (A + 0)) : Value)].getD j undef, fun j => [(undef : Value), (undef : Value), (undef : Value), (undef : Value), (undef : Value), (undef : Value), (undef : Value), (undef : Value), (undef : Value), (undef : Value), (undef : Value), (undef : Value), (undef : Value), (undef : Value), (Value.string s0 : Value)].getD j undef, 0, by omega, ⟨rfl, rfl, rfl, rfl, rfl, rfl, rfl, rfl, rfl, rfl, rfl⟩, ⟨rfl, rfl, rfl, rfl⟩, rfl, Rg.vals_none _ _ _, _, fun _ => (by omega), by omega, ⟨Pk.drew HK5.out.1, HK5.out.2.drew⟩⟩
      case low => exact Ri.low_of (by kernel_rfl)
      case step =>
        rintro l a' w' i ⟨hsz, VV, t, x, hx, hvf, hlf, rfl, hv, p, hp, hp1, hk⟩ hcl hi
        obtain ⟨h0, op, ho, hd⟩ := mem_ready.1 hi
        have hin : i < 15 := (Array.getElem?_eq_some_iff.1 ho).1
        have hnl := Rg.not_listed h0
        have u12 : l.getD 12 false = true → l.getD 11 false = true := Ri.reach_sound hcl 10 12 11 (by kernel_rfl)
        have u13 : l.getD 13 false = true → l.getD 11 false = true := Ri.reach_sound hcl 10 13 11 (by kernel_rfl)
        have u14 : l.getD 14 false = true → l.getD 11 false = true := Ri.reach_sound hcl 10 14 11 (by kernel_rfl)
        have HVF := (show Hid (VV 0 = (.pointer (some ⟨X, 0, none⟩) : Value) ∧ VV 1 = (.string S : Value) ∧ VV 2 = (.int .i64 (A : Nat) : Value) ∧ VV 3 = (.int .i64 (A : Nat) : Value) ∧ VV 4 = (.pointer (some ⟨b, 0, none⟩) : Value) ∧ VV 5 = (.pointer (some ⟨X, 0, none⟩) : Value) ∧ VV 6 = (.string S : Value) ∧ VV 7 = (.int .i64 (S.size : Nat) : Value) ∧ VV 8 = (.int .i64 (A : Nat) : Value) ∧ VV 9 = (.int .i64 ((S.size : Int) - (A : Int)) : Value) ∧ VV 10 = (.int .i64 ((S.size : Int) - (A : Int) + 1) : Value)) from hvf)
        have HLF := (show Hid (VV 11 = (.int .i64 (x : Nat) : Value) ∧ VV 12 = (.int .i64 ((A : Int) + (x : Int)) : Value) ∧ VV 13 = (.string (S.extract A (A + x)) : Value) ∧ VV 14 = (.string (S.extract A (A + x)) : Value)) from hlf)
        have y0 := hk.1.x0
        have y1 := hk.1.x1
        have HKP := (show Hid (PkM w w' b a len' cap z p X BS S (.slice pa ps.length pc) ps (.slice va es.length vc) es) from hk)
        clear h0 hi hcl hvf hlf hk
        have hc : i = 0 ∨ i = 1 ∨ i = 2 ∨ i = 3 ∨ i = 4 ∨ i = 5 ∨ i = 6 ∨ i = 7 ∨ i = 8 ∨ i = 9 ∨ i = 10 ∨ i = 11 ∨ i = 12 ∨ i = 13 ∨ i = 14 := by omega
        rcases hc with rfl | rfl | rfl | rfl | rfl | rfl | rfl | rfl | rfl | rfl | rfl | rfl | rfl | rfl | rfl
        · obtain rfl : _ = op := Option.some.inj (show some _ = some op from ho)
          have nl : l.getD 0 false = false := by
            cases q : l.getD 0 false
            · rfl
            · rw [q] at hnl; cases hnl
          have HV := (show Hid (Rg.Vals l VV t) from hv)
          clear hv hd ho
          refine wpOp_step rfl fun K9 hK9 => ?_
          have HKK := (show Hid _ from hK9)
          clear hK9
          go_simp
          exact HKK.out _ _ ⟨by simp [hsz], VV, fun j => if j = 0 then (.pointer (some ⟨X, 0, none⟩) : Value) else t j, x, hx, HVF.out, HLF.out, by simp, HV.out.put 0 _ HVF.out.1.symm, p, by rw [getD_set_ne false (by decide : 0 ≠ 11)]; exact hp, hp1, HKP.out⟩
        · obtain rfl : _ = op := Option.some.inj (show some _ = some op from ho)
          have nl : l.getD 1 false = false := by
            cases q : l.getD 1 false
            · rfl
            · rw [q] at hnl; cases hnl
          have e0 : t 0 = .pointer (some ⟨X, 0, none⟩) := (hv 0 (hd { on := 0, ground := .data } (by simp) rfl)).trans HVF.out.1
          have HV := (show Hid (Rg.Vals l VV t) from hv)
          clear hv hd ho
          refine wpOp_step rfl fun K9 hK9 => ?_
          have HKK := (show Hid _ from hK9)
          clear hK9
          rw [e0]
          go_simp
          exact HKK.out _ _ ⟨by simp [hsz], VV, fun j => if j = 1 then (.string S : Value) else t j, x, hx, HVF.out, HLF.out, by simp [e0], HV.out.put 1 _ HVF.out.2.1.symm, p, by rw [getD_set_ne false (by decide : 1 ≠ 11)]; exact hp, hp1, HKP.out⟩
        · obtain rfl : _ = op := Option.some.inj (show some _ = some op from ho)
          have nl : l.getD 2 false = false := by
            cases q : l.getD 2 false
            · rfl
            · rw [q] at hnl; cases hnl
          have HV := (show Hid (Rg.Vals l VV t) from hv)
          clear hv hd ho
          refine wpOp_step rfl fun K9 hK9 => ?_
          have HKK := (show Hid _ from hK9)
          clear hK9
          go_simp
          exact HKK.out _ _ ⟨by simp [hsz], VV, fun j => if j = 2 then (.int .i64 (A : Nat) : Value) else t j, x, hx, HVF.out, HLF.out, by simp, HV.out.put 2 _ HVF.out.2.2.1.symm, p, by rw [getD_set_ne false (by decide : 2 ≠ 11)]; exact hp, hp1, HKP.out⟩
        · obtain rfl : _ = op := Option.some.inj (show some _ = some op from ho)
          have nl : l.getD 3 false = false := by
            cases q : l.getD 3 false
            · rfl
            · rw [q] at hnl; cases hnl
          have HV := (show Hid (Rg.Vals l VV t) from hv)
          clear hv hd ho
          refine wpOp_step rfl fun K9 hK9 => ?_
          have HKK := (show Hid _ from hK9)
          clear hK9
          go_simp
          exact HKK.out _ _ ⟨by simp [hsz], VV, fun j => if j = 3 then (.int .i64 (A : Nat) : Value) else t j, x, hx, HVF.out, HLF.out, by simp, HV.out.put 3 _ HVF.out.2.2.2.1.symm, p, by rw [getD_set_ne false (by decide : 3 ≠ 11)]; exact hp, hp1, HKP.out⟩
        · obtain rfl : _ = op := Option.some.inj (show some _ = some op from ho)
          have nl : l.getD 4 false = false := by
            cases q : l.getD 4 false
            · rfl
            · rw [q] at hnl; cases hnl
          have HV := (show Hid (Rg.Vals l VV t) from hv)
          clear hv hd ho
          refine wpOp_step rfl fun K9 hK9 => ?_
          have HKK := (show Hid _ from hK9)
          clear hK9
          go_simp
          exact HKK.out _ _ ⟨by simp [hsz], VV, fun j => if j = 4 then (.pointer (some ⟨b, 0, none⟩) : Value) else t j, x, hx, HVF.out, HLF.out, by simp, HV.out.put 4 _ HVF.out.2.2.2.2.1.symm, p, by rw [getD_set_ne false (by decide : 4 ≠ 11)]; exact hp, hp1, HKP.out⟩
        · obtain rfl : _ = op := Option.some.inj (show some _ = some op from ho)
          have nl : l.getD 5 false = false := by
            cases q : l.getD 5 false
            · rfl
            · rw [q] at hnl; cases hnl
          have HV := (show Hid (Rg.Vals l VV t) from hv)
          clear hv hd ho
          refine wpOp_step rfl fun K9 hK9 => ?_
          have HKK := (show Hid _ from hK9)
          clear hK9
          go_simp
          exact HKK.out _ _ ⟨by simp [hsz], VV, fun j => if j = 5 then (.pointer (some ⟨X, 0, none⟩) : Value) else t j, x, hx, HVF.out, HLF.out, by simp, HV.out.put 5 _ HVF.out.2.2.2.2.2.1.symm, p, by rw [getD_set_ne false (by decide : 5 ≠ 11)]; exact hp, hp1, HKP.out⟩
        · obtain rfl : _ = op := Option.some.inj (show some _ = some op from ho)
          have nl : l.getD 6 false = false := by
            cases q : l.getD 6 false
            · rfl
            · rw [q] at hnl; cases hnl
          have e5 : t 5 = .pointer (some ⟨X, 0, none⟩) := (hv 5 (hd { on := 5, ground := .data } (by simp) rfl)).trans HVF.out.2.2.2.2.2.1
          have HV := (show Hid (Rg.Vals l VV t) from hv)
          clear hv hd ho
          refine wpOp_step rfl fun K9 hK9 => ?_
          have HKK := (show Hid _ from hK9)
          clear hK9
          rw [e5]
          go_simp
          exact HKK.out _ _ ⟨by simp [hsz], VV, fun j => if j = 6 then (.string S : Value) else t j, x, hx, HVF.out, HLF.out, by simp [e5], HV.out.put 6 _ HVF.out.2.2.2.2.2.2.1.symm, p, by rw [getD_set_ne false (by decide : 6 ≠ 11)]; exact hp, hp1, HKP.out⟩
        · obtain rfl : _ = op := Option.some.inj (show some _ = some op from ho)
          have nl : l.getD 7 false = false := by
            cases q : l.getD 7 false
            · rfl
            · rw [q] at hnl; cases hnl
          have e6 : t 6 = .string S := (hv 6 (hd { on := 6, ground := .data } (by simp) rfl)).trans HVF.out.2.2.2.2.2.2.1
          have HV := (show Hid (Rg.Vals l VV t) from hv)
          clear hv hd ho
          refine wpOp_step rfl fun K9 hK9 => ?_
          have HKK := (show Hid _ from hK9)
          clear hK9
          rw [e6]
          go_simp
          exact HKK.out _ _ ⟨by simp [hsz], VV, fun j => if j = 7 then (.int .i64 (S.size : Nat) : Value) else t j, x, hx, HVF.out, HLF.out, by simp [e6], HV.out.put 7 _ HVF.out.2.2.2.2.2.2.2.1.symm, p, by rw [getD_set_ne false (by decide : 7 ≠ 11)]; exact hp, hp1, HKP.out⟩
        · obtain rfl : _ = op := Option.some.inj (show some _ = some op from ho)
          have nl : l.getD 8 false = false := by
            cases q : l.getD 8 false
            · rfl
            · rw [q] at hnl; cases hnl
          have HV := (show Hid (Rg.Vals l VV t) from hv)
          clear hv hd ho
          refine wpOp_step rfl fun K9 hK9 => ?_
          have HKK := (show Hid _ from hK9)
          clear hK9
          go_simp
          exact HKK.out _ _ ⟨by simp [hsz], VV, fun j => if j = 8 then (.int .i64 (A : Nat) : Value) else t j, x, hx, HVF.out, HLF.out, by simp, HV.out.put 8 _ HVF.out.2.2.2.2.2.2.2.2.1.symm, p, by rw [getD_set_ne false (by decide : 8 ≠ 11)]; exact hp, hp1, HKP.out⟩
        · obtain rfl : _ = op := Option.some.inj (show some _ = some op from ho)
          have nl : l.getD 9 false = false := by
            cases q : l.getD 9 false
            · rfl
            · rw [q] at hnl; cases hnl
          have e7 : t 7 = .int .i64 (S.size : Nat) := (hv 7 (hd { on := 7, ground := .data } (by simp) rfl)).trans HVF.out.2.2.2.2.2.2.2.1
          have e8 : t 8 = .int .i64 (A : Nat) := (hv 8 (hd { on := 8, ground := .data } (by simp) rfl)).trans HVF.out.2.2.2.2.2.2.2.2.1
          have HV := (show Hid (Rg.Vals l VV t) from hv)
          clear hv hd ho
          refine wpOp_step rfl fun K9 hK9 => ?_
          have HKK := (show Hid _ from hK9)
          clear hK9
          rw [e7, e8]
          go_simp
          exact HKK.out _ _ ⟨by simp [hsz], VV, fun j => if j = 9 then (.int .i64 ((S.size : Int) - (A : Int)) : Value) else t j, x, hx, HVF.out, HLF.out, by simp [e7, e8, hwD], HV.out.put 9 _ HVF.out.2.2.2.2.2.2.2.2.2.1.symm, p, by rw [getD_set_ne false (by decide : 9 ≠ 11)]; exact hp, hp1, HKP.out⟩
        · obtain rfl : _ = op := Option.some.inj (show some _ = some op from ho)
          have nl : l.getD 10 false = false := by
            cases q : l.getD 10 false
            · rfl
            · rw [q] at hnl; cases hnl
          have e9 : t 9 = .int .i64 ((S.size : Int) - (A : Int)) := (hv 9 (hd { on := 9, ground := .data } (by simp) rfl)).trans HVF.out.2.2.2.2.2.2.2.2.2.1
          have HV := (show Hid (Rg.Vals l VV t) from hv)
          clear hv hd ho
          refine wpOp_step rfl fun K9 hK9 => ?_
          have HKK := (show Hid _ from hK9)
          clear hK9
          rw [e9]
          go_simp
          exact HKK.out _ _ ⟨by simp [hsz], VV, fun j => if j = 10 then (.int .i64 ((S.size : Int) - (A : Int) + 1) : Value) else t j, x, hx, HVF.out, HLF.out, by simp [e9, hwD1], HV.out.put 10 _ HVF.out.2.2.2.2.2.2.2.2.2.2.symm, p, by rw [getD_set_ne false (by decide : 10 ≠ 11)]; exact hp, hp1, HKP.out⟩
        · obtain rfl : _ = op := Option.some.inj (show some _ = some op from ho)
          have nl : l.getD 11 false = false := by
            cases q : l.getD 11 false
            · rfl
            · rw [q] at hnl; cases hnl
          have e4 : t 4 = .pointer (some ⟨b, 0, none⟩) := (hv 4 (hd { on := 4, ground := .data } (by simp) rfl)).trans HVF.out.2.2.2.2.1
          have e10 : t 10 = .int .i64 ((S.size : Int) - (A : Int) + 1) := (hv 10 (hd { on := 10, ground := .data } (by simp) rfl)).trans HVF.out.2.2.2.2.2.2.2.2.2.2
          have HV := (show Hid (Rg.Vals l VV t) from hv)
          clear hv hd ho
          refine wpOp_step rfl fun K9 hK9 => ?_
          have HKK := (show Hid _ from hK9)
          clear hK9
          rw [e4, e10]
          go_simp
          refine (PkM.pick HKP.out (by have := hp nl; omega) _ (by omega)).mono ?_
          rintro e w9 ⟨x9, rfl, h90, h91, hk9, -, -, -, -, -⟩
          obtain ⟨x9, rfl⟩ : ∃ n : Nat, x9 = (n : Int) := ⟨x9.toNat, by omega⟩
          exact HKK.out _ _ ⟨by simp [hsz], fun j => if j = 11 then .int .i64 (x9 : Nat) else if j = 12 then .int .i64 ((A : Int) + (x9 : Int)) else if j = 13 then .string (S.extract A (A + x9)) else if j = 14 then .string (S.extract A (A + x9)) else VV j, fun j => if j = 11 then .int .i64 (x9 : Nat) else t j, x9, by omega, by simpa using HVF.out, by simp, by simp [e4, e10], vals_pick11 HV.out (fun q => (by rw [u12 q] at nl; cases nl)) (fun q => (by rw [u13 q] at nl; cases nl)) (fun q => (by rw [u14 q] at nl; cases nl)) _ _ _ _, _, fun q => (by rw [Rg.set_same (by omega)] at q; cases q), by have := hp nl; omega, hk9.out⟩
        · obtain rfl : _ = op := Option.some.inj (show some _ = some op from ho)
          have nl : l.getD 12 false = false := by
            cases q : l.getD 12 false
            · rfl
            · rw [q] at hnl; cases hnl
          have e3 : t 3 = .int .i64 (A : Nat) := (hv 3 (hd { on := 3, ground := .data } (by simp) rfl)).trans HVF.out.2.2.2.1
          have e11 : t 11 = .int .i64 (x : Nat) := (hv 11 (hd { on := 11, ground := .data } (by simp) rfl)).trans HLF.out.1
          have hwx : IntKind.i64.wrap ((A : Int) + (x : Int)) = (A : Int) + (x : Int) := by simp [IntKind.wrap, IntKind.bits, IntKind.signed]; omega
          have HV := (show Hid (Rg.Vals l VV t) from hv)
          clear hv hd ho
          refine wpOp_step rfl fun K9 hK9 => ?_
          have HKK := (show Hid _ from hK9)
          clear hK9
          rw [e3, e11]
          go_simp
          exact HKK.out _ _ ⟨by simp [hsz], VV, fun j => if j = 12 then (.int .i64 ((A : Int) + (x : Int)) : Value) else t j, x, hx, HVF.out, HLF.out, by simp [e3, e11, hwx], HV.out.put 12 _ HLF.out.2.1.symm, p, by rw [getD_set_ne false (by decide : 12 ≠ 11)]; exact hp, hp1, HKP.out⟩
        · obtain rfl : _ = op := Option.some.inj (show some _ = some op from ho)
          have nl : l.getD 13 false = false := by
            cases q : l.getD 13 false
            · rfl
            · rw [q] at hnl; cases hnl
          have e1 : t 1 = .string S := (hv 1 (hd { on := 1, ground := .data } (by simp) rfl)).trans HVF.out.2.1
          have e2 : t 2 = .int .i64 (A : Nat) := (hv 2 (hd { on := 2, ground := .data } (by simp) rfl)).trans HVF.out.2.2.1
          have e12 : t 12 = .int .i64 ((A : Int) + (x : Int)) := (hv 12 (hd { on := 12, ground := .data } (by simp) rfl)).trans HLF.out.2.1
          have HV := (show Hid (Rg.Vals l VV t) from hv)
          have hx1 : (A : Int) ≤ (A : Int) + (x : Int) := by omega
          have hx2 : (A : Int) + (x : Int) ≤ (S.size : Int) := by omega
          have hx3 : ((A : Int) + (x : Int)).toNat = A + x := by omega
          clear hv hd ho
          refine wpOp_step rfl fun K9 hK9 => ?_
          have HKK := (show Hid _ from hK9)
          clear hK9
          rw [e1, e2, e12]
          go_simp
          exact HKK.out _ _ ⟨by simp [hsz], VV, fun j => if j = 13 then (.string (S.extract A (A + x)) : Value) else t j, x, hx, HVF.out, HLF.out, by simp [e1, e2, e12], HV.out.put 13 _ HLF.out.2.2.1.symm, p, by rw [getD_set_ne false (by decide : 13 ≠ 11)]; exact hp, hp1, HKP.out⟩
        · obtain rfl : _ = op := Option.some.inj (show some _ = some op from ho)
          have nl : l.getD 14 false = false := by
            cases q : l.getD 14 false
            · rfl
            · rw [q] at hnl; cases hnl
          have e13 : t 13 = .string (S.extract A (A + x)) := (hv 13 (hd { on := 13, ground := .data } (by simp) rfl)).trans HLF.out.2.2.1
          have HV := (show Hid (Rg.Vals l VV t) from hv)
          clear hv hd ho
          refine wpOp_step rfl fun K9 hK9 => ?_
          have HKK := (show Hid _ from hK9)
          clear hK9
          rw [e13]
          go_simp
          exact HKK.out _ _ ⟨by simp [hsz], VV, fun j => if j = 14 then (.string (S.extract A (A + x)) : Value) else t j, x, hx, HVF.out, HLF.out, by simp [e13], HV.out.put 14 _ HLF.out.2.2.2.symm, p, by rw [getD_set_ne false (by decide : 14 ≠ 11)]; exact hp, hp1, HKP.out⟩
      case fin =>
        rintro lB aB wB ⟨hsz, VB, tB, x, hx, hvf, hlf, rfl, hv, p, -, hp1, hk⟩ hall
        have HLF := (show Hid (VB 11 = (.int .i64 (x : Nat) : Value) ∧ VB 12 = (.int .i64 ((A : Int) + (x : Int)) : Value) ∧ VB 13 = (.string (S.extract A (A + x)) : Value) ∧ VB 14 = (.string (S.extract A (A + x)) : Value)) from hlf)
        have e14 : tB 14 = .string (S.extract A (A + x)) := (hv 14 (hall 14 (by simp))).trans HLF.out.2.2.2
        have HK6 := (show Hid (PkM w wB b a len' cap z p X BS S (.slice pa ps.length pc) ps (.slice va es.length vc) es) from hk)
        rw [e14]
        have y0 := hk.1.x0
        have y1 := hk.1.x1
        clear hv hall e14 hvf hlf HLF hk
        go_upto_region 14 with fail
        generalize hT1 : S.extract A (A + x) = T1
        have hT1z : T1.size ≤ 60 := by rw [← hT1, ← lenL (S.extract A (A + x)), ext_to, List.length_take, List.length_drop, lenL]; omega
        generalize hQ1 : (A : Int) = Q1
        have hq1 : 0 ≤ Q1 ∧ Q1 ≤ 50 := by omega
        clear hT1 hQ1
        obtain ⟨Q2, hQ2⟩ : ∃ Q2 : Int, min Q1 40 = Q2 := ⟨_, rfl⟩
        have hq2 : 0 ≤ Q2 ∧ Q2 ≤ 40 := by omega
        obtain ⟨K, hK⟩ : ∃ K : Nat, min T1.size 40 = K := ⟨_, rfl⟩
        have hmn : min (T1.size : Int) 40 = (K : Int) := by omega
        have hKT : (K : Int) ≤ (T1.size : Int) := by omega
        have hK40 : K ≤ 40 := by omega
        clear hK
        have hmix : Tryz.prog.follows .mixedOrders = true := by kernel_rfl
        refine wp_region_any hmix ?_
        refine Ri.any_inv (I := fun l a' w' => l.size = 17 ∧ ∃ (VV t : Nat → Value) (x : Int), (VV 0 = (.slice va es.length vc : Value) ∧ VV 1 = (.agg #[.string S, .slice pa ps.length pc] : Value) ∧ VV 2 = (.int .i64 Q1 : Value) ∧ VV 3 = (.int .i64 Q2 : Value) ∧ VV 4 = (.string T1 : Value) ∧ VV 5 = (.string T1 : Value) ∧ VV 6 = (.int .i64 (T1.size : Nat) : Value) ∧ VV 7 = (.int .i64 (K : Nat) : Value) ∧ VV 8 = (.string (T1.extract 0 K) : Value) ∧ VV 9 = (.pointer (some ⟨b, 0, none⟩) : Value) ∧ VV 12 = (.slice va es.length vc : Value) ∧ VV 14 = (.int .i64 Q2 : Value) ∧ VV 15 = (.string (T1.extract 0 K) : Value)) ∧ (VV 10 = (.int .i64 x : Value) ∧ VV 11 = (.bool (x == 0) : Value) ∧ VV 16 = (.bool (x == 0) : Value)) ∧ a' = { tmps := #[(Value.slice a len cap : Value), undef, t 12, Value.pointer (some { block := w.heap.size, off := 0 }), t 14, t 15, t 16, Value.pointer (some { block := b, off := 0 }), Value.slice va es.length vc, Value.pointer (some { block := X, off := 0 }), Value.int IntKind.i64 Q1, Value.string T1, Value.slice a len cap, Value.pointer (some { block := b, off := 0 }), Value.tuple #[Value.slice va es.length vc, Value.agg #[Value.string S, Value.slice pa ps.length pc]], Value.pointer (some { block := b, off := 0 }), Value.tuple #[Value.slice va es.length vc, Value.agg #[Value.string S, Value.slice pa ps.length pc]], Value.slice va es.length vc, Value.agg #[Value.string S, Value.slice pa ps.length pc], Value.pointer (some { block := X, off := 0 }), Value.string S, Value.int IntKind.i64 ↑S.size, Value.pointer (some { block := b, off := 0 }), Value.string s0, Value.pointer (some { block := b, off := 0 }), Value.int IntKind.i64 1, Value.bool false, Value.bool false, undef, undef, undef, undef, undef, undef, undef, undef, undef, undef, undef, undef, Value.bool true, Value.bool true, Value.pointer (some { block := b, off := 0 }), Value.pointer (some { block := X, off := 0 }), Value.string S, Value.int IntKind.i64 ↑S.size, Value.int IntKind.i64 (↑S.size + 1), Value.int IntKind.i64 Q1, tB 0, tB 1, tB 2, tB 3, tB 4, tB 5, tB 6, tB 7, tB 8, tB 9, tB 10, tB 11, tB 12, tB 13, undef, undef, undef, undef, undef, undef, t 0, t 1, t 2, t 3, t 4, t 5, t 6, t 7, t 8, t 9, t 10, t 11], defers := [] } ∧ Rg.Vals l VV t ∧ (l.getD 13 false = false → ∃ p, (l.getD 10 false = false → p ≤ 10000) ∧ PkM w w' b a len' cap z p X BS S (.slice pa ps.length pc) ps (.slice va es.length vc) es) ∧ (l.getD 13 false = true → ∃ W p, PkM w W b a len' cap z p X BS S (.slice pa ps.length pc) ps (.slice va es.length vc) es ∧ w' = (W.setCell ⟨w.heap.size, 0, none⟩ (.string S)).setCell ⟨w.heap.size, 1, none⟩ (.slice pa ps.length pc))) ?sz ?low ?step ?fin _ _ _ _ ?start (Ri.closed_none _ _ _) (Rg.left_all _)
        case sz => exact fun l a' w' h => h.1
        case start =>
          exact ⟨by simp, fun j => [(.slice va es.length vc : Value), (.agg #[.string S, .slice pa ps.length pc] : Value), (.int .i64 Q1 : Value), (.int .i64 Q2 : Value), (.string T1 : Value), (.string T1 : Value), (.int .i64 (T1.size : Nat) : Value), (.int .i64 (K : Nat) : Value), (.string (T1.extract 0 K) : Value), (.pointer (some ⟨b, 0, none⟩) : Value), (.int .i64 0 : Value), (.bool ((0 : Int) == 0) : Value), (.slice va es.length vc : Value), undef, (.int .i64 Q2 : Value), (.string (T1.extract 0 K) : Value), (.bool ((0 : Int) == 0) : Value)].getD j undef, fun j => [(undef : Value), (undef : Value), (undef : Value), (undef : Value), (undef : Value), (undef : Value), (undef : Value), (undef : Value), (undef : Value), (undef : Value), (undef : Value), (undef : Value), (Value.slice none 0 0 : Value), (undef : Value), (Value.int IntKind.i64 0 : Value), (Value.string { data := #[] } : Value), (Value.bool false : Value)].getD j undef, 0, ⟨rfl, rfl, rfl, rfl, rfl, rfl, rfl, rfl, rfl, rfl, rfl, rfl, rfl⟩, ⟨rfl, rfl, rfl⟩, rfl, Rg.vals_none _ _ _, fun _ => ⟨_, fun _ => (by omega), ⟨Pk.drew HK6.out.1, HK6.out.2.drew⟩⟩, fun q => absurd q (by rw [Rg.rep_none]; decide)⟩
        case low => exact Ri.low_of (by kernel_rfl)
        case step =>
          rintro l a' w' i ⟨hsz, VV, t, x, hvf, hlf, rfl, hv, hM, hD⟩ hcl hi
          obtain ⟨h0, op, ho, hd⟩ := mem_ready.1 hi
          have hin : i < 17 := (Array.getElem?_eq_some_iff.1 ho).1
          have hnl := Rg.not_listed h0
          have u1 : l.getD 13 false = true → l.getD 1 false = true := Ri.reach_sound hcl 10 13 1 (by kernel_rfl)
          have u10 : l.getD 13 false = true → l.getD 10 false = true := Ri.reach_sound hcl 10 13 10 (by kernel_rfl)
          have u11 : l.getD 11 false = true → l.getD 10 false = true := Ri.reach_sound hcl 10 11 10 (by kernel_rfl)
          have u16 : l.getD 16 false = true → l.getD 10 false = true := Ri.reach_sound hcl 10 16 10 (by kernel_rfl)
          have HVF := (show Hid (VV 0 = (.slice va es.length vc : Value) ∧ VV 1 = (.agg #[.string S, .slice pa ps.length pc] : Value) ∧ VV 2 = (.int .i64 Q1 : Value) ∧ VV 3 = (.int .i64 Q2 : Value) ∧ VV 4 = (.string T1 : Value) ∧ VV 5 = (.string T1 : Value) ∧ VV 6 = (.int .i64 (T1.size : Nat) : Value) ∧ VV 7 = (.int .i64 (K : Nat) : Value) ∧ VV 8 = (.string (T1.extract 0 K) : Value) ∧ VV 9 = (.pointer (some ⟨b, 0, none⟩) : Value) ∧ VV 12 = (.slice va es.length vc : Value) ∧ VV 14 = (.int .i64 Q2 : Value) ∧ VV 15 = (.string (T1.extract 0 K) : Value)) from hvf)
          have HLF := (show Hid (VV 10 = (.int .i64 x : Value) ∧ VV 11 = (.bool (x == 0) : Value) ∧ VV 16 = (.bool (x == 0) : Value)) from hlf)
          clear h0 hi hcl hvf hlf
          have hc : i = 0 ∨ i = 1 ∨ i = 2 ∨ i = 3 ∨ i = 4 ∨ i = 5 ∨ i = 6 ∨ i = 7 ∨ i = 8 ∨ i = 9 ∨ i = 10 ∨ i = 11 ∨ i = 12 ∨ i = 13 ∨ i = 14 ∨ i = 15 ∨ i = 16 := by omega
          rcases hc with rfl | rfl | rfl | rfl | rfl | rfl | rfl | rfl | rfl | rfl | rfl | rfl | rfl | rfl | rfl | rfl | rfl
          · obtain rfl : _ = op := Option.some.inj (show some _ = some op from ho)
            have nl : l.getD 0 false = false := by
              cases q : l.getD 0 false
              · rfl
              · rw [q] at hnl; cases hnl
            have HV := (show Hid (Rg.Vals l VV t) from hv)
            have HM := (show Hid (l.getD 13 false = false → ∃ p, (l.getD 10 false = false → p ≤ 10000) ∧ PkM w w' b a len' cap z p X BS S (.slice pa ps.length pc) ps (.slice va es.length vc) es) from hM)
            have HD := (show Hid (l.getD 13 false = true → ∃ W p, PkM w W b a len' cap z p X BS S (.slice pa ps.length pc) ps (.slice va es.length vc) es ∧ w' = (W.setCell ⟨w.heap.size, 0, none⟩ (.string S)).setCell ⟨w.heap.size, 1, none⟩ (.slice pa ps.length pc)) from hD)
            clear hv hd ho hM hD
            refine wpOp_step rfl fun K9 hK9 => ?_
            have HKK := (show Hid _ from hK9)
            clear hK9
            go_simp
            exact HKK.out _ _ ⟨by simp [hsz], VV, fun j => if j = 0 then (.slice va es.length vc : Value) else t j, x, HVF.out, HLF.out, by simp, HV.out.put 0 _ HVF.out.1.symm, by rw [getD_set_ne false (by decide : 0 ≠ 13), getD_set_ne false (by decide : 0 ≠ 10)]; exact HM.out, by rw [getD_set_ne false (by decide : 0 ≠ 13)]; exact HD.out⟩
          · obtain rfl : _ = op := Option.some.inj (show some _ = some op from ho)
            have nl : l.getD 1 false = false := by
              cases q : l.getD 1 false
              · rfl
              · rw [q] at hnl; cases hnl
            have n13 : l.getD 13 false = false := by
              cases q : l.getD 13 false
              · rfl
              · rw [u1 q] at nl; cases nl
            obtain ⟨p, hp, hk⟩ := hM n13
            have y0 := hk.1.x0
            have y1 := hk.1.x1
            have HKP := (show Hid _ from hk)
            clear hk
            have HV := (show Hid (Rg.Vals l VV t) from hv)
            have HM := (show Hid (l.getD 13 false = false → ∃ p, (l.getD 10 false = false → p ≤ 10000) ∧ PkM w w' b a len' cap z p X BS S (.slice pa ps.length pc) ps (.slice va es.length vc) es) from hM)
            have HD := (show Hid (l.getD 13 false = true → ∃ W p, PkM w W b a len' cap z p X BS S (.slice pa ps.length pc) ps (.slice va es.length vc) es ∧ w' = (W.setCell ⟨w.heap.size, 0, none⟩ (.string S)).setCell ⟨w.heap.size, 1, none⟩ (.slice pa ps.length pc)) from hD)
            clear hv hd ho hM hD
            refine wpOp_step rfl fun K9 hK9 => ?_
            have HKK := (show Hid _ from hK9)
            clear hK9
            go_simp
            exact HKK.out _ _ ⟨by simp [hsz], VV, fun j => if j = 1 then (.agg #[.string S, .slice pa ps.length pc] : Value) else t j, x, HVF.out, HLF.out, by simp, HV.out.put 1 _ HVF.out.2.1.symm, by rw [getD_set_ne false (by decide : 1 ≠ 13), getD_set_ne false (by decide : 1 ≠ 10)]; exact HM.out, by rw [getD_set_ne false (by decide : 1 ≠ 13)]; exact HD.out⟩
          · obtain rfl : _ = op := Option.some.inj (show some _ = some op from ho)
            have nl : l.getD 2 false = false := by
              cases q : l.getD 2 false
              · rfl
              · rw [q] at hnl; cases hnl
            have HV := (show Hid (Rg.Vals l VV t) from hv)
            have HM := (show Hid (l.getD 13 false = false → ∃ p, (l.getD 10 false = false → p ≤ 10000) ∧ PkM w w' b a len' cap z p X BS S (.slice pa ps.length pc) ps (.slice va es.length vc) es) from hM)
            have HD := (show Hid (l.getD 13 false = true → ∃ W p, PkM w W b a len' cap z p X BS S (.slice pa ps.length pc) ps (.slice va es.length vc) es ∧ w' = (W.setCell ⟨w.heap.size, 0, none⟩ (.string S)).setCell ⟨w.heap.size, 1, none⟩ (.slice pa ps.length pc)) from hD)
            clear hv hd ho hM hD
            refine wpOp_step rfl fun K9 hK9 => ?_
            have HKK := (show Hid _ from hK9)
            clear hK9
            go_simp
            exact HKK.out _ _ ⟨by simp [hsz], VV, fun j => if j = 2 then (.int .i64 Q1 : Value) else t j, x, HVF.out, HLF.out, by simp, HV.out.put 2 _ HVF.out.2.2.1.symm, by rw [getD_set_ne false (by decide : 2 ≠ 13), getD_set_ne false (by decide : 2 ≠ 10)]; exact HM.out, by rw [getD_set_ne false (by decide : 2 ≠ 13)]; exact HD.out⟩
          · obtain rfl : _ = op := Option.some.inj (show some _ = some op from ho)
            have nl : l.getD 3 false = false := by
              cases q : l.getD 3 false
              · rfl
              · rw [q] at hnl; cases hnl
            have e2 : t 2 = .int .i64 Q1 := (hv 2 (hd { on := 2, ground := .data } (by simp) rfl)).trans HVF.out.2.2.1
            have HV := (show Hid (Rg.Vals l VV t) from hv)
            have HM := (show Hid (l.getD 13 false = false → ∃ p, (l.getD 10 false = false → p ≤ 10000) ∧ PkM w w' b a len' cap z p X BS S (.slice pa ps.length pc) ps (.slice va es.length vc) es) from hM)
            have HD := (show Hid (l.getD 13 false = true → ∃ W p, PkM w W b a len' cap z p X BS S (.slice pa ps.length pc) ps (.slice va es.length vc) es ∧ w' = (W.setCell ⟨w.heap.size, 0, none⟩ (.string S)).setCell ⟨w.heap.size, 1, none⟩ (.slice pa ps.length pc)) from hD)
            clear hv hd ho hM hD
            refine wpOp_step rfl fun K9 hK9 => ?_
            have HKK := (show Hid _ from hK9)
            clear hK9
            rw [e2]
            go_simp
            exact HKK.out _ _ ⟨by simp [hsz], VV, fun j => if j = 3 then (.int .i64 Q2 : Value) else t j, x, HVF.out, HLF.out, by simp [e2], HV.out.put 3 _ HVF.out.2.2.2.1.symm, by rw [getD_set_ne false (by decide : 3 ≠ 13), getD_set_ne false (by decide : 3 ≠ 10)]; exact HM.out, by rw [getD_set_ne false (by decide : 3 ≠ 13)]; exact HD.out⟩
          · obtain rfl : _ = op := Option.some.inj (show some _ = some op from ho)
            have nl : l.getD 4 false = false := by
              cases q : l.getD 4 false
              · rfl
              · rw [q] at hnl; cases hnl
            have HV := (show Hid (Rg.Vals l VV t) from hv)
            have HM := (show Hid (l.getD 13 false = false → ∃ p, (l.getD 10 false = false → p ≤ 10000) ∧ PkM w w' b a len' cap z p X BS S (.slice pa ps.length pc) ps (.slice va es.length vc) es) from hM)
            have HD := (show Hid (l.getD 13 false = true → ∃ W p, PkM w W b a len' cap z p X BS S (.slice pa ps.length pc) ps (.slice va es.length vc) es ∧ w' = (W.setCell ⟨w.heap.size, 0, none⟩ (.string S)).setCell ⟨w.heap.size, 1, none⟩ (.slice pa ps.length pc)) from hD)
            clear hv hd ho hM hD
            refine wpOp_step rfl fun K9 hK9 => ?_
            have HKK := (show Hid _ from hK9)
            clear hK9
            go_simp
            exact HKK.out _ _ ⟨by simp [hsz], VV, fun j => if j = 4 then (.string T1 : Value) else t j, x, HVF.out, HLF.out, by simp, HV.out.put 4 _ HVF.out.2.2.2.2.1.symm, by rw [getD_set_ne false (by decide : 4 ≠ 13), getD_set_ne false (by decide : 4 ≠ 10)]; exact HM.out, by rw [getD_set_ne false (by decide : 4 ≠ 13)]; exact HD.out⟩
          · obtain rfl : _ = op := Option.some.inj (show some _ = some op from ho)
            have nl : l.getD 5 false = false := by
              cases q : l.getD 5 false
              · rfl
              · rw [q] at hnl; cases hnl
            have HV := (show Hid (Rg.Vals l VV t) from hv)
            have HM := (show Hid (l.getD 13 false = false → ∃ p, (l.getD 10 false = false → p ≤ 10000) ∧ PkM w w' b a len' cap z p X BS S (.slice pa ps.length pc) ps (.slice va es.length vc) es) from hM)
            have HD := (show Hid (l.getD 13 false = true → ∃ W p, PkM w W b a len' cap z p X BS S (.slice pa ps.length pc) ps (.slice va es.length vc) es ∧ w' = (W.setCell ⟨w.heap.size, 0, none⟩ (.string S)).setCell ⟨w.heap.size, 1, none⟩ (.slice pa ps.length pc)) from hD)
            clear hv hd ho hM hD
            refine wpOp_step rfl fun K9 hK9 => ?_
            have HKK := (show Hid _ from hK9)
            clear hK9
            go_simp
            exact HKK.out _ _ ⟨by simp [hsz], VV, fun j => if j = 5 then (.string T1 : Value) else t j, x, HVF.out, HLF.out, by simp, HV.out.put 5 _ HVF.out.2.2.2.2.2.1.symm, by rw [getD_set_ne false (by decide : 5 ≠ 13), getD_set_ne false (by decide : 5 ≠ 10)]; exact HM.out, by rw [getD_set_ne false (by decide : 5 ≠ 13)]; exact HD.out⟩
          · obtain rfl : _ = op := Option.some.inj (show some _ = some op from ho)
            have nl : l.getD 6 false = false := by
              cases q : l.getD 6 false
              · rfl
              · rw [q] at hnl; cases hnl
            have e5 : t 5 = .string T1 := (hv 5 (hd { on := 5, ground := .data } (by simp) rfl)).trans HVF.out.2.2.2.2.2.1
            have HV := (show Hid (Rg.Vals l VV t) from hv)
            have HM := (show Hid (l.getD 13 false = false → ∃ p, (l.getD 10 false = false → p ≤ 10000) ∧ PkM w w' b a len' cap z p X BS S (.slice pa ps.length pc) ps (.slice va es.length vc) es) from hM)
            have HD := (show Hid (l.getD 13 false = true → ∃ W p, PkM w W b a len' cap z p X BS S (.slice pa ps.length pc) ps (.slice va es.length vc) es ∧ w' = (W.setCell ⟨w.heap.size, 0, none⟩ (.string S)).setCell ⟨w.heap.size, 1, none⟩ (.slice pa ps.length pc)) from hD)
            clear hv hd ho hM hD
            refine wpOp_step rfl fun K9 hK9 => ?_
            have HKK := (show Hid _ from hK9)
            clear hK9
            rw [e5]
            go_simp
            exact HKK.out _ _ ⟨by simp [hsz], VV, fun j => if j = 6 then (.int .i64 (T1.size : Nat) : Value) else t j, x, HVF.out, HLF.out, by simp [e5], HV.out.put 6 _ HVF.out.2.2.2.2.2.2.1.symm, by rw [getD_set_ne false (by decide : 6 ≠ 13), getD_set_ne false (by decide : 6 ≠ 10)]; exact HM.out, by rw [getD_set_ne false (by decide : 6 ≠ 13)]; exact HD.out⟩
          · obtain rfl : _ = op := Option.some.inj (show some _ = some op from ho)
            have nl : l.getD 7 false = false := by
              cases q : l.getD 7 false
              · rfl
              · rw [q] at hnl; cases hnl
            have e6 : t 6 = .int .i64 (T1.size : Nat) := (hv 6 (hd { on := 6, ground := .data } (by simp) rfl)).trans HVF.out.2.2.2.2.2.2.1
            have HV := (show Hid (Rg.Vals l VV t) from hv)
            have HM := (show Hid (l.getD 13 false = false → ∃ p, (l.getD 10 false = false → p ≤ 10000) ∧ PkM w w' b a len' cap z p X BS S (.slice pa ps.length pc) ps (.slice va es.length vc) es) from hM)
            have HD := (show Hid (l.getD 13 false = true → ∃ W p, PkM w W b a len' cap z p X BS S (.slice pa ps.length pc) ps (.slice va es.length vc) es ∧ w' = (W.setCell ⟨w.heap.size, 0, none⟩ (.string S)).setCell ⟨w.heap.size, 1, none⟩ (.slice pa ps.length pc)) from hD)
            clear hv hd ho hM hD
            refine wpOp_step rfl fun K9 hK9 => ?_
            have HKK := (show Hid _ from hK9)
            clear hK9
            rw [e6]
            go_simp
            exact HKK.out _ _ ⟨by simp [hsz], VV, fun j => if j = 7 then (.int .i64 (K : Nat) : Value) else t j, x, HVF.out, HLF.out, by simp [e6], HV.out.put 7 _ HVF.out.2.2.2.2.2.2.2.1.symm, by rw [getD_set_ne false (by decide : 7 ≠ 13), getD_set_ne false (by decide : 7 ≠ 10)]; exact HM.out, by rw [getD_set_ne false (by decide : 7 ≠ 13)]; exact HD.out⟩
          · obtain rfl : _ = op := Option.some.inj (show some _ = some op from ho)
            have nl : l.getD 8 false = false := by
              cases q : l.getD 8 false
              · rfl
              · rw [q] at hnl; cases hnl
            have e4 : t 4 = .string T1 := (hv 4 (hd { on := 4, ground := .data } (by simp) rfl)).trans HVF.out.2.2.2.2.1
            have e7 : t 7 = .int .i64 (K : Nat) := (hv 7 (hd { on := 7, ground := .data } (by simp) rfl)).trans HVF.out.2.2.2.2.2.2.2.1
            have HV := (show Hid (Rg.Vals l VV t) from hv)
            have HM := (show Hid (l.getD 13 false = false → ∃ p, (l.getD 10 false = false → p ≤ 10000) ∧ PkM w w' b a len' cap z p X BS S (.slice pa ps.length pc) ps (.slice va es.length vc) es) from hM)
            have HD := (show Hid (l.getD 13 false = true → ∃ W p, PkM w W b a len' cap z p X BS S (.slice pa ps.length pc) ps (.slice va es.length vc) es ∧ w' = (W.setCell ⟨w.heap.size, 0, none⟩ (.string S)).setCell ⟨w.heap.size, 1, none⟩ (.slice pa ps.length pc)) from hD)
            clear hv hd ho hM hD
            refine wpOp_step rfl fun K9 hK9 => ?_
            have HKK := (show Hid _ from hK9)
            clear hK9
            rw [e4, e7]
            go_simp
            exact HKK.out _ _ ⟨by simp [hsz], VV, fun j => if j = 8 then (.string (T1.extract 0 K) : Value) else t j, x, HVF.out, HLF.out, by simp [e4, e7], HV.out.put 8 _ HVF.out.2.2.2.2.2.2.2.2.1.symm, by rw [getD_set_ne false (by decide : 8 ≠ 13), getD_set_ne false (by decide : 8 ≠ 10)]; exact HM.out, by rw [getD_set_ne false (by decide : 8 ≠ 13)]; exact HD.out⟩
          · obtain rfl : _ = op := Option.some.inj (show some _ = some op from ho)
            have nl : l.getD 9 false = false := by
              cases q : l.getD 9 false
              · rfl
              · rw [q] at hnl; cases hnl
            have HV := (show Hid (Rg.Vals l VV t) from hv)
            have HM := (show Hid (l.getD 13 false = false → ∃ p, (l.getD 10 false = false → p ≤ 10000) ∧ PkM w w' b a len' cap z p X BS S (.slice pa ps.length pc) ps (.slice va es.length vc) es) from hM)
            have HD := (show Hid (l.getD 13 false = true → ∃ W p, PkM w W b a len' cap z p X BS S (.slice pa ps.length pc) ps (.slice va es.length vc) es ∧ w' = (W.setCell ⟨w.heap.size, 0, none⟩ (.string S)).setCell ⟨w.heap.size, 1, none⟩ (.slice pa ps.length pc)) from hD)
            clear hv hd ho hM hD
            refine wpOp_step rfl fun K9 hK9 => ?_
            have HKK := (show Hid _ from hK9)
            clear hK9
            go_simp
            exact HKK.out _ _ ⟨by simp [hsz], VV, fun j => if j = 9 then (.pointer (some ⟨b, 0, none⟩) : Value) else t j, x, HVF.out, HLF.out, by simp, HV.out.put 9 _ HVF.out.2.2.2.2.2.2.2.2.2.1.symm, by rw [getD_set_ne false (by decide : 9 ≠ 13), getD_set_ne false (by decide : 9 ≠ 10)]; exact HM.out, by rw [getD_set_ne false (by decide : 9 ≠ 13)]; exact HD.out⟩
          · obtain rfl : _ = op := Option.some.inj (show some _ = some op from ho)
            have nl : l.getD 10 false = false := by
              cases q : l.getD 10 false
              · rfl
              · rw [q] at hnl; cases hnl
            have n13 : l.getD 13 false = false := by
              cases q : l.getD 13 false
              · rfl
              · rw [u10 q] at nl; cases nl
            have e9 : t 9 = .pointer (some ⟨b, 0, none⟩) := (hv 9 (hd { on := 9, ground := .data } (by simp) rfl)).trans HVF.out.2.2.2.2.2.2.2.2.2.1
            obtain ⟨p, hp, hk⟩ := hM n13
            have y0 := hk.1.x0
            have y1 := hk.1.x1
            have HKP := (show Hid _ from hk)
            clear hk
            have HV := (show Hid (Rg.Vals l VV t) from hv)
            have HM := (show Hid (l.getD 13 false = false → ∃ p, (l.getD 10 false = false → p ≤ 10000) ∧ PkM w w' b a len' cap z p X BS S (.slice pa ps.length pc) ps (.slice va es.length vc) es) from hM)
            have HD := (show Hid (l.getD 13 false = true → ∃ W p, PkM w W b a len' cap z p X BS S (.slice pa ps.length pc) ps (.slice va es.length vc) es ∧ w' = (W.setCell ⟨w.heap.size, 0, none⟩ (.string S)).setCell ⟨w.heap.size, 1, none⟩ (.slice pa ps.length pc)) from hD)
            clear hv hd ho hM hD
            refine wpOp_step rfl fun K9 hK9 => ?_
            have HKK := (show Hid _ from hK9)
            clear hK9
            rw [e9]
            go_simp
            refine (PkM.pick HKP.out (by have := hp nl; omega) _ (by omega)).mono ?_
            rintro e w9 ⟨x9, rfl, h90, h91, hk9, -, -, -, -, -⟩
            exact HKK.out _ _ ⟨by simp [hsz], fun j => if j = 10 then .int .i64 x9 else if j = 11 then .bool (x9 == 0) else if j = 16 then .bool (x9 == 0) else VV j, fun j => if j = 10 then .int .i64 x9 else t j, x9, by simpa using HVF.out, by simp, by simp [e9], vals_pick HV.out (fun q => (by rw [u11 q] at nl; cases nl)) (fun q => (by rw [u16 q] at nl; cases nl)) _ _, fun _ => ⟨_, fun q => (by rw [Rg.set_same (by omega)] at q; cases q), hk9.out⟩, fun q => (by rw [getD_set_ne false (by decide : 10 ≠ 13), n13] at q; cases q)⟩
          · obtain rfl : _ = op := Option.some.inj (show some _ = some op from ho)
            have nl : l.getD 11 false = false := by
              cases q : l.getD 11 false
              · rfl
              · rw [q] at hnl; cases hnl
            have e10 : t 10 = .int .i64 x := (hv 10 (hd { on := 10, ground := .data } (by simp) rfl)).trans HLF.out.1
            have HV := (show Hid (Rg.Vals l VV t) from hv)
            have HM := (show Hid (l.getD 13 false = false → ∃ p, (l.getD 10 false = false → p ≤ 10000) ∧ PkM w w' b a len' cap z p X BS S (.slice pa ps.length pc) ps (.slice va es.length vc) es) from hM)
            have HD := (show Hid (l.getD 13 false = true → ∃ W p, PkM w W b a len' cap z p X BS S (.slice pa ps.length pc) ps (.slice va es.length vc) es ∧ w' = (W.setCell ⟨w.heap.size, 0, none⟩ (.string S)).setCell ⟨w.heap.size, 1, none⟩ (.slice pa ps.length pc)) from hD)
            clear hv hd ho hM hD
            refine wpOp_step rfl fun K9 hK9 => ?_
            have HKK := (show Hid _ from hK9)
            clear hK9
            rw [e10]
            go_simp
            exact HKK.out _ _ ⟨by simp [hsz], VV, fun j => if j = 11 then (.bool (x == 0) : Value) else t j, x, HVF.out, HLF.out, by simp [e10], HV.out.put 11 _ HLF.out.2.1.symm, by rw [getD_set_ne false (by decide : 11 ≠ 13), getD_set_ne false (by decide : 11 ≠ 10)]; exact HM.out, by rw [getD_set_ne false (by decide : 11 ≠ 13)]; exact HD.out⟩
          · obtain rfl : _ = op := Option.some.inj (show some _ = some op from ho)
            have nl : l.getD 12 false = false := by
              cases q : l.getD 12 false
              · rfl
              · rw [q] at hnl; cases hnl
            have e0 : t 0 = .slice va es.length vc := (hv 0 (hd { on := 0, ground := .data } (by simp) rfl)).trans HVF.out.1
            have HV := (show Hid (Rg.Vals l VV t) from hv)
            have HM := (show Hid (l.getD 13 false = false → ∃ p, (l.getD 10 false = false → p ≤ 10000) ∧ PkM w w' b a len' cap z p X BS S (.slice pa ps.length pc) ps (.slice va es.length vc) es) from hM)
            have HD := (show Hid (l.getD 13 false = true → ∃ W p, PkM w W b a len' cap z p X BS S (.slice pa ps.length pc) ps (.slice va es.length vc) es ∧ w' = (W.setCell ⟨w.heap.size, 0, none⟩ (.string S)).setCell ⟨w.heap.size, 1, none⟩ (.slice pa ps.length pc)) from hD)
            clear hv hd ho hM hD
            refine wpOp_step rfl fun K9 hK9 => ?_
            have HKK := (show Hid _ from hK9)
            clear hK9
            rw [e0]
            go_simp
            exact HKK.out _ _ ⟨by simp [hsz], VV, fun j => if j = 12 then (.slice va es.length vc : Value) else t j, x, HVF.out, HLF.out, by simp [e0], HV.out.put 12 _ HVF.out.2.2.2.2.2.2.2.2.2.2.1.symm, by rw [getD_set_ne false (by decide : 12 ≠ 13), getD_set_ne false (by decide : 12 ≠ 10)]; exact HM.out, by rw [getD_set_ne false (by decide : 12 ≠ 13)]; exact HD.out⟩
          · obtain rfl : _ = op := Option.some.inj (show some _ = some op from ho)
            have nl : l.getD 13 false = false := by
              cases q : l.getD 13 false
              · rfl
              · rw [q] at hnl; cases hnl
            have e1 : t 1 = .agg #[.string S, .slice pa ps.length pc] := (hv 1 (hd { on := 1, ground := .data } (by simp) rfl)).trans HVF.out.2.1
            obtain ⟨p, hp, hk⟩ := hM nl
            have y0 := hk.1.r0
            have y1 := hk.1.r1
            have yf := hk.1.rf
            have HKP := (show Hid _ from hk)
            clear hk
            have HV := (show Hid (Rg.Vals l VV t) from hv)
            have HM := (show Hid (l.getD 13 false = false → ∃ p, (l.getD 10 false = false → p ≤ 10000) ∧ PkM w w' b a len' cap z p X BS S (.slice pa ps.length pc) ps (.slice va es.length vc) es) from hM)
            have HD := (show Hid (l.getD 13 false = true → ∃ W p, PkM w W b a len' cap z p X BS S (.slice pa ps.length pc) ps (.slice va es.length vc) es ∧ w' = (W.setCell ⟨w.heap.size, 0, none⟩ (.string S)).setCell ⟨w.heap.size, 1, none⟩ (.slice pa ps.length pc)) from hD)
            clear hv hd ho hM hD
            refine wpOp_step rfl fun K9 hK9 => ?_
            have HKK := (show Hid _ from hK9)
            clear hK9
            rw [e1]
            go_simp
            exact HKK.out _ _ ⟨by simp [hsz], VV, fun j => if j = 13 then VV 13 else t j, x, HVF.out, HLF.out, by simp [e1], HV.out.put 13 _ rfl, fun q => (by rw [Rg.set_same (by omega)] at q; cases q), fun _ => ⟨w', _, HKP.out, rfl⟩⟩
          · obtain rfl : _ = op := Option.some.inj (show some _ = some op from ho)
            have nl : l.getD 14 false = false := by
              cases q : l.getD 14 false
              · rfl
              · rw [q] at hnl; cases hnl
            have e3 : t 3 = .int .i64 Q2 := (hv 3 (hd { on := 3, ground := .data } (by simp) rfl)).trans HVF.out.2.2.2.1
            have HV := (show Hid (Rg.Vals l VV t) from hv)
            have HM := (show Hid (l.getD 13 false = false → ∃ p, (l.getD 10 false = false → p ≤ 10000) ∧ PkM w w' b a len' cap z p X BS S (.slice pa ps.length pc) ps (.slice va es.length vc) es) from hM)
            have HD := (show Hid (l.getD 13 false = true → ∃ W p, PkM w W b a len' cap z p X BS S (.slice pa ps.length pc) ps (.slice va es.length vc) es ∧ w' = (W.setCell ⟨w.heap.size, 0, none⟩ (.string S)).setCell ⟨w.heap.size, 1, none⟩ (.slice pa ps.length pc)) from hD)
            clear hv hd ho hM hD
            refine wpOp_step rfl fun K9 hK9 => ?_
            have HKK := (show Hid _ from hK9)
            clear hK9
            rw [e3]
            go_simp
            exact HKK.out _ _ ⟨by simp [hsz], VV, fun j => if j = 14 then (.int .i64 Q2 : Value) else t j, x, HVF.out, HLF.out, by simp [e3], HV.out.put 14 _ HVF.out.2.2.2.2.2.2.2.2.2.2.2.1.symm, by rw [getD_set_ne false (by decide : 14 ≠ 13), getD_set_ne false (by decide : 14 ≠ 10)]; exact HM.out, by rw [getD_set_ne false (by decide : 14 ≠ 13)]; exact HD.out⟩
          · obtain rfl : _ = op := Option.some.inj (show some _ = some op from ho)
            have nl : l.getD 15 false = false := by
              cases q : l.getD 15 false
              · rfl
              · rw [q] at hnl; cases hnl
            have e8 : t 8 = .string (T1.extract 0 K) := (hv 8 (hd { on := 8, ground := .data } (by simp) rfl)).trans HVF.out.2.2.2.2.2.2.2.2.1
            have HV := (show Hid (Rg.Vals l VV t) from hv)
            have HM := (show Hid (l.getD 13 false = false → ∃ p, (l.getD 10 false = false → p ≤ 10000) ∧ PkM w w' b a len' cap z p X BS S (.slice pa ps.length pc) ps (.slice va es.length vc) es) from hM)
            have HD := (show Hid (l.getD 13 false = true → ∃ W p, PkM w W b a len' cap z p X BS S (.slice pa ps.length pc) ps (.slice va es.length vc) es ∧ w' = (W.setCell ⟨w.heap.size, 0, none⟩ (.string S)).setCell ⟨w.heap.size, 1, none⟩ (.slice pa ps.length pc)) from hD)
            clear hv hd ho hM hD
            refine wpOp_step rfl fun K9 hK9 => ?_
            have HKK := (show Hid _ from hK9)
            clear hK9
            rw [e8]
            go_simp
            exact HKK.out _ _ ⟨by simp [hsz], VV, fun j => if j = 15 then (.string (T1.extract 0 K) : Value) else t j, x, HVF.out, HLF.out, by simp [e8], HV.out.put 15 _ HVF.out.2.2.2.2.2.2.2.2.2.2.2.2.symm, by rw [getD_set_ne false (by decide : 15 ≠ 13), getD_set_ne false (by decide : 15 ≠ 10)]; exact HM.out, by rw [getD_set_ne false (by decide : 15 ≠ 13)]; exact HD.out⟩
          · obtain rfl : _ = op := Option.some.inj (show some _ = some op from ho)
            have nl : l.getD 16 false = false := by
              cases q : l.getD 16 false
              · rfl
              · rw [q] at hnl; cases hnl
            have e11 : t 11 = .bool (x == 0) := (hv 11 (hd { on := 11, ground := .data } (by simp) rfl)).trans HLF.out.2.1
            have HV := (show Hid (Rg.Vals l VV t) from hv)
            have HM := (show Hid (l.getD 13 false = false → ∃ p, (l.getD 10 false = false → p ≤ 10000) ∧ PkM w w' b a len' cap z p X BS S (.slice pa ps.length pc) ps (.slice va es.length vc) es) from hM)
            have HD := (show Hid (l.getD 13 false = true → ∃ W p, PkM w W b a len' cap z p X BS S (.slice pa ps.length pc) ps (.slice va es.length vc) es ∧ w' = (W.setCell ⟨w.heap.size, 0, none⟩ (.string S)).setCell ⟨w.heap.size, 1, none⟩ (.slice pa ps.length pc)) from hD)
            clear hv hd ho hM hD
            refine wpOp_step rfl fun K9 hK9 => ?_
            have HKK := (show Hid _ from hK9)
            clear hK9
            rw [e11]
            go_simp
            exact HKK.out _ _ ⟨by simp [hsz], VV, fun j => if j = 16 then (.bool (x == 0) : Value) else t j, x, HVF.out, HLF.out, by simp [e11], HV.out.put 16 _ HLF.out.2.2.symm, by rw [getD_set_ne false (by decide : 16 ≠ 13), getD_set_ne false (by decide : 16 ≠ 10)]; exact HM.out, by rw [getD_set_ne false (by decide : 16 ≠ 13)]; exact HD.out⟩
        case fin =>
          rintro l a' w' ⟨hsz, VV, t, x, hvf, hlf, rfl, hv, -, hD⟩ hall
          have HVF := (show Hid (VV 0 = (.slice va es.length vc : Value) ∧ VV 1 = (.agg #[.string S, .slice pa ps.length pc] : Value) ∧ VV 2 = (.int .i64 Q1 : Value) ∧ VV 3 = (.int .i64 Q2 : Value) ∧ VV 4 = (.string T1 : Value) ∧ VV 5 = (.string T1 : Value) ∧ VV 6 = (.int .i64 (T1.size : Nat) : Value) ∧ VV 7 = (.int .i64 (K : Nat) : Value) ∧ VV 8 = (.string (T1.extract 0 K) : Value) ∧ VV 9 = (.pointer (some ⟨b, 0, none⟩) : Value) ∧ VV 12 = (.slice va es.length vc : Value) ∧ VV 14 = (.int .i64 Q2 : Value) ∧ VV 15 = (.string (T1.extract 0 K) : Value)) from hvf)
          obtain ⟨W, p, hk, rfl⟩ := hD (hall 13 (by simp))
          have e12 : t 12 = .slice va es.length vc := (hv 12 (hall 12 (by simp))).trans HVF.out.2.2.2.2.2.2.2.2.2.2.1
          have e14 : t 14 = .int .i64 Q2 := (hv 14 (hall 14 (by simp))).trans HVF.out.2.2.2.2.2.2.2.2.2.2.2.1
          have e15 : t 15 = .string (T1.extract 0 K) := (hv 15 (hall 15 (by simp))).trans HVF.out.2.2.2.2.2.2.2.2.2.2.2.2
          have e16 : t 16 = .bool (x == 0) := (hv 16 (hall 16 (by simp))).trans hlf.2.2
          obtain ⟨o9, ho9⟩ : ∃ o9, (x == 0) = o9 := ⟨_, rfl⟩
          rw [ho9] at e16
          rw [e12, e14, e15, e16]
          have HKP := (show Hid _ from hk)
          obtain ⟨r0, r1⟩ := set_two hk.1.r0 hk.1.r1 (.string S) (.slice pa ps.length pc)
          clear hv hall e12 e14 e15 e16 hvf hlf HVF hD hk ho9
          go_wp2
          refine bodyPost_ret (v := .tuple #[.slice va es.length vc, .agg #[.string S, .slice pa ps.length pc], .int .i64 Q2, .string (T1.extract 0 K), .bool o9]) (by simp [results, Tryz.results6, go_sem, r0, r1]; done) rfl ?_
          obtain ⟨i1, i2⟩ := HKP.out.1.fin (.string S) (.slice pa ps.length pc)
          refine ⟨_, es, S, _, ps, Q2, _, o9, rfl, HG.out, PkM.fin2 HKP.out _ _, i1, ⟨hS, hpl, HPB.out⟩, ⟨by omega, by omega⟩, ?_, i2⟩
          rw [← lenL, ext_to, List.length_take, List.length_drop]; omega
    · by_cases hc2 : k = 2
      · subst hc2
        go_wp2_with fail
        refine (HK4.out.pick (by omega) 3 (by omega)).mono ?_
        rintro e w5 ⟨a5, rfl, ha0, ha1, HK5, x0, x1, -, -, -⟩
        clear HK4 y0 y1
        have hwA : IntKind.i64.wrap ((S.size : Int) + a5) = (S.size : Int) + a5 := by simp [IntKind.wrap, IntKind.bits, IntKind.signed]; omega
        go_upto_region 14 with fail
        generalize hT1 : s0 = T1
        have hT1z : T1.size ≤ 60 := by rw [← hT1]; omega
        generalize hQ1 : (S.size : Int) + a5 = Q1
        have hq1 : 0 ≤ Q1 ∧ Q1 ≤ 50 := by omega
        clear hT1 hQ1
        obtain ⟨Q2, hQ2⟩ : ∃ Q2 : Int, min Q1 40 = Q2 := ⟨_, rfl⟩
        have hq2 : 0 ≤ Q2 ∧ Q2 ≤ 40 := by omega
        obtain ⟨K, hK⟩ : ∃ K : Nat, min T1.size 40 = K := ⟨_, rfl⟩
        have hmn : min (T1.size : Int) 40 = (K : Int) := by omega
        have hKT : (K : Int) ≤ (T1.size : Int) := by omega
        have hK40 : K ≤ 40 := by omega
        clear hK
        have hmix : Tryz.prog.follows .mixedOrders = true := by kernel_rfl
        refine wp_region_any hmix ?_
        refine Ri.any_inv (I := fun l a' w' => l.size = 17 ∧ ∃ (VV t : Nat → Value) (x : Int), (VV 0 = (.slice va es.length vc : Value) ∧ VV 1 = (.agg #[.string S, .slice pa ps.length pc] : Value) ∧ VV 2 = (.int .i64 Q1 : Value) ∧ VV 3 = (.int .i64 Q2 : Value) ∧ VV 4 = (.string T1 : Value) ∧ VV 5 = (.string T1 : Value) ∧ VV 6 = (.int .i64 (T1.size : Nat) : Value) ∧ VV 7 = (.int .i64 (K : Nat) : Value) ∧ VV 8 = (.string (T1.extract 0 K) : Value) ∧ VV 9 = (.pointer (some ⟨b, 0, none⟩) : Value) ∧ VV 12 = (.slice va es.length vc : Value) ∧ VV 14 = (.int .i64 Q2 : Value) ∧ VV 15 = (.string (T1.extract 0 K) : Value)) ∧ (VV 10 = (.int .i64 x : Value) ∧ VV 11 = (.bool (x == 0) : Value) ∧ VV 16 = (.bool (x == 0) : Value)) ∧ a' = { tmps := #[(Value.slice a len cap : Value), undef, t 12, Value.pointer (some { block := w.heap.size, off := 0 }), t 14, t 15, t 16, Value.pointer (some { block := b, off := 0 }), Value.slice va es.length vc, Value.pointer (some { block := X, off := 0 }), Value.int IntKind.i64 Q1, Value.string T1, Value.slice a len cap, Value.pointer (some { block := b, off := 0 }), Value.tuple #[Value.slice va es.length vc, Value.agg #[Value.string S, Value.slice pa ps.length pc]], Value.pointer (some { block := b, off := 0 }), Value.tuple #[Value.slice va es.length vc, Value.agg #[Value.string S, Value.slice pa ps.length pc]], Value.slice va es.length vc, Value.agg #[Value.string S, Value.slice pa ps.length pc], Value.pointer (some { block := X, off := 0 }), Value.string S, Value.int IntKind.i64 ↑S.size, Value.pointer (some { block := b, off := 0 }), Value.string T1, Value.pointer (some { block := b, off := 0 }), Value.int IntKind.i64 2, Value.bool false, Value.bool false, undef, undef, undef, undef, undef, undef, undef, undef, undef, undef, undef, undef, Value.bool false, Value.bool false, undef, undef, undef, undef, undef, undef, undef, undef, undef, undef, undef, undef, undef, undef, undef, undef, undef, undef, undef, undef, Value.bool true, Value.bool true, Value.int IntKind.i64 ↑S.size, Value.pointer (some { block := b, off := 0 }), Value.int IntKind.i64 a5, Value.int IntKind.i64 Q1, t 0, t 1, t 2, t 3, t 4, t 5, t 6, t 7, t 8, t 9, t 10, t 11], defers := [] } ∧ Rg.Vals l VV t ∧ (l.getD 13 false = false → ∃ p, (l.getD 10 false = false → p ≤ 10000) ∧ PkM w w' b a len' cap z p X BS S (.slice pa ps.length pc) ps (.slice va es.length vc) es) ∧ (l.getD 13 false = true → ∃ W p, PkM w W b a len' cap z p X BS S (.slice pa ps.length pc) ps (.slice va es.length vc) es ∧ w' = (W.setCell ⟨w.heap.size, 0, none⟩ (.string S)).setCell ⟨w.heap.size, 1, none⟩ (.slice pa ps.length pc))) ?sz ?low ?step ?fin _ _ _ _ ?start (Ri.closed_none _ _ _) (Rg.left_all _)
        case sz => exact fun l a' w' h => h.1
        case start =>
          exact ⟨by simp, fun j => [(.slice va es.length vc : Value), (.agg #[.string S, .slice pa ps.length pc] : Value), (.int .i64 Q1 : Value), (.int .i64 Q2 : Value), (.string T1 : Value), (.string T1 : Value), (.int .i64 (T1.size : Nat) : Value), (.int .i64 (K : Nat) : Value), (.string (T1.extract 0 K) : Value), (.pointer (some ⟨b, 0, none⟩) : Value), (.int .i64 0 : Value), (.bool ((0 : Int) == 0) : Value), (.slice va es.length vc : Value), undef, (.int .i64 Q2 : Value), (.string (T1.extract 0 K) : Value), (.bool ((0 : Int) == 0) : Value)].getD j undef, fun j => [(undef : Value), (undef : Value), (undef : Value), (undef : Value), (undef : Value), (undef : Value), (undef : Value), (undef : Value), (undef : Value), (undef : Value), (undef : Value), (undef : Value), (Value.slice none 0 0 : Value), (undef : Value), (Value.int IntKind.i64 0 : Value), (Value.string { data := #[] } : Value), (Value.bool false : Value)].getD j undef, 0, ⟨rfl, rfl, rfl, rfl, rfl, rfl, rfl, rfl, rfl, rfl, rfl, rfl, rfl⟩, ⟨rfl, rfl, rfl⟩, rfl, Rg.vals_none _ _ _, fun _ => ⟨_, fun _ => (by omega), ⟨Pk.drew HK5.out.1, HK5.out.2.drew⟩⟩, fun q => absurd q (by rw [Rg.rep_none]; decide)⟩
        case low => exact Ri.low_of (by kernel_rfl)
        case step =>
          rintro l a' w' i ⟨hsz, VV, t, x, hvf, hlf, rfl, hv, hM, hD⟩ hcl hi
          obtain ⟨h0, op, ho, hd⟩ := mem_ready.1 hi
          have hin : i < 17 := (Array.getElem?_eq_some_iff.1 ho).1
          have hnl := Rg.not_listed h0
          have u1 : l.getD 13 false = true → l.getD 1 false = true := Ri.reach_sound hcl 10 13 1 (by kernel_rfl)
          have u10 : l.getD 13 false = true → l.getD 10 false = true := Ri.reach_sound hcl 10 13 10 (by kernel_rfl)
          have u11 : l.getD 11 false = true → l.getD 10 false = true := Ri.reach_sound hcl 10 11 10 (by kernel_rfl)
          have u16 : l.getD 16 false = true → l.getD 10 false = true := Ri.reach_sound hcl 10 16 10 (by kernel_rfl)
          have HVF := (show Hid (VV 0 = (.slice va es.length vc : Value) ∧ VV 1 = (.agg #[.string S, .slice pa ps.length pc] : Value) ∧ VV 2 = (.int .i64 Q1 : Value) ∧ VV 3 = (.int .i64 Q2 : Value) ∧ VV 4 = (.string T1 : Value) ∧ VV 5 = (.string T1 : Value) ∧ VV 6 = (.int .i64 (T1.size : Nat) : Value) ∧ VV 7 = (.int .i64 (K : Nat) : Value) ∧ VV 8 = (.string (T1.extract 0 K) : Value) ∧ VV 9 = (.pointer (some ⟨b, 0, none⟩) : Value) ∧ VV 12 = (.slice va es.length vc : Value) ∧ VV 14 = (.int .i64 Q2 : Value) ∧ VV 15 = (.string (T1.extract 0 K) : Value)) from hvf)
          have HLF := (show Hid (VV 10 = (.int .i64 x : Value) ∧ VV 11 = (.bool (x == 0) : Value) ∧ VV 16 = (.bool (x == 0) : Value)) from hlf)
          clear h0 hi hcl hvf hlf
          have hc : i = 0 ∨ i = 1 ∨ i = 2 ∨ i = 3 ∨ i = 4 ∨ i = 5 ∨ i = 6 ∨ i = 7 ∨ i = 8 ∨ i = 9 ∨ i = 10 ∨ i = 11 ∨ i = 12 ∨ i = 13 ∨ i = 14 ∨ i = 15 ∨ i = 16 := by omega
          rcases hc with rfl | rfl | rfl | rfl | rfl | rfl | rfl | rfl | rfl | rfl | rfl | rfl | rfl | rfl | rfl | rfl | rfl
          · obtain rfl : _ = op := Option.some.inj (show some _ = some op from ho)
            have nl : l.getD 0 false = false := by
              cases q : l.getD 0 false
              · rfl
              · rw [q] at hnl; cases hnl
            have HV := (show Hid (Rg.Vals l VV t) from hv)
            have HM := (show Hid (l.getD 13 false = false → ∃ p, (l.getD 10 false = false → p ≤ 10000) ∧ PkM w w' b a len' cap z p X BS S (.slice pa ps.length pc) ps (.slice va es.length vc) es) from hM)
            have HD := (show Hid (l.getD 13 false = true → ∃ W p, PkM w W b a len' cap z p X BS S (.slice pa ps.length pc) ps (.slice va es.length vc) es ∧ w' = (W.setCell ⟨w.heap.size, 0, none⟩ (.string S)).setCell ⟨w.heap.size, 1, none⟩ (.slice pa ps.length pc)) from hD)
            clear hv hd ho hM hD
            refine wpOp_step rfl fun K9 hK9 => ?_
            have HKK := (show Hid _ from hK9)
            clear hK9
            go_simp
            exact HKK.out _ _ ⟨by simp [hsz], VV, fun j => if j = 0 then (.slice va es.length vc : Value) else t j, x, HVF.out, HLF.out, by simp, HV.out.put 0 _ HVF.out.1.symm, by rw [getD_set_ne false (by decide : 0 ≠ 13), getD_set_ne false (by decide : 0 ≠ 10)]; exact HM.out, by rw [getD_set_ne false (by decide : 0 ≠ 13)]; exact HD.out⟩
          · obtain rfl : _ = op := Option.some.inj (show some _ = some op from ho)
            have nl : l.getD 1 false = false := by
              cases q : l.getD 1 false
              · rfl
              · rw [q] at hnl; cases hnl
            have n13 : l.getD 13 false = false := by
              cases q : l.getD 13 false
              · rfl
              · rw [u1 q] at nl; cases nl
            obtain ⟨p, hp, hk⟩ := hM n13
            have y0 := hk.1.x0
            have y1 := hk.1.x1
            have HKP := (show Hid _ from hk)
            clear hk
            have HV := (show Hid (Rg.Vals l VV t) from hv)
            have HM := (show Hid (l.getD 13 false = false → ∃ p, (l.getD 10 false = false → p ≤ 10000) ∧ PkM w w' b a len' cap z p X BS S (.slice pa ps.length pc) ps (.slice va es.length vc) es) from hM)
            have HD := (show Hid (l.getD 13 false = true → ∃ W p, PkM w W b a len' cap z p X BS S (.slice pa ps.length pc) ps (.slice va es.length vc) es ∧ w' = (W.setCell ⟨w.heap.size, 0, none⟩ (.string S)).setCell ⟨w.heap.size, 1, none⟩ (.slice pa ps.length pc)) from hD)
            clear hv hd ho hM hD
            refine wpOp_step rfl fun K9 hK9 => ?_
            have HKK := (show Hid _ from hK9)
            clear hK9
            go_simp
            exact HKK.out _ _ ⟨by simp [hsz], VV, fun j => if j = 1 then (.agg #[.string S, .slice pa ps.length pc] : Value) else t j, x, HVF.out, HLF.out, by simp, HV.out.put 1 _ HVF.out.2.1.symm, by rw [getD_set_ne false (by decide : 1 ≠ 13), getD_set_ne false (by decide : 1 ≠ 10)]; exact HM.out, by rw [getD_set_ne false (by decide : 1 ≠ 13)]; exact HD.out⟩
          · obtain rfl : _ = op := Option.some.inj (show some _ = some op from ho)
            have nl : l.getD 2 false = false := by
              cases q : l.getD 2 false
              · rfl
              · rw [q] at hnl; cases hnl
            have HV := (show Hid (Rg.Vals l VV t) from hv)
            have HM := (show Hid (l.getD 13 false = false → ∃ p, (l.getD 10 false = false → p ≤ 10000) ∧ PkM w w' b a len' cap z p X BS S (.slice pa ps.length pc) ps (.slice va es.length vc) es) from hM)
            have HD := (show Hid (l.getD 13 false = true → ∃ W p, PkM w W b a len' cap z p X BS S (.slice pa ps.length pc) ps (.slice va es.length vc) es ∧ w' = (W.setCell ⟨w.heap.size, 0, none⟩ (.string S)).setCell ⟨w.heap.size, 1, none⟩ (.slice pa ps.length pc)) from hD)
            clear hv hd ho hM hD
            refine wpOp_step rfl fun K9 hK9 => ?_
            have HKK := (show Hid _ from hK9)
            clear hK9
            go_simp
            exact HKK.out _ _ ⟨by simp [hsz], VV, fun j => if j = 2 then (.int .i64 Q1 : Value) else t j, x, HVF.out, HLF.out, by simp, HV.out.put 2 _ HVF.out.2.2.1.symm, by rw [getD_set_ne false (by decide : 2 ≠ 13), getD_set_ne false (by decide : 2 ≠ 10)]; exact HM.out, by rw [getD_set_ne false (by decide : 2 ≠ 13)]; exact HD.out⟩
          · obtain rfl : _ = op := Option.some.inj (show some _ = some op from ho)
            have nl : l.getD 3 false = false := by
              cases q : l.getD 3 false
              · rfl
              · rw [q] at hnl; cases hnl
            have e2 : t 2 = .int .i64 Q1 := (hv 2 (hd { on := 2, ground := .data } (by simp) rfl)).trans HVF.out.2.2.1
            have HV := (show Hid (Rg.Vals l VV t) from hv)
            have HM := (show Hid (l.getD 13 false = false → ∃ p, (l.getD 10 false = false → p ≤ 10000) ∧ PkM w w' b a len' cap z p X BS S (.slice pa ps.length pc) ps (.slice va es.length vc) es) from hM)
            have HD := (show Hid (l.getD 13 false = true → ∃ W p, PkM w W b a len' cap z p X BS S (.slice pa ps.length pc) ps (.slice va es.length vc) es ∧ w' = (W.setCell ⟨w.heap.size, 0, none⟩ (.string S)).setCell ⟨w.heap.size, 1, none⟩ (.slice pa ps.length pc)) from hD)
            clear hv hd ho hM hD
            refine wpOp_step rfl fun K9 hK9 => ?_
            have HKK := (show Hid _ from hK9)
            clear hK9
            rw [e2]
            go_simp
            exact HKK.out _ _ ⟨by simp [hsz], VV, fun j => if j = 3 then (.int .i64 Q2 : Value) else t j, x, HVF.out, HLF.out, by simp [e2], HV.out.put 3 _ HVF.out.2.2.2.1.symm, by rw [getD_set_ne false (by decide : 3 ≠ 13), getD_set_ne false (by decide : 3 ≠ 10)]; exact HM.out, by rw [getD_set_ne false (by decide : 3 ≠ 13)]; exact HD.out⟩
          · obtain rfl : _ = op := Option.some.inj (show some _ = some op from ho)
            have nl : l.getD 4 false = false := by
              cases q : l.getD 4 false
              · rfl
              · rw [q] at hnl; cases hnl
            have HV := (show Hid (Rg.Vals l VV t) from hv)
            have HM := (show Hid (l.getD 13 false = false → ∃ p, (l.getD 10 false = false → p ≤ 10000) ∧ PkM w w' b a len' cap z p X BS S (.slice pa ps.length pc) ps (.slice va es.length vc) es) from hM)
            have HD := (show Hid (l.getD 13 false = true → ∃ W p, PkM w W b a len' cap z p X BS S (.slice pa ps.length pc) ps (.slice va es.length vc) es ∧ w' = (W.setCell ⟨w.heap.size, 0, none⟩ (.string S)).setCell ⟨w.heap.size, 1, none⟩ (.slice pa ps.length pc)) from hD)
            clear hv hd ho hM hD
            refine wpOp_step rfl fun K9 hK9 => ?_
            have HKK := (show Hid _ from hK9)
            clear hK9
            go_simp
            exact HKK.out _ _ ⟨by simp [hsz], VV, fun j => if j = 4 then (.string T1 : Value) else t j, x, HVF.out, HLF.out, by simp, HV.out.put 4 _ HVF.out.2.2.2.2.1.symm, by rw [getD_set_ne false (by decide : 4 ≠ 13), getD_set_ne false (by decide : 4 ≠ 10)]; exact HM.out, by rw [getD_set_ne false (by decide : 4 ≠ 13)]; exact HD.out⟩
          · obtain rfl : _ = op := Option.some.inj (show some _ = some op from ho)
            have nl : l.getD 5 false = false := by
              cases q : l.getD 5 false
              · rfl
              · rw [q] at hnl; cases hnl
            have HV := (show Hid (Rg.Vals l VV t) from hv)
            have HM := (show Hid (l.getD 13 false = false → ∃ p, (l.getD 10 false = false → p ≤ 10000) ∧ PkM w w' b a len' cap z p X BS S (.slice pa ps.length pc) ps (.slice va es.length vc) es) from hM)
            have HD := (show Hid (l.getD 13 false = true → ∃ W p, PkM w W b a len' cap z p X BS S (.slice pa ps.length pc) ps (.slice va es.length vc) es ∧ w' = (W.setCell ⟨w.heap.size, 0, none⟩ (.string S)).setCell ⟨w.heap.size, 1, none⟩ (.slice pa ps.length pc)) from hD)
            clear hv hd ho hM hD
            refine wpOp_step rfl fun K9 hK9 => ?_
            have HKK := (show Hid _ from hK9)
            clear hK9
            go_simp
            exact HKK.out _ _ ⟨by simp [hsz], VV, fun j => if j = 5 then (.string T1 : Value) else t j, x, HVF.out, HLF.out, by simp, HV.out.put 5 _ HVF.out.2.2.2.2.2.1.symm, by rw [getD_set_ne false (by decide : 5 ≠ 13), getD_set_ne false (by decide : 5 ≠ 10)]; exact HM.out, by rw [getD_set_ne false (by decide : 5 ≠ 13)]; exact HD.out⟩
          · obtain rfl : _ = op := Option.some.inj (show some _ = some op from ho)
            have nl : l.getD 6 false = false := by
              cases q : l.getD 6 false
              · rfl
              · rw [q] at hnl; cases hnl
            have e5 : t 5 = .string T1 := (hv 5 (hd { on := 5, ground := .data } (by simp) rfl)).trans HVF.out.2.2.2.2.2.1
            have HV := (show Hid (Rg.Vals l VV t) from hv)
            have HM := (show Hid (l.getD 13 false = false → ∃ p, (l.getD 10 false = false → p ≤ 10000) ∧ PkM w w' b a len' cap z p X BS S (.slice pa ps.length pc) ps (.slice va es.length vc) es) from hM)
            have HD := (show Hid (l.getD 13 false = true → ∃ W p, PkM w W b a len' cap z p X BS S (.slice pa ps.length pc) ps (.slice va es.length vc) es ∧ w' = (W.setCell ⟨w.heap.size, 0, none⟩ (.string S)).setCell ⟨w.heap.size, 1, none⟩ (.slice pa ps.length pc)) from hD)
            clear hv hd ho hM hD
            refine wpOp_step rfl fun K9 hK9 => ?_
            have HKK := (show Hid _ from hK9)
            clear hK9
            rw [e5]
            go_simp
            exact HKK.out _ _ ⟨by simp [hsz], VV, fun j => if j = 6 then (.int .i64 (T1.size : Nat) : Value) else t j, x, HVF.out, HLF.out, by simp [e5], HV.out.put 6 _ HVF.out.2.2.2.2.2.2.1.symm, by rw [getD_set_ne false (by decide : 6 ≠ 13), getD_set_ne false (by decide : 6 ≠ 10)]; exact HM.out, by rw [getD_set_ne false (by decide : 6 ≠ 13)]; exact HD.out⟩
          · obtain rfl : _ = op := Option.some.inj (show some _ = some op from ho)
            have nl : l.getD 7 false = false := by
              cases q : l.getD 7 false
              · rfl
              · rw [q] at hnl; cases hnl
            have e6 : t 6 = .int .i64 (T1.size : Nat) := (hv 6 (hd { on := 6, ground := .data } (by simp) rfl)).trans HVF.out.2.2.2.2.2.2.1
            have HV := (show Hid (Rg.Vals l VV t) from hv)
            have HM := (show Hid (l.getD 13 false = false → ∃ p, (l.getD 10 false = false → p ≤ 10000) ∧ PkM w w' b a len' cap z p X BS S (.slice pa ps.length pc) ps (.slice va es.length vc) es) from hM)
            have HD := (show Hid (l.getD 13 false = true → ∃ W p, PkM w W b a len' cap z p X BS S (.slice pa ps.length pc) ps (.slice va es.length vc) es ∧ w' = (W.setCell ⟨w.heap.size, 0, none⟩ (.string S)).setCell ⟨w.heap.size, 1, none⟩ (.slice pa ps.length pc)) from hD)
            clear hv hd ho hM hD
            refine wpOp_step rfl fun K9 hK9 => ?_
            have HKK := (show Hid _ from hK9)
            clear hK9
            rw [e6]
            go_simp
            exact HKK.out _ _ ⟨by simp [hsz], VV, fun j => if j = 7 then (.int .i64 (K : Nat) : Value) else t j, x, HVF.out, HLF.out, by simp [e6], HV.out.put 7 _ HVF.out.2.2.2.2.2.2.2.1.symm, by rw [getD_set_ne false (by decide : 7 ≠ 13), getD_set_ne false (by decide : 7 ≠ 10)]; exact HM.out, by rw [getD_set_ne false (by decide : 7 ≠ 13)]; exact HD.out⟩
          · obtain rfl : _ = op := Option.some.inj (show some _ = some op from ho)
            have nl : l.getD 8 false = false := by
              cases q : l.getD 8 false
              · rfl
              · rw [q] at hnl; cases hnl
            have e4 : t 4 = .string T1 := (hv 4 (hd { on := 4, ground := .data } (by simp) rfl)).trans HVF.out.2.2.2.2.1
            have e7 : t 7 = .int .i64 (K : Nat) := (hv 7 (hd { on := 7, ground := .data } (by simp) rfl)).trans HVF.out.2.2.2.2.2.2.2.1
            have HV := (show Hid (Rg.Vals l VV t) from hv)
            have HM := (show Hid (l.getD 13 false = false → ∃ p, (l.getD 10 false = false → p ≤ 10000) ∧ PkM w w' b a len' cap z p X BS S (.slice pa ps.length pc) ps (.slice va es.length vc) es) from hM)
            have HD := (show Hid (l.getD 13 false = true → ∃ W p, PkM w W b a len' cap z p X BS S (.slice pa ps.length pc) ps (.slice va es.length vc) es ∧ w' = (W.setCell ⟨w.heap.size, 0, none⟩ (.string S)).setCell ⟨w.heap.size, 1, none⟩ (.slice pa ps.length pc)) from hD)
            clear hv hd ho hM hD
            refine wpOp_step rfl fun K9 hK9 => ?_
            have HKK := (show Hid _ from hK9)
            clear hK9
            rw [e4, e7]
            go_simp
            exact HKK.out _ _ ⟨by simp [hsz], VV, fun j => if j = 8 then (.string (T1.extract 0 K) : Value) else t j, x, HVF.out, HLF.out, by simp [e4, e7], HV.out.put 8 _ HVF.out.2.2.2.2.2.2.2.2.1.symm, by rw [getD_set_ne false (by decide : 8 ≠ 13), getD_set_ne false (by decide : 8 ≠ 10)]; exact HM.out, by rw [getD_set_ne false (by decide : 8 ≠ 13)]; exact HD.out⟩
          · obtain rfl : _ = op := Option.some.inj (show some _ = some op from ho)
            have nl : l.getD 9 false = false := by
              cases q : l.getD 9 false
              · rfl
              · rw [q] at hnl; cases hnl
            have HV := (show Hid (Rg.Vals l VV t) from hv)
            have HM := (show Hid (l.getD 13 false = false → ∃ p, (l.getD 10 false = false → p ≤ 10000) ∧ PkM w w' b a len' cap z p X BS S (.slice pa ps.length pc) ps (.slice va es.length vc) es) from hM)
            have HD := (show Hid (l.getD 13 false = true → ∃ W p, PkM w W b a len' cap z p X BS S (.slice pa ps.length pc) ps (.slice va es.length vc) es ∧ w' = (W.setCell ⟨w.heap.size, 0, none⟩ (.string S)).setCell ⟨w.heap.size, 1, none⟩ (.slice pa ps.length pc)) from hD)
            clear hv hd ho hM hD
            refine wpOp_step rfl fun K9 hK9 => ?_
            have HKK := (show Hid _ from hK9)
            clear hK9
            go_simp
            exact HKK.out _ _ ⟨by simp [hsz], VV, fun j => if j = 9 then (.pointer (some ⟨b, 0, none⟩) : Value) else t j, x, HVF.out, HLF.out, by simp, HV.out.put 9 _ HVF.out.2.2.2.2.2.2.2.2.2.1.symm, by rw [getD_set_ne false (by decide : 9 ≠ 13), getD_set_ne false (by decide : 9 ≠ 10)]; exact HM.out, by rw [getD_set_ne false (by decide : 9 ≠ 13)]; exact HD.out⟩
          · obtain rfl : _ = op := Option.some.inj (show some _ = some op from ho)
            have nl : l.getD 10 false = false := by
              cases q : l.getD 10 false
              · rfl
              · rw [q] at hnl; cases hnl
            have n13 : l.getD 13 false = false := by
              cases q : l.getD 13 false
              · rfl
              · rw [u10 q] at nl; cases nl
            have e9 : t 9 = .pointer (some ⟨b, 0, none⟩) := (hv 9 (hd { on := 9, ground := .data } (by simp) rfl)).trans HVF.out.2.2.2.2.2.2.2.2.2.1
            obtain ⟨p, hp, hk⟩ := hM n13
            have y0 := hk.1.x0
            have y1 := hk.1.x1
            have HKP := (show Hid _ from hk)
            clear hk
            have HV := (show Hid (Rg.Vals l VV t) from hv)
            have HM := (show Hid (l.getD 13 false = false → ∃ p, (l.getD 10 false = false → p ≤ 10000) ∧ PkM w w' b a len' cap z p X BS S (.slice pa ps.length pc) ps (.slice va es.length vc) es) from hM)
            have HD := (show Hid (l.getD 13 false = true → ∃ W p, PkM w W b a len' cap z p X BS S (.slice pa ps.length pc) ps (.slice va es.length vc) es ∧ w' = (W.setCell ⟨w.heap.size, 0, none⟩ (.string S)).setCell ⟨w.heap.size, 1, none⟩ (.slice pa ps.length pc)) from hD)
            clear hv hd ho hM hD
            refine wpOp_step rfl fun K9 hK9 => ?_
            have HKK := (show Hid _ from hK9)
            clear hK9
            rw [e9]
            go_simp
            refine (PkM.pick HKP.out (by have := hp nl; omega) _ (by omega)).mono ?_
            rintro e w9 ⟨x9, rfl, h90, h91, hk9, -, -, -, -, -⟩
            exact HKK.out _ _ ⟨by simp [hsz], fun j => if j = 10 then .int .i64 x9 else if j = 11 then .bool (x9 == 0) else if j = 16 then .bool (x9 == 0) else VV j, fun j => if j = 10 then .int .i64 x9 else t j, x9, by simpa using HVF.out, by simp, by simp [e9], vals_pick HV.out (fun q => (by rw [u11 q] at nl; cases nl)) (fun q => (by rw [u16 q] at nl; cases nl)) _ _, fun _ => ⟨_, fun q => (by rw [Rg.set_same (by omega)] at q; cases q), hk9.out⟩, fun q => (by rw [getD_set_ne false (by decide : 10 ≠ 13), n13] at q; cases q)⟩
          · obtain rfl : _ = op := Option.some.inj (show some _ = some op from ho)
            have nl : l.getD 11 false = false := by
              cases q : l.getD 11 false
              · rfl
              · rw [q] at hnl; cases hnl
            have e10 : t 10 = .int .i64 x := (hv 10 (hd { on := 10, ground := .data } (by simp) rfl)).trans HLF.out.1
            have HV := (show Hid (Rg.Vals l VV t) from hv)
            have HM := (show Hid (l.getD 13 false = false → ∃ p, (l.getD 10 false = false → p ≤ 10000) ∧ PkM w w' b a len' cap z p X BS S (.slice pa ps.length pc) ps (.slice va es.length vc) es) from hM)
            have HD := (show Hid (l.getD 13 false = true → ∃ W p, PkM w W b a len' cap z p X BS S (.slice pa ps.length pc) ps (.slice va es.length vc) es ∧ w' = (W.setCell ⟨w.heap.size, 0, none⟩ (.string S)).setCell ⟨w.heap.size, 1, none⟩ (.slice pa ps.length pc)) from hD)
            clear hv hd ho hM hD
            refine wpOp_step rfl fun K9 hK9 => ?_
            have HKK := (show Hid _ from hK9)
            clear hK9
            rw [e10]
            go_simp
            exact HKK.out _ _ ⟨by simp [hsz], VV, fun j => if j = 11 then (.bool (x == 0) : Value) else t j, x, HVF.out, HLF.out, by simp [e10], HV.out.put 11 _ HLF.out.2.1.symm, by rw [getD_set_ne false (by decide : 11 ≠ 13), getD_set_ne false (by decide : 11 ≠ 10)]; exact HM.out, by rw [getD_set_ne false (by decide : 11 ≠ 13)]; exact HD.out⟩
          · obtain rfl : _ = op := Option.some.inj (show some _ = some op from ho)
            have nl : l.getD 12 false = false := by
              cases q : l.getD 12 false
              · rfl
              · rw [q] at hnl; cases hnl
            have e0 : t 0 = .slice va es.length vc := (hv 0 (hd { on := 0, ground := .data } (by simp) rfl)).trans HVF.out.1
            have HV := (show Hid (Rg.Vals l VV t) from hv)
            have HM := (show Hid (l.getD 13 false = false → ∃ p, (l.getD 10 false = false → p ≤ 10000) ∧ PkM w w' b a len' cap z p X BS S (.slice pa ps.length pc) ps (.slice va es.length vc) es) from hM)
            have HD := (show Hid (l.getD 13 false = true → ∃ W p, PkM w W b a len' cap z p X BS S (.slice pa ps.length pc) ps (.slice va es.length vc) es ∧ w' = (W.setCell ⟨w.heap.size, 0, none⟩ (.string S)).setCell ⟨w.heap.size, 1, none⟩ (.slice pa ps.length pc)) from hD)
            clear hv hd ho hM hD
            refine wpOp_step rfl fun K9 hK9 => ?_
            have HKK := (show Hid _ from hK9)
            clear hK9
            rw [e0]
            go_simp
            exact HKK.out _ _ ⟨by simp [hsz], VV, fun j => if j = 12 then (.slice va es.length vc : Value) else t j, x, HVF.out, HLF.out, by simp [e0], HV.out.put 12 _ HVF.out.2.2.2.2.2.2.2.2.2.2.1.symm, by rw [getD_set_ne false (by decide : 12 ≠ 13), getD_set_ne false (by decide : 12 ≠ 10)]; exact HM.out, by rw [getD_set_ne false (by decide : 12 ≠ 13)]; exact HD.out⟩
          · obtain rfl : _ = op := Option.some.inj (show some _ = some op from ho)
            have nl : l.getD 13 false = false := by
              cases q : l.getD 13 false
              · rfl
              · rw [q] at hnl; cases hnl
            have e1 : t 1 = .agg #[.string S, .slice pa ps.length pc] := (hv 1 (hd { on := 1, ground := .data } (by simp) rfl)).trans HVF.out.2.1
            obtain ⟨p, hp, hk⟩ := hM nl
            have y0 := hk.1.r0
            have y1 := hk.1.r1
            have yf := hk.1.rf
            have HKP := (show Hid _ from hk)
            clear hk
            have HV := (show Hid (Rg.Vals l VV t) from hv)
            have HM := (show Hid (l.getD 13 false = false → ∃ p, (l.getD 10 false = false → p ≤ 10000) ∧ PkM w w' b a len' cap z p X BS S (.slice pa ps.length pc) ps (.slice va es.length vc) es) from hM)
            have HD := (show Hid (l.getD 13 false = true → ∃ W p, PkM w W b a len' cap z p X BS S (.slice pa ps.length pc) ps (.slice va es.length vc) es ∧ w' = (W.setCell ⟨w.heap.size, 0, none⟩ (.string S)).setCell ⟨w.heap.size, 1, none⟩ (.slice pa ps.length pc)) from hD)
            clear hv hd ho hM hD
            refine wpOp_step rfl fun K9 hK9 => ?_
            have HKK := (show Hid _ from hK9)
            clear hK9
            rw [e1]
            go_simp
            exact HKK.out _ _ ⟨by simp [hsz], VV, fun j => if j = 13 then VV 13 else t j, x, HVF.out, HLF.out, by simp [e1], HV.out.put 13 _ rfl, fun q => (by rw [Rg.set_same (by omega)] at q; cases q), fun _ => ⟨w', _, HKP.out, rfl⟩⟩
          · obtain rfl : _ = op := Option.some.inj (show some _ = some op from ho)
            have nl : l.getD 14 false = false := by
              cases q : l.getD 14 false
              · rfl
              · rw [q] at hnl; cases hnl
            have e3 : t 3 = .int .i64 Q2 := (hv 3 (hd { on := 3, ground := .data } (by simp) rfl)).trans HVF.out.2.2.2.1
            have HV := (show Hid (Rg.Vals l VV t) from hv)
            have HM := (show Hid (l.getD 13 false = false → ∃ p, (l.getD 10 false = false → p ≤ 10000) ∧ PkM w w' b a len' cap z p X BS S (.slice pa ps.length pc) ps (.slice va es.length vc) es) from hM)
            have HD := (show Hid (l.getD 13 false = true → ∃ W p, PkM w W b a len' cap z p X BS S (.slice pa ps.length pc) ps (.slice va es.length vc) es ∧ w' = (W.setCell ⟨w.heap.size, 0, none⟩ (.string S)).setCell ⟨w.heap.size, 1, none⟩ (.slice pa ps.length pc)) from hD)
            clear hv hd ho hM hD
            refine wpOp_step rfl fun K9 hK9 => ?_
            have HKK := (show Hid _ from hK9)
            clear hK9
            rw [e3]
            go_simp
            exact HKK.out _ _ ⟨by simp [hsz], VV, fun j => if j = 14 then (.int .i64 Q2 : Value) else t j, x, HVF.out, HLF.out, by simp [e3], HV.out.put 14 _ HVF.out.2.2.2.2.2.2.2.2.2.2.2.1.symm, by rw [getD_set_ne false (by decide : 14 ≠ 13), getD_set_ne false (by decide : 14 ≠ 10)]; exact HM.out, by rw [getD_set_ne false (by decide : 14 ≠ 13)]; exact HD.out⟩
          · obtain rfl : _ = op := Option.some.inj (show some _ = some op from ho)
            have nl : l.getD 15 false = false := by
              cases q : l.getD 15 false
              · rfl
              · rw [q] at hnl; cases hnl
            have e8 : t 8 = .string (T1.extract 0 K) := (hv 8 (hd { on := 8, ground := .data } (by simp) rfl)).trans HVF.out.2.2.2.2.2.2.2.2.1
            have HV := (show Hid (Rg.Vals l VV t) from hv)
            have HM := (show Hid (l.getD 13 false = false → ∃ p, (l.getD 10 false = false → p ≤ 10000) ∧ PkM w w' b a len' cap z p X BS S (.slice pa ps.length pc) ps (.slice va es.length vc) es) from hM)
            have HD := (show Hid (l.getD 13 false = true → ∃ W p, PkM w W b a len' cap z p X BS S (.slice pa ps.length pc) ps (.slice va es.length vc) es ∧ w' = (W.setCell ⟨w.heap.size, 0, none⟩ (.string S)).setCell ⟨w.heap.size, 1, none⟩ (.slice pa ps.length pc)) from hD)
            clear hv hd ho hM hD
            refine wpOp_step rfl fun K9 hK9 => ?_
            have HKK := (show Hid _ from hK9)
            clear hK9
            rw [e8]
            go_simp
            exact HKK.out _ _ ⟨by simp [hsz], VV, fun j => if j = 15 then (.string (T1.extract 0 K) : Value) else t j, x, HVF.out, HLF.out, by simp [e8], HV.out.put 15 _ HVF.out.2.2.2.2.2.2.2.2.2.2.2.2.symm, by rw [getD_set_ne false (by decide : 15 ≠ 13), getD_set_ne false (by decide : 15 ≠ 10)]; exact HM.out, by rw [getD_set_ne false (by decide : 15 ≠ 13)]; exact HD.out⟩
          · obtain rfl : _ = op := Option.some.inj (show some _ = some op from ho)
            have nl : l.getD 16 false = false := by
              cases q : l.getD 16 false
              · rfl
              · rw [q] at hnl; cases hnl
            have e11 : t 11 = .bool (x == 0) := (hv 11 (hd { on := 11, ground := .data } (by simp) rfl)).trans HLF.out.2.1
            have HV := (show Hid (Rg.Vals l VV t) from hv)
            have HM := (show Hid (l.getD 13 false = false → ∃ p, (l.getD 10 false = false → p ≤ 10000) ∧ PkM w w' b a len' cap z p X BS S (.slice pa ps.length pc) ps (.slice va es.length vc) es) from hM)
            have HD := (show Hid (l.getD 13 false = true → ∃ W p, PkM w W b a len' cap z p X BS S (.slice pa ps.length pc) ps (.slice va es.length vc) es ∧ w' = (W.setCell ⟨w.heap.size, 0, none⟩ (.string S)).setCell ⟨w.heap.size, 1, none⟩ (.slice pa ps.length pc)) from hD)
            clear hv hd ho hM hD
            refine wpOp_step rfl fun K9 hK9 => ?_
            have HKK := (show Hid _ from hK9)
            clear hK9
            rw [e11]
            go_simp
            exact HKK.out _ _ ⟨by simp [hsz], VV, fun j => if j = 16 then (.bool (x == 0) : Value) else t j, x, HVF.out, HLF.out, by simp [e11], HV.out.put 16 _ HLF.out.2.2.symm, by rw [getD_set_ne false (by decide : 16 ≠ 13), getD_set_ne false (by decide : 16 ≠ 10)]; exact HM.out, by rw [getD_set_ne false (by decide : 16 ≠ 13)]; exact HD.out⟩
        case fin =>
          rintro l a' w' ⟨hsz, VV, t, x, hvf, hlf, rfl, hv, -, hD⟩ hall
          have HVF := (show Hid (VV 0 = (.slice va es.length vc : Value) ∧ VV 1 = (.agg #[.string S, .slice pa ps.length pc] : Value) ∧ VV 2 = (.int .i64 Q1 : Value) ∧ VV 3 = (.int .i64 Q2 : Value) ∧ VV 4 = (.string T1 : Value) ∧ VV 5 = (.string T1 : Value) ∧ VV 6 = (.int .i64 (T1.size : Nat) : Value) ∧ VV 7 = (.int .i64 (K : Nat) : Value) ∧ VV 8 = (.string (T1.extract 0 K) : Value) ∧ VV 9 = (.pointer (some ⟨b, 0, none⟩) : Value) ∧ VV 12 = (.slice va es.length vc : Value) ∧ VV 14 = (.int .i64 Q2 : Value) ∧ VV 15 = (.string (T1.extract 0 K) : Value)) from hvf)
          obtain ⟨W, p, hk, rfl⟩ := hD (hall 13 (by simp))
          have e12 : t 12 = .slice va es.length vc := (hv 12 (hall 12 (by simp))).trans HVF.out.2.2.2.2.2.2.2.2.2.2.1
          have e14 : t 14 = .int .i64 Q2 := (hv 14 (hall 14 (by simp))).trans HVF.out.2.2.2.2.2.2.2.2.2.2.2.1
          have e15 : t 15 = .string (T1.extract 0 K) := (hv 15 (hall 15 (by simp))).trans HVF.out.2.2.2.2.2.2.2.2.2.2.2.2
          have e16 : t 16 = .bool (x == 0) := (hv 16 (hall 16 (by simp))).trans hlf.2.2
          obtain ⟨o9, ho9⟩ : ∃ o9, (x == 0) = o9 := ⟨_, rfl⟩
          rw [ho9] at e16
          rw [e12, e14, e15, e16]
          have HKP := (show Hid _ from hk)
          obtain ⟨r0, r1⟩ := set_two hk.1.r0 hk.1.r1 (.string S) (.slice pa ps.length pc)
          clear hv hall e12 e14 e15 e16 hvf hlf HVF hD hk ho9
          go_wp2
          refine bodyPost_ret (v := .tuple #[.slice va es.length vc, .agg #[.string S, .slice pa ps.length pc], .int .i64 Q2, .string (T1.extract 0 K), .bool o9]) (by simp [results, Tryz.results6, go_sem, r0, r1]; done) rfl ?_
          obtain ⟨i1, i2⟩ := HKP.out.1.fin (.string S) (.slice pa ps.length pc)
          refine ⟨_, es, S, _, ps, Q2, _, o9, rfl, HG.out, PkM.fin2 HKP.out _ _, i1, ⟨hS, hpl, HPB.out⟩, ⟨by omega, by omega⟩, ?_, i2⟩
          rw [← lenL, ext_to, List.length_take, List.length_drop]; omega
      · go_upto_region 14 with fail
        generalize hT1 : s0 = T1
        have hT1z : T1.size ≤ 60 := by rw [← hT1]; omega
        generalize hQ1 : (S.size : Int) = Q1
        have hq1 : 0 ≤ Q1 ∧ Q1 ≤ 50 := by omega
        clear hT1 hQ1
        obtain ⟨Q2, hQ2⟩ : ∃ Q2 : Int, min Q1 40 = Q2 := ⟨_, rfl⟩
        have hq2 : 0 ≤ Q2 ∧ Q2 ≤ 40 := by omega
        obtain ⟨K, hK⟩ : ∃ K : Nat, min T1.size 40 = K := ⟨_, rfl⟩
        have hmn : min (T1.size : Int) 40 = (K : Int) := by omega
        have hKT : (K : Int) ≤ (T1.size : Int) := by omega
        have hK40 : K ≤ 40 := by omega
        clear hK
        have hmix : Tryz.prog.follows .mixedOrders = true := by kernel_rfl
        refine wp_region_any hmix ?_
        refine Ri.any_inv (I := fun l a' w' => l.size = 17 ∧ ∃ (VV t : Nat → Value) (x : Int), (VV 0 = (.slice va es.length vc : Value) ∧ VV 1 = (.agg #[.string S, .slice pa ps.length pc] : Value) ∧ VV 2 = (.int .i64 Q1 : Value) ∧ VV 3 = (.int .i64 Q2 : Value) ∧ VV 4 = (.string T1 : Value) ∧ VV 5 = (.string T1 : Value) ∧ VV 6 = (.int .i64 (T1.size : Nat) : Value) ∧ VV 7 = (.int .i64 (K : Nat) : Value) ∧ VV 8 = (.string (T1.extract 0 K) : Value) ∧ VV 9 = (.pointer (some ⟨b, 0, none⟩) : Value) ∧ VV 12 = (.slice va es.length vc : Value) ∧ VV 14 = (.int .i64 Q2 : Value) ∧ VV 15 = (.string (T1.extract 0 K) : Value)) ∧ (VV 10 = (.int .i64 x : Value) ∧ VV 11 = (.bool (x == 0) : Value) ∧ VV 16 = (.bool (x == 0) : Value)) ∧ a' = { tmps := #[(Value.slice a len cap : Value), undef, t 12, Value.pointer (some { block := w.heap.size, off := 0 }), t 14, t 15, t 16, Value.pointer (some { block := b, off := 0 }), Value.slice va es.length vc, Value.pointer (some { block := X, off := 0 }), Value.int IntKind.i64 Q1, Value.string T1, Value.slice a len cap, Value.pointer (some { block := b, off := 0 }), Value.tuple #[Value.slice va es.length vc, Value.agg #[Value.string S, Value.slice pa ps.length pc]], Value.pointer (some { block := b, off := 0 }), Value.tuple #[Value.slice va es.length vc, Value.agg #[Value.string S, Value.slice pa ps.length pc]], Value.slice va es.length vc, Value.agg #[Value.string S, Value.slice pa ps.length pc], Value.pointer (some { block := X, off := 0 }), Value.string S, Value.int IntKind.i64 Q1, Value.pointer (some { block := b, off := 0 }), Value.string T1, Value.pointer (some { block := b, off := 0 }), Value.int IntKind.i64 k, Value.bool (k == 0), Value.bool (k == 0), undef, undef, undef, undef, undef, undef, undef, undef, undef, undef, undef, undef, Value.bool (k == 1), Value.bool (k == 1), undef, undef, undef, undef, undef, undef, undef, undef, undef, undef, undef, undef, undef, undef, undef, undef, undef, undef, undef, undef, Value.bool (k == 2), Value.bool (k == 2), undef, undef, undef, undef, t 0, t 1, t 2, t 3, t 4, t 5, t 6, t 7, t 8, t 9, t 10, t 11], defers := [] } ∧ Rg.Vals l VV t ∧ (l.getD 13 false = false → ∃ p, (l.getD 10 false = false → p ≤ 10000) ∧ PkM w w' b a len' cap z p X BS S (.slice pa ps.length pc) ps (.slice va es.length vc) es) ∧ (l.getD 13 false = true → ∃ W p, PkM w W b a len' cap z p X BS S (.slice pa ps.length pc) ps (.slice va es.length vc) es ∧ w' = (W.setCell ⟨w.heap.size, 0, none⟩ (.string S)).setCell ⟨w.heap.size, 1, none⟩ (.slice pa ps.length pc))) ?sz ?low ?step ?fin _ _ _ _ ?start (Ri.closed_none _ _ _) (Rg.left_all _)
        case sz => exact fun l a' w' h => h.1
        case start =>
          exact ⟨by simp, fun j => [(.slice va es.length vc : Value), (.agg #[.string S, .slice pa ps.length pc] : Value), (.int .i64 Q1 : Value), (.int .i64 Q2 : Value), (.string T1 : Value), (.string T1 : Value), (.int .i64 (T1.size : Nat) : Value), (.int .i64 (K : Nat) : Value), (.string (T1.extract 0 K) : Value), (.pointer (some ⟨b, 0, none⟩) : Value), (.int .i64 0 : Value), (.bool ((0 : Int) == 0) : Value), (.slice va es.length vc : Value), undef, (.int .i64 Q2 : Value), (.string (T1.extract 0 K) : Value), (.bool ((0 : Int) == 0) : Value)].getD j undef, fun j => [(undef : Value), (undef : Value), (undef : Value), (undef : Value), (undef : Value), (undef : Value), (undef : Value), (undef : Value), (undef : Value), (undef : Value), (undef : Value), (undef : Value), (Value.slice none 0 0 : Value), (undef : Value), (Value.int IntKind.i64 0 : Value), (Value.string { data := #[] } : Value), (Value.bool false : Value)].getD j undef, 0, ⟨rfl, rfl, rfl, rfl, rfl, rfl, rfl, rfl, rfl, rfl, rfl, rfl, rfl⟩, ⟨rfl, rfl, rfl⟩, rfl, Rg.vals_none _ _ _, fun _ => ⟨_, fun _ => (by omega), ⟨Pk.drew HK4.out.1, HK4.out.2.drew⟩⟩, fun q => absurd q (by rw [Rg.rep_none]; decide)⟩
        case low => exact Ri.low_of (by kernel_rfl)
        case step =>
          rintro l a' w' i ⟨hsz, VV, t, x, hvf, hlf, rfl, hv, hM, hD⟩ hcl hi
          obtain ⟨h0, op, ho, hd⟩ := mem_ready.1 hi
          have hin : i < 17 := (Array.getElem?_eq_some_iff.1 ho).1
          have hnl := Rg.not_listed h0
          have u1 : l.getD 13 false = true → l.getD 1 false = true := Ri.reach_sound hcl 10 13 1 (by kernel_rfl)
          have u10 : l.getD 13 false = true → l.getD 10 false = true := Ri.reach_sound hcl 10 13 10 (by kernel_rfl)
          have u11 : l.getD 11 false = true → l.getD 10 false = true := Ri.reach_sound hcl 10 11 10 (by kernel_rfl)
          have u16 : l.getD 16 false = true → l.getD 10 false = true := Ri.reach_sound hcl 10 16 10 (by kernel_rfl)
          have HVF := (show Hid (VV 0 = (.slice va es.length vc : Value) ∧ VV 1 = (.agg #[.string S, .slice pa ps.length pc] : Value) ∧ VV 2 = (.int .i64 Q1 : Value) ∧ VV 3 = (.int .i64 Q2 : Value) ∧ VV 4 = (.string T1 : Value) ∧ VV 5 = (.string T1 : Value) ∧ VV 6 = (.int .i64 (T1.size : Nat) : Value) ∧ VV 7 = (.int .i64 (K : Nat) : Value) ∧ VV 8 = (.string (T1.extract 0 K) : Value) ∧ VV 9 = (.pointer (some ⟨b, 0, none⟩) : Value) ∧ VV 12 = (.slice va es.length vc : Value) ∧ VV 14 = (.int .i64 Q2 : Value) ∧ VV 15 = (.string (T1.extract 0 K) : Value)) from hvf)
          have HLF := (show Hid (VV 10 = (.int .i64 x : Value) ∧ VV 11 = (.bool (x == 0) : Value) ∧ VV 16 = (.bool (x == 0) : Value)) from hlf)
          clear h0 hi hcl hvf hlf
          have hc : i = 0 ∨ i = 1 ∨ i = 2 ∨ i = 3 ∨ i = 4 ∨ i = 5 ∨ i = 6 ∨ i = 7 ∨ i = 8 ∨ i = 9 ∨ i = 10 ∨ i = 11 ∨ i = 12 ∨ i = 13 ∨ i = 14 ∨ i = 15 ∨ i = 16 := by omega
          rcases hc with rfl | rfl | rfl | rfl | rfl | rfl | rfl | rfl | rfl | rfl | rfl | rfl | rfl | rfl | rfl | rfl | rfl
          · obtain rfl : _ = op := Option.some.inj (show some _ = some op from ho)
            have nl : l.getD 0 false = false := by
              cases q : l.getD 0 false
              · rfl
              · rw [q] at hnl; cases hnl
            have HV := (show Hid (Rg.Vals l VV t) from hv)
            have HM := (show Hid (l.getD 13 false = false → ∃ p, (l.getD 10 false = false → p ≤ 10000) ∧ PkM w w' b a len' cap z p X BS S (.slice pa ps.length pc) ps (.slice va es.length vc) es) from hM)
            have HD := (show Hid (l.getD 13 false = true → ∃ W p, PkM w W b a len' cap z p X BS S (.slice pa ps.length pc) ps (.slice va es.length vc) es ∧ w' = (W.setCell ⟨w.heap.size, 0, none⟩ (.string S)).setCell ⟨w.heap.size, 1, none⟩ (.slice pa ps.length pc)) from hD)
            clear hv hd ho hM hD
            refine wpOp_step rfl fun K9 hK9 => ?_
            have HKK := (show Hid _ from hK9)
            clear hK9
            go_simp
            exact HKK.out _ _ ⟨by simp [hsz], VV, fun j => if j = 0 then (.slice va es.length vc : Value) else t j, x, HVF.out, HLF.out, by simp [hc0, hc1, hc2], HV.out.put 0 _ HVF.out.1.symm, by rw [getD_set_ne false (by decide : 0 ≠ 13), getD_set_ne false (by decide : 0 ≠ 10)]; exact HM.out, by rw [getD_set_ne false (by decide : 0 ≠ 13)]; exact HD.out⟩
          · obtain rfl : _ = op := Option.some.inj (show some _ = some op from ho)
            have nl : l.getD 1 false = false := by
              cases q : l.getD 1 false
              · rfl
              · rw [q] at hnl; cases hnl
            have n13 : l.getD 13 false = false := by
              cases q : l.getD 13 false
              · rfl
              · rw [u1 q] at nl; cases nl
            obtain ⟨p, hp, hk⟩ := hM n13
            have y0 := hk.1.x0
            have y1 := hk.1.x1
            have HKP := (show Hid _ from hk)
            clear hk
            have HV := (show Hid (Rg.Vals l VV t) from hv)
            have HM := (show Hid (l.getD 13 false = false → ∃ p, (l.getD 10 false = false → p ≤ 10000) ∧ PkM w w' b a len' cap z p X BS S (.slice pa ps.length pc) ps (.slice va es.length vc) es) from hM)
            have HD := (show Hid (l.getD 13 false = true → ∃ W p, PkM w W b a len' cap z p X BS S (.slice pa ps.length pc) ps (.slice va es.length vc) es ∧ w' = (W.setCell ⟨w.heap.size, 0, none⟩ (.string S)).setCell ⟨w.heap.size, 1, none⟩ (.slice pa ps.length pc)) from hD)
            clear hv hd ho hM hD
            refine wpOp_step rfl fun K9 hK9 => ?_
            have HKK := (show Hid _ from hK9)
            clear hK9
            go_simp
            exact HKK.out _ _ ⟨by simp [hsz], VV, fun j => if j = 1 then (.agg #[.string S, .slice pa ps.length pc] : Value) else t j, x, HVF.out, HLF.out, by simp [hc0, hc1, hc2], HV.out.put 1 _ HVF.out.2.1.symm, by rw [getD_set_ne false (by decide : 1 ≠ 13), getD_set_ne false (by decide : 1 ≠ 10)]; exact HM.out, by rw [getD_set_ne false (by decide : 1 ≠ 13)]; exact HD.out⟩
          · obtain rfl : _ = op := Option.some.inj (show some _ = some op from ho)
            have nl : l.getD 2 false = false := by
              cases q : l.getD 2 false
              · rfl
              · rw [q] at hnl; cases hnl
            have HV := (show Hid (Rg.Vals l VV t) from hv)
            have HM := (show Hid (l.getD 13 false = false → ∃ p, (l.getD 10 false = false → p ≤ 10000) ∧ PkM w w' b a len' cap z p X BS S (.slice pa ps.length pc) ps (.slice va es.length vc) es) from hM)
            have HD := (show Hid (l.getD 13 false = true → ∃ W p, PkM w W b a len' cap z p X BS S (.slice pa ps.length pc) ps (.slice va es.length vc) es ∧ w' = (W.setCell ⟨w.heap.size, 0, none⟩ (.string S)).setCell ⟨w.heap.size, 1, none⟩ (.slice pa ps.length pc)) from hD)
            clear hv hd ho hM hD
            refine wpOp_step rfl fun K9 hK9 => ?_
            have HKK := (show Hid _ from hK9)
            clear hK9
            go_simp
            exact HKK.out _ _ ⟨by simp [hsz], VV, fun j => if j = 2 then (.int .i64 Q1 : Value) else t j, x, HVF.out, HLF.out, by simp [hc0, hc1, hc2], HV.out.put 2 _ HVF.out.2.2.1.symm, by rw [getD_set_ne false (by decide : 2 ≠ 13), getD_set_ne false (by decide : 2 ≠ 10)]; exact HM.out, by rw [getD_set_ne false (by decide : 2 ≠ 13)]; exact HD.out⟩
          · obtain rfl : _ = op := Option.some.inj (show some _ = some op from ho)
            have nl : l.getD 3 false = false := by
              cases q : l.getD 3 false
              · rfl
              · rw [q] at hnl; cases hnl
            have e2 : t 2 = .int .i64 Q1 := (hv 2 (hd { on := 2, ground := .data } (by simp) rfl)).trans HVF.out.2.2.1
            have HV := (show Hid (Rg.Vals l VV t) from hv)
            have HM := (show Hid (l.getD 13 false = false → ∃ p, (l.getD 10 false = false → p ≤ 10000) ∧ PkM w w' b a len' cap z p X BS S (.slice pa ps.length pc) ps (.slice va es.length vc) es) from hM)
            have HD := (show Hid (l.getD 13 false = true → ∃ W p, PkM w W b a len' cap z p X BS S (.slice pa ps.length pc) ps (.slice va es.length vc) es ∧ w' = (W.setCell ⟨w.heap.size, 0, none⟩ (.string S)).setCell ⟨w.heap.size, 1, none⟩ (.slice pa ps.length pc)) from hD)
            clear hv hd ho hM hD
            refine wpOp_step rfl fun K9 hK9 => ?_
            have HKK := (show Hid _ from hK9)
            clear hK9
            rw [e2]
            go_simp
            exact HKK.out _ _ ⟨by simp [hsz], VV, fun j => if j = 3 then (.int .i64 Q2 : Value) else t j, x, HVF.out, HLF.out, by simp [e2, hc0, hc1, hc2], HV.out.put 3 _ HVF.out.2.2.2.1.symm, by rw [getD_set_ne false (by decide : 3 ≠ 13), getD_set_ne false (by decide : 3 ≠ 10)]; exact HM.out, by rw [getD_set_ne false (by decide : 3 ≠ 13)]; exact HD.out⟩
          · obtain rfl : _ = op := Option.some.inj (show some _ = some op from ho)
            have nl : l.getD 4 false = false := by
              cases q : l.getD 4 false
              · rfl
              · rw [q] at hnl; cases hnl
            have HV := (show Hid (Rg.Vals l VV t) from hv)
            have HM := (show Hid (l.getD 13 false = false → ∃ p, (l.getD 10 false = false → p ≤ 10000) ∧ PkM w w' b a len' cap z p X BS S (.slice pa ps.length pc) ps (.slice va es.length vc) es) from hM)
            have HD := (show Hid (l.getD 13 false = true → ∃ W p, PkM w W b a len' cap z p X BS S (.slice pa ps.length pc) ps (.slice va es.length vc) es ∧ w' = (W.setCell ⟨w.heap.size, 0, none⟩ (.string S)).setCell ⟨w.heap.size, 1, none⟩ (.slice pa ps.length pc)) from hD)
            clear hv hd ho hM hD
            refine wpOp_step rfl fun K9 hK9 => ?_
            have HKK := (show Hid _ from hK9)
            clear hK9
            go_simp
            exact HKK.out _ _ ⟨by simp [hsz], VV, fun j => if j = 4 then (.string T1 : Value) else t j, x, HVF.out, HLF.out, by simp [hc0, hc1, hc2], HV.out.put 4 _ HVF.out.2.2.2.2.1.symm, by rw [getD_set_ne false (by decide : 4 ≠ 13), getD_set_ne false (by decide : 4 ≠ 10)]; exact HM.out, by rw [getD_set_ne false (by decide : 4 ≠ 13)]; exact HD.out⟩
          · obtain rfl : _ = op := Option.some.inj (show some _ = some op from ho)
            have nl : l.getD 5 false = false := by
              cases q : l.getD 5 false
              · rfl
              · rw [q] at hnl; cases hnl
            have HV := (show Hid (Rg.Vals l VV t) from hv)
            have HM := (show Hid (l.getD 13 false = false → ∃ p, (l.getD 10 false = false → p ≤ 10000) ∧ PkM w w' b a len' cap z p X BS S (.slice pa ps.length pc) ps (.slice va es.length vc) es) from hM)
            have HD := (show Hid (l.getD 13 false = true → ∃ W p, PkM w W b a len' cap z p X BS S (.slice pa ps.length pc) ps (.slice va es.length vc) es ∧ w' = (W.setCell ⟨w.heap.size, 0, none⟩ (.string S)).setCell ⟨w.heap.size, 1, none⟩ (.slice pa ps.length pc)) from hD)
            clear hv hd ho hM hD
            refine wpOp_step rfl fun K9 hK9 => ?_
            have HKK := (show Hid _ from hK9)
            clear hK9
            go_simp
            exact HKK.out _ _ ⟨by simp [hsz], VV, fun j => if j = 5 then (.string T1 : Value) else t j, x, HVF.out, HLF.out, by simp [hc0, hc1, hc2], HV.out.put 5 _ HVF.out.2.2.2.2.2.1.symm, by rw [getD_set_ne false (by decide : 5 ≠ 13), getD_set_ne false (by decide : 5 ≠ 10)]; exact HM.out, by rw [getD_set_ne false (by decide : 5 ≠ 13)]; exact HD.out⟩
          · obtain rfl : _ = op := Option.some.inj (show some _ = some op from ho)
            have nl : l.getD 6 false = false := by
              cases q : l.getD 6 false
              · rfl
              · rw [q] at hnl; cases hnl
            have e5 : t 5 = .string T1 := (hv 5 (hd { on := 5, ground := .data } (by simp) rfl)).trans HVF.out.2.2.2.2.2.1
            have HV := (show Hid (Rg.Vals l VV t) from hv)
            have HM := (show Hid (l.getD 13 false = false → ∃ p, (l.getD 10 false = false → p ≤ 10000) ∧ PkM w w' b a len' cap z p X BS S (.slice pa ps.length pc) ps (.slice va es.length vc) es) from hM)
            have HD := (show Hid (l.getD 13 false = true → ∃ W p, PkM w W b a len' cap z p X BS S (.slice pa ps.length pc) ps (.slice va es.length vc) es ∧ w' = (W.setCell ⟨w.heap.size, 0, none⟩ (.string S)).setCell ⟨w.heap.size, 1, none⟩ (.slice pa ps.length pc)) from hD)
            clear hv hd ho hM hD
            refine wpOp_step rfl fun K9 hK9 => ?_
            have HKK := (show Hid _ from hK9)
            clear hK9
            rw [e5]
            go_simp
            exact HKK.out _ _ ⟨by simp [hsz], VV, fun j => if j = 6 then (.int .i64 (T1.size : Nat) : Value) else t j, x, HVF.out, HLF.out, by simp [e5, hc0, hc1, hc2], HV.out.put 6 _ HVF.out.2.2.2.2.2.2.1.symm, by rw [getD_set_ne false (by decide : 6 ≠ 13), getD_set_ne false (by decide : 6 ≠ 10)]; exact HM.out, by rw [getD_set_ne false (by decide : 6 ≠ 13)]; exact HD.out⟩
          · obtain rfl : _ = op := Option.some.inj (show some _ = some op from ho)
            have nl : l.getD 7 false = false := by
              cases q : l.getD 7 false
              · rfl
              · rw [q] at hnl; cases hnl
            have e6 : t 6 = .int .i64 (T1.size : Nat) := (hv 6 (hd { on := 6, ground := .data } (by simp) rfl)).trans HVF.out.2.2.2.2.2.2.1
            have HV := (show Hid (Rg.Vals l VV t) from hv)
            have HM := (show Hid (l.getD 13 false = false → ∃ p, (l.getD 10 false = false → p ≤ 10000) ∧ PkM w w' b a len' cap z p X BS S (.slice pa ps.length pc) ps (.slice va es.length vc) es) from hM)
            have HD := (show Hid (l.getD 13 false = true → ∃ W p, PkM w W b a len' cap z p X BS S (.slice pa ps.length pc) ps (.slice va es.length vc) es ∧ w' = (W.setCell ⟨w.heap.size, 0, none⟩ (.string S)).setCell ⟨w.heap.size, 1, none⟩ (.slice pa ps.length pc)) from hD)
            clear hv hd ho hM hD
            refine wpOp_step rfl fun K9 hK9 => ?_
            have HKK := (show Hid _ from hK9)
            clear hK9
            rw [e6]
            go_simp
            exact HKK.out _ _ ⟨by simp [hsz], VV, fun j => if j = 7 then (.int .i64 (K : Nat) : Value) else t j, x, HVF.out, HLF.out, by simp [e6, hc0, hc1, hc2], HV.out.put 7 _ HVF.out.2.2.2.2.2.2.2.1.symm, by rw [getD_set_ne false (by decide : 7 ≠ 13), getD_set_ne false (by decide : 7 ≠ 10)]; exact HM.out, by rw [getD_set_ne false (by decide : 7 ≠ 13)]; exact HD.out⟩
          · obtain rfl : _ = op := Option.some.inj (show some _ = some op from ho)
            have nl : l.getD 8 false = false := by
              cases q : l.getD 8 false
              · rfl
              · rw [q] at hnl; cases hnl
            have e4 : t 4 = .string T1 := (hv 4 (hd { on := 4, ground := .data } (by simp) rfl)).trans HVF.out.2.2.2.2.1
            have e7 : t 7 = .int .i64 (K : Nat) := (hv 7 (hd { on := 7, ground := .data } (by simp) rfl)).trans HVF.out.2.2.2.2.2.2.2.1
            have HV := (show Hid (Rg.Vals l VV t) from hv)
            have HM := (show Hid (l.getD 13 false = false → ∃ p, (l.getD 10 false = false → p ≤ 10000) ∧ PkM w w' b a len' cap z p X BS S (.slice pa ps.length pc) ps (.slice va es.length vc) es) from hM)
            have HD := (show Hid (l.getD 13 false = true → ∃ W p, PkM w W b a len' cap z p X BS S (.slice pa ps.length pc) ps (.slice va es.length vc) es ∧ w' = (W.setCell ⟨w.heap.size, 0, none⟩ (.string S)).setCell ⟨w.heap.size, 1, none⟩ (.slice pa ps.length pc)) from hD)
            clear hv hd ho hM hD
            refine wpOp_step rfl fun K9 hK9 => ?_
            have HKK := (show Hid _ from hK9)
            clear hK9
            rw [e4, e7]
            go_simp
            exact HKK.out _ _ ⟨by simp [hsz], VV, fun j => if j = 8 then (.string (T1.extract 0 K) : Value) else t j, x, HVF.out, HLF.out, by simp [e4, e7, hc0, hc1, hc2], HV.out.put 8 _ HVF.out.2.2.2.2.2.2.2.2.1.symm, by rw [getD_set_ne false (by decide : 8 ≠ 13), getD_set_ne false (by decide : 8 ≠ 10)]; exact HM.out, by rw [getD_set_ne false (by decide : 8 ≠ 13)]; exact HD.out⟩
          · obtain rfl : _ = op := Option.some.inj (show some _ = some op from ho)
            have nl : l.getD 9 false = false := by
              cases q : l.getD 9 false
              · rfl
              · rw [q] at hnl; cases hnl
            have HV := (show Hid (Rg.Vals l VV t) from hv)
            have HM := (show Hid (l.getD 13 false = false → ∃ p, (l.getD 10 false = false → p ≤ 10000) ∧ PkM w w' b a len' cap z p X BS S (.slice pa ps.length pc) ps (.slice va es.length vc) es) from hM)
            have HD := (show Hid (l.getD 13 false = true → ∃ W p, PkM w W b a len' cap z p X BS S (.slice pa ps.length pc) ps (.slice va es.length vc) es ∧ w' = (W.setCell ⟨w.heap.size, 0, none⟩ (.string S)).setCell ⟨w.heap.size, 1, none⟩ (.slice pa ps.length pc)) from hD)
            clear hv hd ho hM hD
            refine wpOp_step rfl fun K9 hK9 => ?_
            have HKK := (show Hid _ from hK9)
            clear hK9
            go_simp
            exact HKK.out _ _ ⟨by simp [hsz], VV, fun j => if j = 9 then (.pointer (some ⟨b, 0, none⟩) : Value) else t j, x, HVF.out, HLF.out, by simp [hc0, hc1, hc2], HV.out.put 9 _ HVF.out.2.2.2.2.2.2.2.2.2.1.symm, by rw [getD_set_ne false (by decide : 9 ≠ 13), getD_set_ne false (by decide : 9 ≠ 10)]; exact HM.out, by rw [getD_set_ne false (by decide : 9 ≠ 13)]; exact HD.out⟩
          · obtain rfl : _ = op := Option.some.inj (show some _ = some op from ho)
            have nl : l.getD 10 false = false := by
              cases q : l.getD 10 false
              · rfl
              · rw [q] at hnl; cases hnl
            have n13 : l.getD 13 false = false := by
              cases q : l.getD 13 false
              · rfl
              · rw [u10 q] at nl; cases nl
            have e9 : t 9 = .pointer (some ⟨b, 0, none⟩) := (hv 9 (hd { on := 9, ground := .data } (by simp) rfl)).trans HVF.out.2.2.2.2.2.2.2.2.2.1
            obtain ⟨p, hp, hk⟩ := hM n13
            have y0 := hk.1.x0
            have y1 := hk.1.x1
            have HKP := (show Hid _ from hk)
            clear hk
            have HV := (show Hid (Rg.Vals l VV t) from hv)
            have HM := (show Hid (l.getD 13 false = false → ∃ p, (l.getD 10 false = false → p ≤ 10000) ∧ PkM w w' b a len' cap z p X BS S (.slice pa ps.length pc) ps (.slice va es.length vc) es) from hM)
            have HD := (show Hid (l.getD 13 false = true → ∃ W p, PkM w W b a len' cap z p X BS S (.slice pa ps.length pc) ps (.slice va es.length vc) es ∧ w' = (W.setCell ⟨w.heap.size, 0, none⟩ (.string S)).setCell ⟨w.heap.size, 1, none⟩ (.slice pa ps.length pc)) from hD)
            clear hv hd ho hM hD
            refine wpOp_step rfl fun K9 hK9 => ?_
            have HKK := (show Hid _ from hK9)
            clear hK9
            rw [e9]
            go_simp
            refine (PkM.pick HKP.out (by have := hp nl; omega) _ (by omega)).mono ?_
            rintro e w9 ⟨x9, rfl, h90, h91, hk9, -, -, -, -, -⟩
            exact HKK.out _ _ ⟨by simp [hsz], fun j => if j = 10 then .int .i64 x9 else if j = 11 then .bool (x9 == 0) else if j = 16 then .bool (x9 == 0) else VV j, fun j => if j = 10 then .int .i64 x9 else t j, x9, by simpa using HVF.out, by simp, by simp [e9, hc0, hc1, hc2], vals_pick HV.out (fun q => (by rw [u11 q] at nl; cases nl)) (fun q => (by rw [u16 q] at nl; cases nl)) _ _, fun _ => ⟨_, fun q => (by rw [Rg.set_same (by omega)] at q; cases q), hk9.out⟩, fun q => (by rw [getD_set_ne false (by decide : 10 ≠ 13), n13] at q; cases q)⟩
          · obtain rfl : _ = op := Option.some.inj (show some _ = some op from ho)
            have nl : l.getD 11 false = false := by
              cases q : l.getD 11 false
              · rfl
              · rw [q] at hnl; cases hnl
            have e10 : t 10 = .int .i64 x := (hv 10 (hd { on := 10, ground := .data } (by simp) rfl)).trans HLF.out.1
            have HV := (show Hid (Rg.Vals l VV t) from hv)
            have HM := (show Hid (l.getD 13 false = false → ∃ p, (l.getD 10 false = false → p ≤ 10000) ∧ PkM w w' b a len' cap z p X BS S (.slice pa ps.length pc) ps (.slice va es.length vc) es) from hM)
            have HD := (show Hid (l.getD 13 false = true → ∃ W p, PkM w W b a len' cap z p X BS S (.slice pa ps.length pc) ps (.slice va es.length vc) es ∧ w' = (W.setCell ⟨w.heap.size, 0, none⟩ (.string S)).setCell ⟨w.heap.size, 1, none⟩ (.slice pa ps.length pc)) from hD)
            clear hv hd ho hM hD
            refine wpOp_step rfl fun K9 hK9 => ?_
            have HKK := (show Hid _ from hK9)
            clear hK9
            rw [e10]
            go_simp
            exact HKK.out _ _ ⟨by simp [hsz], VV, fun j => if j = 11 then (.bool (x == 0) : Value) else t j, x, HVF.out, HLF.out, by simp [e10, hc0, hc1, hc2], HV.out.put 11 _ HLF.out.2.1.symm, by rw [getD_set_ne false (by decide : 11 ≠ 13), getD_set_ne false (by decide : 11 ≠ 10)]; exact HM.out, by rw [getD_set_ne false (by decide : 11 ≠ 13)]; exact HD.out⟩
          · obtain rfl : _ = op := Option.some.inj (show some _ = some op from ho)
            have nl : l.getD 12 false = false := by
              cases q : l.getD 12 false
              · rfl
              · rw [q] at hnl; cases hnl
            have e0 : t 0 = .slice va es.length vc := (hv 0 (hd { on := 0, ground := .data } (by simp) rfl)).trans HVF.out.1
            have HV := (show Hid (Rg.Vals l VV t) from hv)
            have HM := (show Hid (l.getD 13 false = false → ∃ p, (l.getD 10 false = false → p ≤ 10000) ∧ PkM w w' b a len' cap z p X BS S (.slice pa ps.length pc) ps (.slice va es.length vc) es) from hM)
            have HD := (show Hid (l.getD 13 false = true → ∃ W p, PkM w W b a len' cap z p X BS S (.slice pa ps.length pc) ps (.slice va es.length vc) es ∧ w' = (W.setCell ⟨w.heap.size, 0, none⟩ (.string S)).setCell ⟨w.heap.size, 1, none⟩ (.slice pa ps.length pc)) from hD)
            clear hv hd ho hM hD
            refine wpOp_step rfl fun K9 hK9 => ?_
            have HKK := (show Hid _ from hK9)
            clear hK9
            rw [e0]
            go_simp
            exact HKK.out _ _ ⟨by simp [hsz], VV, fun j => if j = 12 then (.slice va es.length vc : Value) else t j, x, HVF.out, HLF.out, by simp [e0, hc0, hc1, hc2], HV.out.put 12 _ HVF.out.2.2.2.2.2.2.2.2.2.2.1.symm, by rw [getD_set_ne false (by decide : 12 ≠ 13), getD_set_ne false (by decide : 12 ≠ 10)]; exact HM.out, by rw [getD_set_ne false (by decide : 12 ≠ 13)]; exact HD.out⟩
          · obtain rfl : _ = op := Option.some.inj (show some _ = some op from ho)
            have nl : l.getD 13 false = false := by
              cases q : l.getD 13 false
              · rfl
              · rw [q] at hnl; cases hnl
            have e1 : t 1 = .agg #[.string S, .slice pa ps.length pc] := (hv 1 (hd { on := 1, ground := .data } (by simp) rfl)).trans HVF.out.2.1
            obtain ⟨p, hp, hk⟩ := hM nl
            have y0 := hk.1.r0
            have y1 := hk.1.r1
            have yf := hk.1.rf
            have HKP := (show Hid _ from hk)
            clear hk
            have HV := (show Hid (Rg.Vals l VV t) from hv)
            have HM := (show Hid (l.getD 13 false = false → ∃ p, (l.getD 10 false = false → p ≤ 10000) ∧ PkM w w' b a len' cap z p X BS S (.slice pa ps.length pc) ps (.slice va es.length vc) es) from hM)
            have HD := (show Hid (l.getD 13 false = true → ∃ W p, PkM w W b a len' cap z p X BS S (.slice pa ps.length pc) ps (.slice va es.length vc) es ∧ w' = (W.setCell ⟨w.heap.size, 0, none⟩ (.string S)).setCell ⟨w.heap.size, 1, none⟩ (.slice pa ps.length pc)) from hD)
            clear hv hd ho hM hD
            refine wpOp_step rfl fun K9 hK9 => ?_
            have HKK := (show Hid _ from hK9)
            clear hK9
            rw [e1]
            go_simp
            exact HKK.out _ _ ⟨by simp [hsz], VV, fun j => if j = 13 then VV 13 else t j, x, HVF.out, HLF.out, by simp [e1, hc0, hc1, hc2], HV.out.put 13 _ rfl, fun q => (by rw [Rg.set_same (by omega)] at q; cases q), fun _ => ⟨w', _, HKP.out, rfl⟩⟩
          · obtain rfl : _ = op := Option.some.inj (show some _ = some op from ho)
            have nl : l.getD 14 false = false := by
              cases q : l.getD 14 false
              · rfl
              · rw [q] at hnl; cases hnl
            have e3 : t 3 = .int .i64 Q2 := (hv 3 (hd { on := 3, ground := .data } (by simp) rfl)).trans HVF.out.2.2.2.1
            have HV := (show Hid (Rg.Vals l VV t) from hv)
            have HM := (show Hid (l.getD 13 false = false → ∃ p, (l.getD 10 false = false → p ≤ 10000) ∧ PkM w w' b a len' cap z p X BS S (.slice pa ps.length pc) ps (.slice va es.length vc) es) from hM)
            have HD := (show Hid (l.getD 13 false = true → ∃ W p, PkM w W b a len' cap z p X BS S (.slice pa ps.length pc) ps (.slice va es.length vc) es ∧ w' = (W.setCell ⟨w.heap.size, 0, none⟩ (.string S)).setCell ⟨w.heap.size, 1, none⟩ (.slice pa ps.length pc)) from hD)
            clear hv hd ho hM hD
            refine wpOp_step rfl fun K9 hK9 => ?_
            have HKK := (show Hid _ from hK9)
            clear hK9
            rw [e3]
            go_simp
            exact HKK.out _ _ ⟨by simp [hsz], VV, fun j => if j = 14 then (.int .i64 Q2 : Value) else t j, x, HVF.out, HLF.out, by simp [e3, hc0, hc1, hc2], HV.out.put 14 _ HVF.out.2.2.2.2.2.2.2.2.2.2.2.1.symm, by rw [getD_set_ne false (by decide : 14 ≠ 13), getD_set_ne false (by decide : 14 ≠ 10)]; exact HM.out, by rw [getD_set_ne false (by decide : 14 ≠ 13)]; exact HD.out⟩
          · obtain rfl : _ = op := Option.some.inj (show some _ = some op from ho)
            have nl : l.getD 15 false = false := by
              cases q : l.getD 15 false
              · rfl
              · rw [q] at hnl; cases hnl
            have e8 : t 8 = .string (T1.extract 0 K) := (hv 8 (hd { on := 8, ground := .data } (by simp) rfl)).trans HVF.out.2.2.2.2.2.2.2.2.1
            have HV := (show Hid (Rg.Vals l VV t) from hv)
            have HM := (show Hid (l.getD 13 false = false → ∃ p, (l.getD 10 false = false → p ≤ 10000) ∧ PkM w w' b a len' cap z p X BS S (.slice pa ps.length pc) ps (.slice va es.length vc) es) from hM)
            have HD := (show Hid (l.getD 13 false = true → ∃ W p, PkM w W b a len' cap z p X BS S (.slice pa ps.length pc) ps (.slice va es.length vc) es ∧ w' = (W.setCell ⟨w.heap.size, 0, none⟩ (.string S)).setCell ⟨w.heap.size, 1, none⟩ (.slice pa ps.length pc)) from hD)
            clear hv hd ho hM hD
            refine wpOp_step rfl fun K9 hK9 => ?_
            have HKK := (show Hid _ from hK9)
            clear hK9
            rw [e8]
            go_simp
            exact HKK.out _ _ ⟨by simp [hsz], VV, fun j => if j = 15 then (.string (T1.extract 0 K) : Value) else t j, x, HVF.out, HLF.out, by simp [e8, hc0, hc1, hc2], HV.out.put 15 _ HVF.out.2.2.2.2.2.2.2.2.2.2.2.2.symm, by rw [getD_set_ne false (by decide : 15 ≠ 13), getD_set_ne false (by decide : 15 ≠ 10)]; exact HM.out, by rw [getD_set_ne false (by decide : 15 ≠ 13)]; exact HD.out⟩
          · obtain rfl : _ = op := Option.some.inj (show some _ = some op from ho)
            have nl : l.getD 16 false = false := by
              cases q : l.getD 16 false
              · rfl
              · rw [q] at hnl; cases hnl
            have e11 : t 11 = .bool (x == 0) := (hv 11 (hd { on := 11, ground := .data } (by simp) rfl)).trans HLF.out.2.1
            have HV := (show Hid (Rg.Vals l VV t) from hv)
            have HM := (show Hid (l.getD 13 false = false → ∃ p, (l.getD 10 false = false → p ≤ 10000) ∧ PkM w w' b a len' cap z p X BS S (.slice pa ps.length pc) ps (.slice va es.length vc) es) from hM)
            have HD := (show Hid (l.getD 13 false = true → ∃ W p, PkM w W b a len' cap z p X BS S (.slice pa ps.length pc) ps (.slice va es.length vc) es ∧ w' = (W.setCell ⟨w.heap.size, 0, none⟩ (.string S)).setCell ⟨w.heap.size, 1, none⟩ (.slice pa ps.length pc)) from hD)
            clear hv hd ho hM hD
            refine wpOp_step rfl fun K9 hK9 => ?_
            have HKK := (show Hid _ from hK9)
            clear hK9
            rw [e11]
            go_simp
            exact HKK.out _ _ ⟨by simp [hsz], VV, fun j => if j = 16 then (.bool (x == 0) : Value) else t j, x, HVF.out, HLF.out, by simp [e11, hc0, hc1, hc2], HV.out.put 16 _ HLF.out.2.2.symm, by rw [getD_set_ne false (by decide : 16 ≠ 13), getD_set_ne false (by decide : 16 ≠ 10)]; exact HM.out, by rw [getD_set_ne false (by decide : 16 ≠ 13)]; exact HD.out⟩
        case fin =>
          rintro l a' w' ⟨hsz, VV, t, x, hvf, hlf, rfl, hv, -, hD⟩ hall
          have HVF := (show Hid (VV 0 = (.slice va es.length vc : Value) ∧ VV 1 = (.agg #[.string S, .slice pa ps.length pc] : Value) ∧ VV 2 = (.int .i64 Q1 : Value) ∧ VV 3 = (.int .i64 Q2 : Value) ∧ VV 4 = (.string T1 : Value) ∧ VV 5 = (.string T1 : Value) ∧ VV 6 = (.int .i64 (T1.size : Nat) : Value) ∧ VV 7 = (.int .i64 (K : Nat) : Value) ∧ VV 8 = (.string (T1.extract 0 K) : Value) ∧ VV 9 = (.pointer (some ⟨b, 0, none⟩) : Value) ∧ VV 12 = (.slice va es.length vc : Value) ∧ VV 14 = (.int .i64 Q2 : Value) ∧ VV 15 = (.string (T1.extract 0 K) : Value)) from hvf)
          obtain ⟨W, p, hk, rfl⟩ := hD (hall 13 (by simp))
          have e12 : t 12 = .slice va es.length vc := (hv 12 (hall 12 (by simp))).trans HVF.out.2.2.2.2.2.2.2.2.2.2.1
          have e14 : t 14 = .int .i64 Q2 := (hv 14 (hall 14 (by simp))).trans HVF.out.2.2.2.2.2.2.2.2.2.2.2.1
          have e15 : t 15 = .string (T1.extract 0 K) := (hv 15 (hall 15 (by simp))).trans HVF.out.2.2.2.2.2.2.2.2.2.2.2.2
          have e16 : t 16 = .bool (x == 0) := (hv 16 (hall 16 (by simp))).trans hlf.2.2
          obtain ⟨o9, ho9⟩ : ∃ o9, (x == 0) = o9 := ⟨_, rfl⟩
          rw [ho9] at e16
          rw [e12, e14, e15, e16]
          have HKP := (show Hid _ from hk)
          obtain ⟨r0, r1⟩ := set_two hk.1.r0 hk.1.r1 (.string S) (.slice pa ps.length pc)
          clear hv hall e12 e14 e15 e16 hvf hlf HVF hD hk ho9
          go_wp2
          refine bodyPost_ret (v := .tuple #[.slice va es.length vc, .agg #[.string S, .slice pa ps.length pc], .int .i64 Q2, .string (T1.extract 0 K), .bool o9]) (by simp [results, Tryz.results6, go_sem, r0, r1]; done) rfl ?_
          obtain ⟨i1, i2⟩ := HKP.out.1.fin (.string S) (.slice pa ps.length pc)
          refine ⟨_, es, S, _, ps, Q2, _, o9, rfl, HG.out, PkM.fin2 HKP.out _ _, i1, ⟨hS, hpl, HPB.out⟩, ⟨by omega, by omega⟩, ?_, i2⟩
          rw [← lenL, ext_to, List.length_take, List.length_drop]; omega
end Go.Proofs.YtdggchcapjidjabGreatDoor.StP

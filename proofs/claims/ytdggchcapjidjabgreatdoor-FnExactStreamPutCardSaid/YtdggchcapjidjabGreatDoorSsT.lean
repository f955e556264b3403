/- Walks: StreamPut of the model. -/
import Derived.Test.YtdggchcapjidjabGreatDoorSsQ
import Derived.Test.YtdggchcapjidjabGreatDoorSsC
namespace Go.Proofs.YtdggchcapjidjabGreatDoor.StP
open Go.RowKit Go.Shelf Go.Proofs.YtdggchcapjidjabGreatDoor.Kit Go.Proofs.YtdggchcapjidjabGreatDoor.Tx Go.Proofs.YtdggchcapjidjabGreatDoor.Mp Go.Proofs.YtdggchcapjidjabGreatDoor.Mm Go.Proofs.YtdggchcapjidjabGreatDoor.Ms Go.Proofs.YtdggchcapjidjabGreatDoor.Nm Go.Proofs.YtdggchcapjidjabGreatDoor.App Go.Proofs.YtdggchcapjidjabGreatDoor.St Go.Proofs.YtdggchcapjidjabGreatDoor.SpA
set_option linter.unusedSimpArgs false
set_option linter.unusedVariables false

/-- what stands behind l11Put -/
def Pst (W0 : World) (es : List (Int × Int)) (S : ByteArray) (ps : List (Int × ByteArray)) (VV : Nat → Value) (w : World) : Prop :=
  Below W0.heap.size W0 w ∧ ∃ v' pv', VV 7 = .tuple #[v', .agg #[.string S, pv'], VV 10] ∧ VV 8 = v' ∧ VV 9 = .agg #[.string S, pv'] ∧ VV 11 = v' ∧ Rows2 w W0.heap.size v' es pv' ps
/-- what stands while the copies are made, the bytes put, the answer laid at R -/
structure Sq (W0 : World) (m : List (Int × Int × Int)) (S : ByteArray) (ps : List (Int × ByteArray)) (es' : List (Int × Int)) (S' : ByteArray) (ps' : List (Int × ByteArray)) (R : Nat) (l : Array Bool) (VV : Nat → Value) (x y : Value) (w' : World) : Prop where
  b0 : l.getD 7 false = false → Below W0.heap.size W0 w'
  b1 : l.getD 7 false = false → l.getD 1 false = true → w'.ownsRow W0.heap.size 83 3 x m.length (cellsM m)
  b3 : l.getD 7 false = false → l.getD 3 false = true → ∃ y', y = .agg #[.string S, y'] ∧ w'.ownsRow W0.heap.size 79 2 y' ps.length (cellsT ps) ∧ (∃ k, y'.ownBlock = some k) ∧ (l.getD 1 false = true → x.ownBlock = none ∨ x.ownBlock ≠ y'.ownBlock)
  d : l.getD 7 false = true → l.getD 12 false = false → Pst W0 es' S' ps' VV w'
  e : l.getD 12 false = true → ∃ wb pv', Pst W0 es' S' ps' VV wb ∧ VV 9 = .agg #[.string S', pv'] ∧ w' = (wb.setCell ⟨R, 0, none⟩ (.string S')).setCell ⟨R, 1, none⟩ pv'

variable {W0 : World} {m : List (Int × Int × Int)} {S : ByteArray} {ps : List (Int × ByteArray)} {es' : List (Int × Int)} {S' : ByteArray} {ps' : List (Int × ByteArray)} {R : Nat} {l : Array Bool} {VV : Nat → Value} {x y : Value} {w' : World}
theorem Sq.start (n : Nat) (h : Below W0.heap.size W0 w') : Sq W0 m S ps es' S' ps' R (Array.replicate n false) VV x y w' := by
  have e : ∀ i, (Array.replicate n false).getD i false = false := fun i => by
    cases q : (Array.replicate n false).getD i false
    · rfl
    · exact absurd q (by rw [Rg.rep_none]; decide)
  exact ⟨fun _ => h, fun _ q => (by rw [e] at q; cases q), fun _ q => (by rw [e] at q; cases q), fun q => (by rw [e] at q; cases q), fun q => (by rw [e] at q; cases q)⟩
theorem Sq.other (h : Sq W0 m S ps es' S' ps' R l VV x y w') {i : Nat} (h1 : i ≠ 1) (h3 : i ≠ 3) (h7 : i ≠ 7) (h9 : i ≠ 12) : Sq W0 m S ps es' S' ps' R (l.setIfInBounds i true) VV x y w' := by
  refine ⟨?_, ?_, ?_, ?_, ?_⟩
  · rw [getD_set_ne false h7]; exact h.b0
  · rw [getD_set_ne false h7, getD_set_ne false h1]; exact h.b1
  · rw [getD_set_ne false h7, getD_set_ne false h3, getD_set_ne false h1]; exact h.b3
  · rw [getD_set_ne false h7, getD_set_ne false h9]; exact h.d
  · rw [getD_set_ne false h9]; exact h.e
theorem Sq.pairs (h : Sq W0 m S ps es' S' ps' R l VV x y w') (hs : 1 < l.size) (n7 : l.getD 7 false = false) (n9 : l.getD 12 false = false) {x9 : Value} {w9 : World} (k : Below w'.heap.size w' w9) (hr : w9.ownsRow w'.heap.size 83 3 x9 m.length (cellsM m)) : Sq W0 m S ps es' S' ps' R (l.setIfInBounds 1 true) VV x9 y w9 := by
  have hz := (h.b0 n7).size
  refine ⟨?_, ?_, ?_, ?_, ?_⟩
  · exact fun _ => (h.b0 n7).trans (k.mono hz)
  · exact fun _ _ => row_mono hr hz
  · rw [getD_set_ne false (by decide : 1 ≠ 3)]
    intro _ h3
    obtain ⟨y', e, r, o, _⟩ := h.b3 n7 h3
    refine ⟨y', e, row_below r k, o, fun _ => ?_⟩
    cases hx : x9.ownBlock with
    | none => exact .inl rfl
    | some g =>
      refine .inr fun hy => ?_
      have h1 := (hr.lt g hx).1
      have h2 := (r.lt g hy.symm).2
      omega
  · rw [getD_set_ne false (by decide : 1 ≠ 7), n7]; intro q; cases q
  · rw [getD_set_ne false (by decide : 1 ≠ 12), n9]; intro q; cases q
theorem Sq.parts (h : Sq W0 m S ps es' S' ps' R l VV x y w') (hs : 3 < l.size) (n7 : l.getD 7 false = false) (n9 : l.getD 12 false = false) {y9 : Value} {w9 : World} (k : Below w'.heap.size w' w9) (hr : w9.ownsRow w'.heap.size 79 2 y9 ps.length (cellsT ps)) (ho : ∃ k, y9.ownBlock = some k) : Sq W0 m S ps es' S' ps' R (l.setIfInBounds 3 true) VV x (.agg #[.string S, y9]) w9 := by
  have hz := (h.b0 n7).size
  refine ⟨?_, ?_, ?_, ?_, ?_⟩
  · exact fun _ => (h.b0 n7).trans (k.mono hz)
  · rw [getD_set_ne false (by decide : 3 ≠ 1)]
    exact fun _ h1 => row_below (h.b1 n7 h1) k
  · rw [getD_set_ne false (by decide : 3 ≠ 1)]
    refine fun _ _ => ⟨y9, rfl, row_mono hr hz, ho, fun h1 => ?_⟩
    cases hx : x.ownBlock with
    | none => exact .inl rfl
    | some g =>
      refine .inr fun hy => ?_
      have h4 := (hr.lt g hy.symm).1
      have h2 := ((h.b1 n7 h1).lt g hx).2
      omega
  · rw [getD_set_ne false (by decide : 3 ≠ 7), n7]; intro q; cases q
  · rw [getD_set_ne false (by decide : 3 ≠ 12), n9]; intro q; cases q
theorem Sq.put (h : Sq W0 m S ps es' S' ps' R l VV x y w') (hs : 7 < l.size) (n9 : l.getD 12 false = false) {V9 : Nat → Value} {w9 : World} (hp : Pst W0 es' S' ps' V9 w9) : Sq W0 m S ps es' S' ps' R (l.setIfInBounds 7 true) V9 x y w9 := by
  refine ⟨?_, ?_, ?_, ?_, ?_⟩
  · rw [Rg.set_same hs]; intro q; cases q
  · rw [Rg.set_same hs]; intro q; cases q
  · rw [Rg.set_same hs]; intro q; cases q
  · exact fun _ _ => hp
  · rw [getD_set_ne false (by decide : 7 ≠ 12), n9]; intro q; cases q
theorem Sq.lay (h : Sq W0 m S ps es' S' ps' R l VV x y w') (hs : 12 < l.size) (h7 : l.getD 7 false = true) (n9 : l.getD 12 false = false) {pv' : Value} (e9 : VV 9 = .agg #[.string S', pv']) : Sq W0 m S ps es' S' ps' R (l.setIfInBounds 12 true) VV x y ((w'.setCell ⟨R, 0, none⟩ (.string S')).setCell ⟨R, 1, none⟩ pv') := by
  refine ⟨?_, ?_, ?_, ?_, ?_⟩
  · rw [getD_set_ne false (by decide : 12 ≠ 7), h7]; intro q; cases q
  · rw [getD_set_ne false (by decide : 12 ≠ 7), h7]; intro q; cases q
  · rw [getD_set_ne false (by decide : 12 ≠ 7), h7]; intro q; cases q
  · rw [Rg.set_same hs]; intro _ q; cases q
  · exact fun _ => ⟨w', pv', h.d h7 n9, e9, rfl⟩
theorem ownP_mono {w : World} {base base' : Nat} {v : Value} {es : List (Int × Int)} (h : OwnP w base v es) (hb : base' ≤ base) : OwnP w base' v es :=
  h.imp id fun ⟨g, o, cap, cur, q, hg, r⟩ => ⟨g, o, cap, cur, q, Nat.le_trans hb hg, r⟩
theorem rows_low {w : World} {base base' : Nat} {v : Value} {es : List (Int × Int)} {pv : Value} {ps : List (Int × ByteArray)} (h : Rows2 w base v es pv ps) (hb : base' ≤ base) : Rows2 w base' v es pv ps :=
  ⟨ownP_mono h.rm hb, row_mono h.rt hb, h.ne, h.nn⟩
theorem rows_set {w : World} {base : Nat} {v : Value} {es : List (Int × Int)} {pv : Value} {ps : List (Int × ByteArray)} (h : Rows2 w base v es pv ps) {a : Addr} (ha : a.block < base) (u : Value) : Rows2 (w.setCell a u) base v es pv ps :=
  ⟨h.rm.setCell_other (fun e => by have := (h.rm.lt _ e).1; omega) u, ownsRow_setCell_other h.rt (fun e => by have := (h.rt.lt _ e).1; omega) u, h.ne, h.nn⟩
theorem vals_put7 {l : Array Bool} {VV t : Nat → Value} (h : Rg.Vals l VV t) (hD : ∀ j, 8 ≤ j → j < 14 → l.getD j false = true → l.getD 7 false = true) (n7 : l.getD 7 false = false) (c a b : Value) :
    Rg.Vals (l.setIfInBounds 7 true) (fun j => if j = 7 then c else if j = 8 then a else if j = 9 then b else if j = 11 then a else VV j) (fun j => if j = 7 then c else t j) := by
  intro j hj
  by_cases e7 : j = 7
  · simp [e7]
  · rw [getD_set_ne false (fun e => e7 e.symm)] at hj
    have hne : ∀ i, 8 ≤ i → i < 14 → j ≠ i := fun i h1 h2 e => by rw [e] at hj; rw [hD i h1 h2 hj] at n7; cases n7
    have := h j hj
    simp [e7, hne 8 (by omega) (by omega), hne 9 (by omega) (by omega), hne 11 (by omega) (by omega), this]
set_option maxRecDepth 8000 in
set_option maxHeartbeats 16000000 in
theorem sput_ok (W : World) (v : Value) (m : List (Int × Int × Int)) (hm : IsM W v m) (hmm : m.length ≤ 1073741824) (S : ByteArray) (pv : Value) (ps : List (Int × ByteArray)) (hT : IsT W pv ps) (hps : ps.length ≤ 1073741824) (hpp : ∀ p ∈ ps, p.2.size ≤ 1073741824) (hS : S.size ≤ 1073741824) (q : Nat) (T : ByteArray) (hTz : T.size ≤ maxLen) (o : Bool)
    (hok : okM m = true) (hst : stB S ps = true) (hTok : okB T.data.toList = true) (hq : q ≤ 40) :
    Calls Tryz.prog 7 #[v, .agg #[.string S, pv], .int .i64 (q : Nat), .string T, .bool o] W fun r W' => ∃ v' pv', r = .returned (.tuple #[v', .agg #[.string (putF o (m.map Prod.snd) S ps (q : Nat) T).2.1, pv'], .bool (putF o (m.map Prod.snd) S ps (q : Nat) T).2.2.2]) ∧ Rows2 W' W.heap.size v' (putF o (m.map Prod.snd) S ps (q : Nat) T).1 pv' (putF o (m.map Prod.snd) S ps (q : Nat) T).2.2.1 ∧ Below W.heap.size W W' := by
  obtain ⟨es', S', ps', bb, hF⟩ : ∃ es' S' ps' bb, putF o (m.map Prod.snd) S ps (q : Nat) T = (es', S', ps', bb) := ⟨_, _, _, _, rfl⟩
  rw [hF]
  show Calls Tryz.prog 7 #[v, .agg #[.string S, pv], .int .i64 (q : Nat), .string T, .bool o] W fun r W' => ∃ v' pv', r = .returned (.tuple #[v', .agg #[.string S', pv'], .bool bb]) ∧ Rows2 W' W.heap.size v' es' pv' ps' ∧ Below W.heap.size W W'
  obtain ⟨va, vc, rfl⟩ := isM_slice hm
  obtain ⟨pa, pc, rfl, hT'⟩ := id hT
  clear hT'
  have hb0 : Below W.heap.size W ((W.alloc (.cells #[.string S, .slice pa ps.length pc] 26)).alloc (.cells #[.string ⟨#[]⟩, .slice none 0 0] 26)) := ((Below.refl _ _).alloc (Nat.le_refl _) _).alloc (by simp) _
  have c0 : ((W.alloc (.cells #[.string S, .slice pa ps.length pc] 26)).alloc (.cells #[.string ⟨#[]⟩, .slice none 0 0] 26)).cell? ⟨W.heap.size, 0, none⟩ = some (.string S) := by simp
  have c1 : ((W.alloc (.cells #[.string S, .slice pa ps.length pc] 26)).alloc (.cells #[.string ⟨#[]⟩, .slice none 0 0] 26)).cell? ⟨W.heap.size, 1, none⟩ = some (.slice pa ps.length pc) := by simp
  have r0 : ((W.alloc (.cells #[.string S, .slice pa ps.length pc] 26)).alloc (.cells #[.string ⟨#[]⟩, .slice none 0 0] 26)).cell? ⟨W.heap.size + 1, 0, none⟩ = some (.string ⟨#[]⟩) := by simp
  have r1 : ((W.alloc (.cells #[.string S, .slice pa ps.length pc] 26)).alloc (.cells #[.string ⟨#[]⟩, .slice none 0 0] 26)).cell? ⟨W.heap.size + 1, 1, none⟩ = some (.slice none 0 0) := by simp
  have rf : ∀ j, ((W.alloc (.cells #[.string S, .slice pa ps.length pc] 26)).alloc (.cells #[.string ⟨#[]⟩, .slice none 0 0] 26)).frozen? ⟨W.heap.size + 1, j, none⟩ = false := fun j => by simp
  have hX : W.heap.size < ((W.alloc (.cells #[.string S, .slice pa ps.length pc] 26)).alloc (.cells #[.string ⟨#[]⟩, .slice none 0 0] 26)).heap.size := by simp; omega
  have hR : W.heap.size + 1 < ((W.alloc (.cells #[.string S, .slice pa ps.length pc] 26)).alloc (.cells #[.string ⟨#[]⟩, .slice none 0 0] 26)).heap.size := by simp
  have hRW : W.heap.size ≤ W.heap.size + 1 := by omega
  have HM0 := (show Hid (IsM W (.slice va m.length vc) m) from hm)
  have HT0 := (show Hid (IsT W (.slice pa ps.length pc) ps) from hT)
  have HPP := (show Hid (∀ p ∈ ps, p.2.size ≤ 1073741824) from hpp)
  clear hm hT hpp
  go_enter Tryz.func7, Tryz.ntmps7
  go_wp2_with fail
  generalize ((W.alloc (.cells #[.string S, .slice pa ps.length pc] 26)).alloc (.cells #[.string ⟨#[]⟩, .slice none 0 0] 26)) = W1 at *
  refine (Ms.sok_any W1 _ m (HM0.out.below hb0) hmm).mono ?_
  rintro e w2 ⟨rfl, k2⟩
  rw [hok]
  generalize hRR : W.heap.size + 1 = R at *
  generalize hXX : W.heap.size = X at *
  have d0 := (k2.cell (p := ⟨X, 0, none⟩) hX).trans c0
  have d1 := (k2.cell (p := ⟨X, 1, none⟩) hX).trans c1
  have s0 := (k2.cell (p := ⟨R, 0, none⟩) hR).trans r0
  have s1 := (k2.cell (p := ⟨R, 1, none⟩) hR).trans r1
  have sf := fun j => (k2.frozen (p := ⟨R, j, none⟩) hR).trans (rf j)
  have hX2 : X < w2.heap.size := by have := k2.size; omega
  have hR2 : R < w2.heap.size := by have := k2.size; omega
  have HB2 := (show Hid (Below X W w2) from hb0.trans (k2.mono (by omega)))
  have HM2 := (show Hid (IsM w2 (.slice va m.length vc) m) from (HM0.out.below (by rw [hXX]; exact hb0)).below k2)
  have HT2 := (show Hid (IsT w2 (.slice pa ps.length pc) ps) from (HT0.out.below (by rw [hXX]; exact hb0)).below k2)
  clear k2 c0 c1 r0 r1 rf hX hR hb0 HM0 HT0
  go_wp2_with fail
  refine (StS.sstream_any S _ ps _ HT2.out hS HPP.out).mono ?_
  rintro e w3 ⟨rfl, k3⟩
  rw [hst]
  have c0 := (k3.cell (p := ⟨X, 0, none⟩) hX2).trans d0
  have c1 := (k3.cell (p := ⟨X, 1, none⟩) hX2).trans d1
  have r0 := (k3.cell (p := ⟨R, 0, none⟩) hR2).trans s0
  have r1 := (k3.cell (p := ⟨R, 1, none⟩) hR2).trans s1
  have rf := fun j => (k3.frozen (p := ⟨R, j, none⟩) hR2).trans (sf j)
  have hX : X < w3.heap.size := by have := k3.size; omega
  have hR : R < w3.heap.size := by have := k3.size; omega
  have HB := (show Hid (Below X W w3) from HB2.out.trans (k3.mono (by omega)))
  have HM3 := (show Hid (IsM w3 (.slice va m.length vc) m) from HM2.out.below k3)
  have HT3 := (show Hid (IsT w3 (.slice pa ps.length pc) ps) from HT2.out.below k3)
  clear k3 d0 d1 s0 s1 sf hX2 hR2 HB2 HM2 HT2
  go_wp2_with fail
  refine (TxW.sok_any T hTz _).mono ?_
  rintro e w4 ⟨rfl, rfl⟩
  rw [hTok]
  go_wp2_with fail
  refine (StS.in_any (q : Nat) 0 40 _).mono ?_
  rintro e w5 ⟨rfl, rfl⟩
  have hin : decide ((0 : Int) ≤ (q : Int) ∧ (q : Int) ≤ 40) = true := by simp; omega
  rw [hin]
  clear hin
  go_upto_region 3 with fail
  have hmix : Tryz.prog.follows .mixedOrders = true := by kernel_rfl
  obtain ⟨hgE, hmE⟩ := okM_out m hok
  have HME := (show Hid (m = prs (m.map Prod.snd)) from hmE)
  clear hmE
  refine wp_region_any hmix ?_
  refine Ri.any_inv (I := fun l a' w' => l.size = 14 ∧ ∃ (VV t : Nat → Value) (x y : Value), (VV 0 = (.slice va m.length vc : Value) ∧ VV 2 = (.agg #[.string S, .slice pa ps.length pc] : Value) ∧ VV 4 = (.int .i64 (q : Nat) : Value) ∧ VV 5 = (.string T : Value) ∧ VV 6 = (.bool o : Value) ∧ VV 10 = (.bool bb : Value) ∧ VV 13 = (.bool bb : Value)) ∧ a' = { tmps := #[(Value.slice va m.length vc : Value), Value.agg #[Value.string S, Value.slice pa ps.length pc], Value.int IntKind.i64 ↑q, Value.string T, Value.bool o, undef, Value.pointer (some { block := X, off := 0 }), undef, undef, undef, t 11, Value.pointer (some { block := R, off := 0 }), t 13, Value.slice va m.length vc, Value.bool true, Value.bool false, Value.bool false, Value.agg #[Value.string S, Value.slice pa ps.length pc], Value.bool true, Value.bool false, Value.bool false, Value.bool false, Value.string T, Value.bool true, Value.bool false, Value.bool false, Value.bool false, Value.int IntKind.i64 ↑q, Value.bool true, Value.bool false, Value.bool false, undef, undef, t 0, x, t 2, y, t 4, t 5, t 6, t 7, t 8, t 9, t 10], defers := [] } ∧ Rg.Vals l VV t ∧ Sq w5 m S ps es' S' ps' R l VV x y w') ?sz ?low ?step ?fin _ _ _ _ ?start (Ri.closed_none _ _ _) (Rg.left_all _)
  case sz => exact fun l a' w' h => h.1
  case start =>
    exact ⟨by simp, fun j => [(.slice va m.length vc : Value), undef, (.agg #[.string S, .slice pa ps.length pc] : Value), undef, (.int .i64 (q : Nat) : Value), (.string T : Value), (.bool o : Value), undef, undef, undef, (.bool bb : Value), undef, undef, (.bool bb : Value)].getD j undef, fun j => [(undef : Value), (undef : Value), (undef : Value), (undef : Value), (undef : Value), (undef : Value), (undef : Value), (undef : Value), (undef : Value), (undef : Value), (undef : Value), (Value.slice none 0 0 : Value), (undef : Value), (Value.bool false : Value)].getD j undef, undef, undef, ⟨rfl, rfl, rfl, rfl, rfl, rfl, rfl⟩, rfl, Rg.vals_none _ _ _, Sq.start _ (Below.refl _ _).drew⟩
  case low => exact Ri.low_of (by kernel_rfl)
  case step =>
    rintro l a' w' i ⟨hsz, VV, t, x, y, hvf, rfl, hv, HM⟩ hcl hi
    obtain ⟨h0, op, ho, hd⟩ := mem_ready.1 hi
    have hin : i < 14 := (Array.getElem?_eq_some_iff.1 ho).1
    have hnl := Rg.not_listed h0
    have hL7 : l.getD 7 false = true → ∀ j, j < 7 → l.getD j false = true := Ri.up_of (by kernel_rfl) hcl
    have hL12 : l.getD 12 false = true → ∀ j, j < 12 → l.getD j false = true := Ri.up_of (by kernel_rfl) hcl
    have hD : ∀ j, 8 ≤ j → j < 14 → l.getD j false = true → l.getD 7 false = true := Ri.down_of (n := 7) (m := 8) (k := 6) (by kernel_rfl) hcl
    have HVF := (show Hid (VV 0 = (.slice va m.length vc : Value) ∧ VV 2 = (.agg #[.string S, .slice pa ps.length pc] : Value) ∧ VV 4 = (.int .i64 (q : Nat) : Value) ∧ VV 5 = (.string T : Value) ∧ VV 6 = (.bool o : Value) ∧ VV 10 = (.bool bb : Value) ∧ VV 13 = (.bool bb : Value)) from hvf)
    clear h0 hi hcl hvf
    have hc : i = 0 ∨ i = 1 ∨ i = 2 ∨ i = 3 ∨ i = 4 ∨ i = 5 ∨ i = 6 ∨ i = 7 ∨ i = 8 ∨ i = 9 ∨ i = 10 ∨ i = 11 ∨ i = 12 ∨ i = 13 := by omega
    rcases hc with rfl | rfl | rfl | rfl | rfl | rfl | rfl | rfl | rfl | rfl | rfl | rfl | rfl | rfl
    · obtain rfl : _ = op := Option.some.inj (show some _ = some op from ho)
      have nl : l.getD 0 false = false := by
        cases q : l.getD 0 false
        · rfl
        · rw [q] at hnl; cases hnl
      have n7 : l.getD 7 false = false := by
        cases q : l.getD 7 false
        · rfl
        · rw [hL7 q 0 (by omega)] at nl; cases nl
      have n9 : l.getD 12 false = false := by
        cases q : l.getD 12 false
        · rfl
        · rw [hL12 q 0 (by omega)] at nl; cases nl
      have HW := (show Hid (Below w5.heap.size w5 w') from HM.b0 n7)
      have HV := (show Hid (Rg.Vals l VV t) from hv)
      have HQ := (show Hid (Sq w5 m S ps es' S' ps' R l VV x y w') from HM)
      clear hv hd ho HM
      refine wpOp_step rfl fun K9 hK9 => ?_
      have HKK := (show Hid _ from hK9)
      clear hK9
      go_simp
      exact HKK.out _ _ ⟨by simp [hsz], VV, fun j => if j = 0 then (.slice va m.length vc : Value) else t j, x, y, HVF.out, by simp, HV.out.put 0 _ HVF.out.1.symm, HQ.out.other (by decide) (by decide) (by decide) (by decide)⟩
    · obtain rfl : _ = op := Option.some.inj (show some _ = some op from ho)
      have nl : l.getD 1 false = false := by
        cases q : l.getD 1 false
        · rfl
        · rw [q] at hnl; cases hnl
      have n7 : l.getD 7 false = false := by
        cases q : l.getD 7 false
        · rfl
        · rw [hL7 q 1 (by omega)] at nl; cases nl
      have n9 : l.getD 12 false = false := by
        cases q : l.getD 12 false
        · rfl
        · rw [hL12 q 1 (by omega)] at nl; cases nl
      have e0 : t 0 = .slice va m.length vc := (hv 0 (hd { on := 0, ground := .data } (by simp) rfl)).trans HVF.out.1
      have HW := (show Hid (Below w5.heap.size w5 w') from HM.b0 n7)
      have HV := (show Hid (Rg.Vals l VV t) from hv)
      have HQ := (show Hid (Sq w5 m S ps es' S' ps' R l VV x y w') from HM)
      clear hv hd ho HM
      refine wpOp_step rfl fun K9 hK9 => ?_
      have HKK := (show Hid _ from hK9)
      clear hK9
      go_simp
      refine (copy_any w' _ m (HM3.out.below HW.out) hmm).mono ?_
      rintro e w9 ⟨x9, rfl, hr9, k9⟩
      exact HKK.out _ _ ⟨by simp [hsz], VV, fun j => if j = 1 then VV 1 else t j, x9, y, HVF.out, by simp [e0], HV.out.put 1 _ rfl, HQ.out.pairs (by omega) n7 n9 k9 hr9⟩
    · obtain rfl : _ = op := Option.some.inj (show some _ = some op from ho)
      have nl : l.getD 2 false = false := by
        cases q : l.getD 2 false
        · rfl
        · rw [q] at hnl; cases hnl
      have n7 : l.getD 7 false = false := by
        cases q : l.getD 7 false
        · rfl
        · rw [hL7 q 2 (by omega)] at nl; cases nl
      have n9 : l.getD 12 false = false := by
        cases q : l.getD 12 false
        · rfl
        · rw [hL12 q 2 (by omega)] at nl; cases nl
      have HW := (show Hid (Below w5.heap.size w5 w') from HM.b0 n7)
      have y0 : w'.cell? ⟨X, 0, none⟩ = some (.string S) := (HW.out.cell (p := ⟨X, 0, none⟩) hX).trans c0
      have y1 : w'.cell? ⟨X, 1, none⟩ = some (.slice pa ps.length pc) := (HW.out.cell (p := ⟨X, 1, none⟩) hX).trans c1
      have HV := (show Hid (Rg.Vals l VV t) from hv)
      have HQ := (show Hid (Sq w5 m S ps es' S' ps' R l VV x y w') from HM)
      clear hv hd ho HM
      refine wpOp_step rfl fun K9 hK9 => ?_
      have HKK := (show Hid _ from hK9)
      clear hK9
      go_simp
      exact HKK.out _ _ ⟨by simp [hsz], VV, fun j => if j = 2 then (.agg #[.string S, .slice pa ps.length pc] : Value) else t j, x, y, HVF.out, by simp, HV.out.put 2 _ HVF.out.2.1.symm, HQ.out.other (by decide) (by decide) (by decide) (by decide)⟩
    · obtain rfl : _ = op := Option.some.inj (show some _ = some op from ho)
      have nl : l.getD 3 false = false := by
        cases q : l.getD 3 false
        · rfl
        · rw [q] at hnl; cases hnl
      have n7 : l.getD 7 false = false := by
        cases q : l.getD 7 false
        · rfl
        · rw [hL7 q 3 (by omega)] at nl; cases nl
      have n9 : l.getD 12 false = false := by
        cases q : l.getD 12 false
        · rfl
        · rw [hL12 q 3 (by omega)] at nl; cases nl
      have e2 : t 2 = .agg #[.string S, .slice pa ps.length pc] := (hv 2 (hd { on := 2, ground := .data } (by simp) rfl)).trans HVF.out.2.1
      have HW := (show Hid (Below w5.heap.size w5 w') from HM.b0 n7)
      have HV := (show Hid (Rg.Vals l VV t) from hv)
      have HQ := (show Hid (Sq w5 m S ps es' S' ps' R l VV x y w') from HM)
      clear hv hd ho HM
      refine wpOp_step rfl fun K9 hK9 => ?_
      have HKK := (show Hid _ from hK9)
      clear hK9
      go_simp
      refine (lcopy_any S _ ps w' (HT3.out.below HW.out) hps).mono ?_
      rintro e w9 ⟨y9, rfl, hr9, ho9, k9⟩
      exact HKK.out _ _ ⟨by simp [hsz], VV, fun j => if j = 3 then VV 3 else t j, x, (.agg #[.string S, y9]), HVF.out, by simp [e2], HV.out.put 3 _ rfl, HQ.out.parts (by omega) n7 n9 k9 hr9 ho9⟩
    · obtain rfl : _ = op := Option.some.inj (show some _ = some op from ho)
      have nl : l.getD 4 false = false := by
        cases q : l.getD 4 false
        · rfl
        · rw [q] at hnl; cases hnl
      have n7 : l.getD 7 false = false := by
        cases q : l.getD 7 false
        · rfl
        · rw [hL7 q 4 (by omega)] at nl; cases nl
      have n9 : l.getD 12 false = false := by
        cases q : l.getD 12 false
        · rfl
        · rw [hL12 q 4 (by omega)] at nl; cases nl
      have HW := (show Hid (Below w5.heap.size w5 w') from HM.b0 n7)
      have HV := (show Hid (Rg.Vals l VV t) from hv)
      have HQ := (show Hid (Sq w5 m S ps es' S' ps' R l VV x y w') from HM)
      clear hv hd ho HM
      refine wpOp_step rfl fun K9 hK9 => ?_
      have HKK := (show Hid _ from hK9)
      clear hK9
      go_simp
      exact HKK.out _ _ ⟨by simp [hsz], VV, fun j => if j = 4 then (.int .i64 (q : Nat) : Value) else t j, x, y, HVF.out, by simp, HV.out.put 4 _ HVF.out.2.2.1.symm, HQ.out.other (by decide) (by decide) (by decide) (by decide)⟩
    · obtain rfl : _ = op := Option.some.inj (show some _ = some op from ho)
      have nl : l.getD 5 false = false := by
        cases q : l.getD 5 false
        · rfl
        · rw [q] at hnl; cases hnl
      have n7 : l.getD 7 false = false := by
        cases q : l.getD 7 false
        · rfl
        · rw [hL7 q 5 (by omega)] at nl; cases nl
      have n9 : l.getD 12 false = false := by
        cases q : l.getD 12 false
        · rfl
        · rw [hL12 q 5 (by omega)] at nl; cases nl
      have HW := (show Hid (Below w5.heap.size w5 w') from HM.b0 n7)
      have HV := (show Hid (Rg.Vals l VV t) from hv)
      have HQ := (show Hid (Sq w5 m S ps es' S' ps' R l VV x y w') from HM)
      clear hv hd ho HM
      refine wpOp_step rfl fun K9 hK9 => ?_
      have HKK := (show Hid _ from hK9)
      clear hK9
      go_simp
      exact HKK.out _ _ ⟨by simp [hsz], VV, fun j => if j = 5 then (.string T : Value) else t j, x, y, HVF.out, by simp, HV.out.put 5 _ HVF.out.2.2.2.1.symm, HQ.out.other (by decide) (by decide) (by decide) (by decide)⟩
    · obtain rfl : _ = op := Option.some.inj (show some _ = some op from ho)
      have nl : l.getD 6 false = false := by
        cases q : l.getD 6 false
        · rfl
        · rw [q] at hnl; cases hnl
      have n7 : l.getD 7 false = false := by
        cases q : l.getD 7 false
        · rfl
        · rw [hL7 q 6 (by omega)] at nl; cases nl
      have n9 : l.getD 12 false = false := by
        cases q : l.getD 12 false
        · rfl
        · rw [hL12 q 6 (by omega)] at nl; cases nl
      have HW := (show Hid (Below w5.heap.size w5 w') from HM.b0 n7)
      have HV := (show Hid (Rg.Vals l VV t) from hv)
      have HQ := (show Hid (Sq w5 m S ps es' S' ps' R l VV x y w') from HM)
      clear hv hd ho HM
      refine wpOp_step rfl fun K9 hK9 => ?_
      have HKK := (show Hid _ from hK9)
      clear hK9
      go_simp
      exact HKK.out _ _ ⟨by simp [hsz], VV, fun j => if j = 6 then (.bool o : Value) else t j, x, y, HVF.out, by simp, HV.out.put 6 _ HVF.out.2.2.2.2.1.symm, HQ.out.other (by decide) (by decide) (by decide) (by decide)⟩
    · obtain rfl : _ = op := Option.some.inj (show some _ = some op from ho)
      have nl : l.getD 7 false = false := by
        cases q : l.getD 7 false
        · rfl
        · rw [q] at hnl; cases hnl
      have n7 := nl
      have n9 : l.getD 12 false = false := by
        cases q : l.getD 12 false
        · rfl
        · rw [hL12 q 7 (by omega)] at nl; cases nl
      have e4 : t 4 = .int .i64 (q : Nat) := (hv 4 (hd { on := 4, ground := .data } (by simp) rfl)).trans HVF.out.2.2.1
      have e5 : t 5 = .string T := (hv 5 (hd { on := 5, ground := .data } (by simp) rfl)).trans HVF.out.2.2.2.1
      have e6 : t 6 = .bool o := (hv 6 (hd { on := 6, ground := .data } (by simp) rfl)).trans HVF.out.2.2.2.2.1
      have q1 : l.getD 1 false = true := hd { on := 1, ground := .data } (by simp) rfl
      have q3 : l.getD 3 false = true := hd { on := 3, ground := .data } (by simp) rfl
      have kB := HM.b0 n7
      have rM := HM.b1 n7 q1
      obtain ⟨y9, rfl, rT, oT, sp⟩ := HM.b3 n7 q3
      have rows : Rows2 w' w5.heap.size x (m.map Prod.snd) y9 ps := ⟨OwnP.of_row (by rw [List.length_map, ← HME.out]; exact rM), rT, sp q1, oT⟩
      have LP := lput_any w' w5.heap.size kB.size o x (m.map Prod.snd) hgE S y9 ps rows hst q T hTok (by omega)
      rw [hF] at LP
      have HLP := (show Hid _ from LP)
      clear rM rT oT sp rows LP
      have HV := (show Hid (Rg.Vals l VV t) from hv)
      have HQ := (show Hid (Sq w5 m S ps es' S' ps' R l VV x (.agg #[.string S, y9]) w') from HM)
      clear hv hd ho HM
      refine wpOp_step rfl fun K9 hK9 => ?_
      have HKK := (show Hid _ from hK9)
      clear hK9
      go_simp
      refine Calls.mono HLP.out ?_
      rintro e w9 ⟨v9, pv9, rfl, R9, B9, _, _⟩
      have hp9 : Pst w5 es' S' ps' (fun j => if j = 7 then .tuple #[v9, .agg #[.string S', pv9], .bool bb] else if j = 8 then v9 else if j = 9 then .agg #[.string S', pv9] else if j = 11 then v9 else VV j) w9 := ⟨kB.trans B9, v9, pv9, by simp [HVF.out.2.2.2.2.2.1], by simp, by simp, by simp, R9⟩
      exact HKK.out _ _ ⟨by simp [hsz], _, fun j => if j = 7 then .tuple #[v9, .agg #[.string S', pv9], .bool bb] else t j, x, (.agg #[.string S, y9]), by simpa using HVF.out, by simp [e4, e5, e6], vals_put7 HV.out hD n7 _ _ _, HQ.out.put (by omega) n9 hp9⟩
    · obtain rfl : _ = op := Option.some.inj (show some _ = some op from ho)
      have nl : l.getD 8 false = false := by
        cases q : l.getD 8 false
        · rfl
        · rw [q] at hnl; cases hnl
      have n9 : l.getD 12 false = false := by
        cases q : l.getD 12 false
        · rfl
        · rw [hL12 q 8 (by omega)] at nl; cases nl
      have h7 : l.getD 7 false = true := hd { on := 7, ground := .data } (by simp) rfl
      obtain ⟨kP, v', pv', E7, E8, E9, E11, RP⟩ := HM.d h7 n9
      rw [HVF.out.2.2.2.2.2.1] at E7
      have e7 := (hv 7 (hd { on := 7, ground := .data } (by simp) rfl)).trans E7
      have HV := (show Hid (Rg.Vals l VV t) from hv)
      have HQ := (show Hid (Sq w5 m S ps es' S' ps' R l VV x y w') from HM)
      clear hv hd ho HM RP kP
      refine wpOp_step rfl fun K9 hK9 => ?_
      have HKK := (show Hid _ from hK9)
      clear hK9
      rw [e7]
      go_simp
      exact HKK.out _ _ ⟨by simp [hsz], VV, fun j => if j = 8 then v' else t j, x, y, HVF.out, by simp [e7], HV.out.put 8 _ E8.symm, HQ.out.other (by decide) (by decide) (by decide) (by decide)⟩
    · obtain rfl : _ = op := Option.some.inj (show some _ = some op from ho)
      have nl : l.getD 9 false = false := by
        cases q : l.getD 9 false
        · rfl
        · rw [q] at hnl; cases hnl
      have n9 : l.getD 12 false = false := by
        cases q : l.getD 12 false
        · rfl
        · rw [hL12 q 9 (by omega)] at nl; cases nl
      have h7 : l.getD 7 false = true := hd { on := 7, ground := .data } (by simp) rfl
      obtain ⟨kP, v', pv', E7, E8, E9, E11, RP⟩ := HM.d h7 n9
      rw [HVF.out.2.2.2.2.2.1] at E7
      have e7 := (hv 7 (hd { on := 7, ground := .data } (by simp) rfl)).trans E7
      have HV := (show Hid (Rg.Vals l VV t) from hv)
      have HQ := (show Hid (Sq w5 m S ps es' S' ps' R l VV x y w') from HM)
      clear hv hd ho HM RP kP
      refine wpOp_step rfl fun K9 hK9 => ?_
      have HKK := (show Hid _ from hK9)
      clear hK9
      rw [e7]
      go_simp
      exact HKK.out _ _ ⟨by simp [hsz], VV, fun j => if j = 9 then .agg #[.string S', pv'] else t j, x, y, HVF.out, by simp [e7], HV.out.put 9 _ E9.symm, HQ.out.other (by decide) (by decide) (by decide) (by decide)⟩
    · obtain rfl : _ = op := Option.some.inj (show some _ = some op from ho)
      have nl : l.getD 10 false = false := by
        cases q : l.getD 10 false
        · rfl
        · rw [q] at hnl; cases hnl
      have n9 : l.getD 12 false = false := by
        cases q : l.getD 12 false
        · rfl
        · rw [hL12 q 10 (by omega)] at nl; cases nl
      have h7 : l.getD 7 false = true := hd { on := 7, ground := .data } (by simp) rfl
      obtain ⟨kP, v', pv', E7, E8, E9, E11, RP⟩ := HM.d h7 n9
      rw [HVF.out.2.2.2.2.2.1] at E7
      have e7 := (hv 7 (hd { on := 7, ground := .data } (by simp) rfl)).trans E7
      have HV := (show Hid (Rg.Vals l VV t) from hv)
      have HQ := (show Hid (Sq w5 m S ps es' S' ps' R l VV x y w') from HM)
      clear hv hd ho HM RP kP
      refine wpOp_step rfl fun K9 hK9 => ?_
      have HKK := (show Hid _ from hK9)
      clear hK9
      rw [e7]
      go_simp
      exact HKK.out _ _ ⟨by simp [hsz], VV, fun j => if j = 10 then (.bool bb : Value) else t j, x, y, HVF.out, by simp [e7], HV.out.put 10 _ HVF.out.2.2.2.2.2.1.symm, HQ.out.other (by decide) (by decide) (by decide) (by decide)⟩
    · obtain rfl : _ = op := Option.some.inj (show some _ = some op from ho)
      have nl : l.getD 11 false = false := by
        cases q : l.getD 11 false
        · rfl
        · rw [q] at hnl; cases hnl
      have n9 : l.getD 12 false = false := by
        cases q : l.getD 12 false
        · rfl
        · rw [hL12 q 11 (by omega)] at nl; cases nl
      have h7 : l.getD 7 false = true := hD 8 (by omega) (by omega) (hd { on := 8, ground := .data } (by simp) rfl)
      obtain ⟨kP, v', pv', E7, E8, E9, E11, RP⟩ := HM.d h7 n9
      rw [HVF.out.2.2.2.2.2.1] at E7
      have e8 := (hv 8 (hd { on := 8, ground := .data } (by simp) rfl)).trans E8
      have HV := (show Hid (Rg.Vals l VV t) from hv)
      have HQ := (show Hid (Sq w5 m S ps es' S' ps' R l VV x y w') from HM)
      clear hv hd ho HM RP kP
      refine wpOp_step rfl fun K9 hK9 => ?_
      have HKK := (show Hid _ from hK9)
      clear hK9
      rw [e8]
      go_simp
      exact HKK.out _ _ ⟨by simp [hsz], VV, fun j => if j = 11 then v' else t j, x, y, HVF.out, by simp [e8], HV.out.put 11 _ E11.symm, HQ.out.other (by decide) (by decide) (by decide) (by decide)⟩
    · obtain rfl : _ = op := Option.some.inj (show some _ = some op from ho)
      have nl : l.getD 12 false = false := by
        cases q : l.getD 12 false
        · rfl
        · rw [q] at hnl; cases hnl
      have n9 := nl
      have h7 : l.getD 7 false = true := hD 9 (by omega) (by omega) (hd { on := 9, ground := .data } (by simp) rfl)
      obtain ⟨kP, v', pv', E7, E8, E9, E11, RP⟩ := HM.d h7 n9
      rw [HVF.out.2.2.2.2.2.1] at E7
      have e9 := (hv 9 (hd { on := 9, ground := .data } (by simp) rfl)).trans E9
      obtain ⟨a5, c5, rfl⟩ := row_slice RP.rt
      have y0 : w'.cell? ⟨R, 0, none⟩ = some (.string ⟨#[]⟩) := (kP.cell (p := ⟨R, 0, none⟩) hR).trans r0
      have y1 : w'.cell? ⟨R, 1, none⟩ = some (.slice none 0 0) := (kP.cell (p := ⟨R, 1, none⟩) hR).trans r1
      have yf : ∀ j, w'.frozen? ⟨R, j, none⟩ = false := fun j => (kP.frozen (p := ⟨R, j, none⟩) hR).trans (rf j)
      have HV := (show Hid (Rg.Vals l VV t) from hv)
      have HQ := (show Hid (Sq w5 m S ps es' S' ps' R l VV x y w') from HM)
      clear hv hd ho HM RP kP
      refine wpOp_step rfl fun K9 hK9 => ?_
      have HKK := (show Hid _ from hK9)
      clear hK9
      rw [e9]
      go_simp
      exact HKK.out _ _ ⟨by simp [hsz], VV, fun j => if j = 12 then VV 12 else t j, x, y, HVF.out, by simp [e9], HV.out.put 12 _ rfl, HQ.out.lay (by omega) h7 n9 E9⟩
    · obtain rfl : _ = op := Option.some.inj (show some _ = some op from ho)
      have nl : l.getD 13 false = false := by
        cases q : l.getD 13 false
        · rfl
        · rw [q] at hnl; cases hnl
      have e10 : t 10 = .bool bb := (hv 10 (hd { on := 10, ground := .data } (by simp) rfl)).trans HVF.out.2.2.2.2.2.1
      have HV := (show Hid (Rg.Vals l VV t) from hv)
      have HQ := (show Hid (Sq w5 m S ps es' S' ps' R l VV x y w') from HM)
      clear hv hd ho HM
      refine wpOp_step rfl fun K9 hK9 => ?_
      have HKK := (show Hid _ from hK9)
      clear hK9
      go_simp
      exact HKK.out _ _ ⟨by simp [hsz], VV, fun j => if j = 13 then (.bool bb : Value) else t j, x, y, HVF.out, by simp [e10], HV.out.put 13 _ HVF.out.2.2.2.2.2.2.symm, HQ.out.other (by decide) (by decide) (by decide) (by decide)⟩
  case fin =>
    rintro l a' w' ⟨hsz, VV, t, x, y, hvf, rfl, hv, HM⟩ hall
    obtain ⟨wb, pv', ⟨kP, v', pv2, E7, E8, E9, E11, RP⟩, F9, rfl⟩ := HM.e (hall 12 (by simp))
    have HVF := (show Hid (VV 0 = (.slice va m.length vc : Value) ∧ VV 2 = (.agg #[.string S, .slice pa ps.length pc] : Value) ∧ VV 4 = (.int .i64 (q : Nat) : Value) ∧ VV 5 = (.string T : Value) ∧ VV 6 = (.bool o : Value) ∧ VV 10 = (.bool bb : Value) ∧ VV 13 = (.bool bb : Value)) from hvf)
    obtain rfl : pv2 = pv' := by rw [E9] at F9; simpa using F9
    have e11 : t 11 = v' := (hv 11 (hall 11 (by simp))).trans E11
    have e13 : t 13 = .bool bb := (hv 13 (hall 13 (by simp))).trans HVF.out.2.2.2.2.2.2
    have q0 : wb.cell? ⟨R, 0, none⟩ = some (.string ⟨#[]⟩) := (kP.cell (p := ⟨R, 0, none⟩) hR).trans r0
    have q1 : wb.cell? ⟨R, 1, none⟩ = some (.slice none 0 0) := (kP.cell (p := ⟨R, 1, none⟩) hR).trans r1
    have qq := set_two q0 q1 (.string S') pv2
    rw [e11, e13]
    have hbx := HB.out
    clear hv hall HM hvf HVF E7 E8 E9 E11 F9 e11 e13
    go_wp2
    refine bodyPost_ret (v := .tuple #[v', .agg #[.string S', pv2], .bool bb]) ?_ rfl ?_
    · simp [results, Tryz.results7, go_sem, qq.1, qq.2]
    · have hz := hbx.size
      exact ⟨v', pv2, rfl, rows_low (rows_set (rows_set RP (a := ⟨R, 0, none⟩) hR _) (a := ⟨R, 1, none⟩) hR _) (by omega), by rw [hXX]; exact ((hbx.trans (kP.mono (by omega))).setCell (p := ⟨R, 0, none⟩) hRW _).setCell (p := ⟨R, 1, none⟩) hRW _⟩
set_option maxRecDepth 8000 in
set_option maxHeartbeats 16000000 in
theorem sput_no (W : World) (v : Value) (m : List (Int × Int × Int)) (hm : IsM W v m) (hmm : m.length ≤ 1073741824) (S : ByteArray) (pv : Value) (ps : List (Int × ByteArray)) (hT : IsT W pv ps) (hpp : ∀ p ∈ ps, p.2.size ≤ 1073741824) (hS : S.size ≤ 1073741824) (q : Int) (T : ByteArray) (hTz : T.size ≤ maxLen) (o : Bool)
    (hno : ¬ (okM m = true ∧ stB S ps = true ∧ okB T.data.toList = true ∧ 0 ≤ q ∧ q ≤ 40)) :
    Calls Tryz.prog 7 #[v, .agg #[.string S, pv], .int .i64 q, .string T, .bool o] W fun r W' => ∃ g, r = .returned (.tuple #[.slice (some ⟨g, 0, none⟩) 0 0, .agg #[.string ⟨#[]⟩, .slice none 0 0], .bool false]) ∧ g < W'.heap.size ∧ Below W.heap.size W W' := by
  obtain ⟨va, vc, rfl⟩ := isM_slice hm
  obtain ⟨pa, pc, rfl, hT'⟩ := id hT
  clear hT'
  have hb0 : Below W.heap.size W ((W.alloc (.cells #[.string S, .slice pa ps.length pc] 26)).alloc (.cells #[.string ⟨#[]⟩, .slice none 0 0] 26)) := ((Below.refl _ _).alloc (Nat.le_refl _) _).alloc (by simp) _
  have c0 : ((W.alloc (.cells #[.string S, .slice pa ps.length pc] 26)).alloc (.cells #[.string ⟨#[]⟩, .slice none 0 0] 26)).cell? ⟨W.heap.size, 0, none⟩ = some (.string S) := by simp
  have c1 : ((W.alloc (.cells #[.string S, .slice pa ps.length pc] 26)).alloc (.cells #[.string ⟨#[]⟩, .slice none 0 0] 26)).cell? ⟨W.heap.size, 1, none⟩ = some (.slice pa ps.length pc) := by simp
  have r0 : ((W.alloc (.cells #[.string S, .slice pa ps.length pc] 26)).alloc (.cells #[.string ⟨#[]⟩, .slice none 0 0] 26)).cell? ⟨W.heap.size + 1, 0, none⟩ = some (.string ⟨#[]⟩) := by simp
  have r1 : ((W.alloc (.cells #[.string S, .slice pa ps.length pc] 26)).alloc (.cells #[.string ⟨#[]⟩, .slice none 0 0] 26)).cell? ⟨W.heap.size + 1, 1, none⟩ = some (.slice none 0 0) := by simp
  have rf : ∀ j, ((W.alloc (.cells #[.string S, .slice pa ps.length pc] 26)).alloc (.cells #[.string ⟨#[]⟩, .slice none 0 0] 26)).frozen? ⟨W.heap.size + 1, j, none⟩ = false := fun j => by simp
  have hX : W.heap.size < ((W.alloc (.cells #[.string S, .slice pa ps.length pc] 26)).alloc (.cells #[.string ⟨#[]⟩, .slice none 0 0] 26)).heap.size := by simp; omega
  have hR : W.heap.size + 1 < ((W.alloc (.cells #[.string S, .slice pa ps.length pc] 26)).alloc (.cells #[.string ⟨#[]⟩, .slice none 0 0] 26)).heap.size := by simp
  have hRW : W.heap.size ≤ W.heap.size + 1 := by omega
  have HM0 := (show Hid (IsM W (.slice va m.length vc) m) from hm)
  have HT0 := (show Hid (IsT W (.slice pa ps.length pc) ps) from hT)
  have HPP := (show Hid (∀ p ∈ ps, p.2.size ≤ 1073741824) from hpp)
  clear hm hT hpp
  go_enter Tryz.func7, Tryz.ntmps7
  go_wp2_with fail
  generalize ((W.alloc (.cells #[.string S, .slice pa ps.length pc] 26)).alloc (.cells #[.string ⟨#[]⟩, .slice none 0 0] 26)) = W1 at *
  refine (Ms.sok_any W1 _ m (HM0.out.below hb0) hmm).mono ?_
  rintro e w2 ⟨rfl, k2⟩
  generalize hRR : W.heap.size + 1 = R at *
  generalize hXX : W.heap.size = X at *
  have d0 := (k2.cell (p := ⟨X, 0, none⟩) hX).trans c0
  have d1 := (k2.cell (p := ⟨X, 1, none⟩) hX).trans c1
  have s0 := (k2.cell (p := ⟨R, 0, none⟩) hR).trans r0
  have s1 := (k2.cell (p := ⟨R, 1, none⟩) hR).trans r1
  have sf := fun j => (k2.frozen (p := ⟨R, j, none⟩) hR).trans (rf j)
  have hX2 : X < w2.heap.size := by have := k2.size; omega
  have hR2 : R < w2.heap.size := by have := k2.size; omega
  have HB2 := (show Hid (Below X W w2) from hb0.trans (k2.mono (by omega)))
  have HM2 := (show Hid (IsM w2 (.slice va m.length vc) m) from (HM0.out.below (by rw [hXX]; exact hb0)).below k2)
  have HT2 := (show Hid (IsT w2 (.slice pa ps.length pc) ps) from (HT0.out.below (by rw [hXX]; exact hb0)).below k2)
  clear k2 c0 c1 r0 r1 rf hX hR hb0 HM0 HT0
  cases hok : okM m
  · clear hno
    have qq := set_two s0 s1 (.string ⟨#[]⟩) (.slice none 0 0)
    have kb := HB2.out
    have kz : ((w2.setCell ⟨R, 0, none⟩ (.string ⟨#[]⟩)).setCell ⟨R, 1, none⟩ (.slice none 0 0)).heap.size = w2.heap.size := by simp
    have bz : Below ((w2.setCell ⟨R, 0, none⟩ (.string ⟨#[]⟩)).setCell ⟨R, 1, none⟩ (.slice none 0 0)).heap.size ((w2.setCell ⟨R, 0, none⟩ (.string ⟨#[]⟩)).setCell ⟨R, 1, none⟩ (.slice none 0 0)) (((w2.setCell ⟨R, 0, none⟩ (.string ⟨#[]⟩)).setCell ⟨R, 1, none⟩ (.slice none 0 0)).alloc (.cells #[] 83)) := (Below.refl _ _).alloc (Nat.le_refl _) _
    have q0 := (bz.cell (p := ⟨R, 0, none⟩) (by rw [kz]; omega)).trans qq.1
    have q1 := (bz.cell (p := ⟨R, 1, none⟩) (by rw [kz]; omega)).trans qq.2
    go_wp2
    refine bodyPost_ret (v := .tuple #[.slice (some ⟨w2.heap.size, 0, none⟩) 0 0, .agg #[.string ⟨#[]⟩, .slice none 0 0], .bool false]) ?_ rfl ?_
    · simp [results, Tryz.results7, go_sem, q0, q1]
    · have hz := kb.size
      exact ⟨_, rfl, by simp, by rw [hXX]; exact ((kb.setCell (p := ⟨R, 0, none⟩) hRW _).setCell (p := ⟨R, 1, none⟩) hRW _).alloc (by simp; omega) _⟩
  · go_wp2_with fail
    refine (StS.sstream_any S _ ps _ HT2.out hS HPP.out).mono ?_
    rintro e w3 ⟨rfl, k3⟩
    have c0 := (k3.cell (p := ⟨X, 0, none⟩) hX2).trans d0
    have c1 := (k3.cell (p := ⟨X, 1, none⟩) hX2).trans d1
    have s0 := (k3.cell (p := ⟨R, 0, none⟩) hR2).trans s0
    have s1 := (k3.cell (p := ⟨R, 1, none⟩) hR2).trans s1
    have sf := fun j => (k3.frozen (p := ⟨R, j, none⟩) hR2).trans (sf j)
    have hX : X < w3.heap.size := by have := k3.size; omega
    have hR : R < w3.heap.size := by have := k3.size; omega
    have HB := (show Hid (Below X W w3) from HB2.out.trans (k3.mono (by omega)))
    clear k3 d0 d1 hX2 hR2 HB2 HM2 HT2
    cases hst : stB S ps
    · clear hno
      have qq := set_two s0 s1 (.string ⟨#[]⟩) (.slice none 0 0)
      have kb := HB.out
      have kz : ((w3.setCell ⟨R, 0, none⟩ (.string ⟨#[]⟩)).setCell ⟨R, 1, none⟩ (.slice none 0 0)).heap.size = w3.heap.size := by simp
      have bz : Below ((w3.setCell ⟨R, 0, none⟩ (.string ⟨#[]⟩)).setCell ⟨R, 1, none⟩ (.slice none 0 0)).heap.size ((w3.setCell ⟨R, 0, none⟩ (.string ⟨#[]⟩)).setCell ⟨R, 1, none⟩ (.slice none 0 0)) (((w3.setCell ⟨R, 0, none⟩ (.string ⟨#[]⟩)).setCell ⟨R, 1, none⟩ (.slice none 0 0)).alloc (.cells #[] 83)) := (Below.refl _ _).alloc (Nat.le_refl _) _
      have q0 := (bz.cell (p := ⟨R, 0, none⟩) (by rw [kz]; omega)).trans qq.1
      have q1 := (bz.cell (p := ⟨R, 1, none⟩) (by rw [kz]; omega)).trans qq.2
      go_wp2
      refine bodyPost_ret (v := .tuple #[.slice (some ⟨w3.heap.size, 0, none⟩) 0 0, .agg #[.string ⟨#[]⟩, .slice none 0 0], .bool false]) ?_ rfl ?_
      · simp [results, Tryz.results7, go_sem, q0, q1]
      · have hz := kb.size
        exact ⟨_, rfl, by simp, by rw [hXX]; exact ((kb.setCell (p := ⟨R, 0, none⟩) hRW _).setCell (p := ⟨R, 1, none⟩) hRW _).alloc (by simp; omega) _⟩
    · go_wp2_with fail
      refine (TxW.sok_any T hTz _).mono ?_
      rintro e w4 ⟨rfl, rfl⟩
      cases hTok : okB T.data.toList
      · clear hno
        have qq := set_two s0 s1 (.string ⟨#[]⟩) (.slice none 0 0)
        have kb := HB.out
        have kz : ((w4.setCell ⟨R, 0, none⟩ (.string ⟨#[]⟩)).setCell ⟨R, 1, none⟩ (.slice none 0 0)).heap.size = w4.heap.size := by simp
        have bz : Below ((w4.setCell ⟨R, 0, none⟩ (.string ⟨#[]⟩)).setCell ⟨R, 1, none⟩ (.slice none 0 0)).heap.size ((w4.setCell ⟨R, 0, none⟩ (.string ⟨#[]⟩)).setCell ⟨R, 1, none⟩ (.slice none 0 0)) (((w4.setCell ⟨R, 0, none⟩ (.string ⟨#[]⟩)).setCell ⟨R, 1, none⟩ (.slice none 0 0)).alloc (.cells #[] 83)) := (Below.refl _ _).alloc (Nat.le_refl _) _
        have q0 := (bz.cell (p := ⟨R, 0, none⟩) (by rw [kz]; omega)).trans qq.1
        have q1 := (bz.cell (p := ⟨R, 1, none⟩) (by rw [kz]; omega)).trans qq.2
        go_wp2
        refine bodyPost_ret (v := .tuple #[.slice (some ⟨w4.heap.size, 0, none⟩) 0 0, .agg #[.string ⟨#[]⟩, .slice none 0 0], .bool false]) ?_ rfl ?_
        · simp [results, Tryz.results7, go_sem, q0, q1]
        · have hz := kb.size
          exact ⟨_, rfl, by simp, by rw [hXX]; exact ((kb.setCell (p := ⟨R, 0, none⟩) hRW _).setCell (p := ⟨R, 1, none⟩) hRW _).alloc (by simp; omega) _⟩
      · go_wp2_with fail
        refine (StS.in_any q 0 40 _).mono ?_
        rintro e w5 ⟨rfl, rfl⟩
        have hin : decide ((0 : Int) ≤ q ∧ q ≤ 40) = false := by
          rw [decide_eq_false_iff_not]; exact fun h => hno ⟨hok, hst, hTok, h⟩
        rw [hin]
        clear hno hin
        have qq := set_two s0 s1 (.string ⟨#[]⟩) (.slice none 0 0)
        have kb := HB.out
        have kz : ((w5.setCell ⟨R, 0, none⟩ (.string ⟨#[]⟩)).setCell ⟨R, 1, none⟩ (.slice none 0 0)).heap.size = w5.heap.size := by simp
        have bz : Below ((w5.setCell ⟨R, 0, none⟩ (.string ⟨#[]⟩)).setCell ⟨R, 1, none⟩ (.slice none 0 0)).heap.size ((w5.setCell ⟨R, 0, none⟩ (.string ⟨#[]⟩)).setCell ⟨R, 1, none⟩ (.slice none 0 0)) (((w5.setCell ⟨R, 0, none⟩ (.string ⟨#[]⟩)).setCell ⟨R, 1, none⟩ (.slice none 0 0)).alloc (.cells #[] 83)) := (Below.refl _ _).alloc (Nat.le_refl _) _
        have q0 := (bz.cell (p := ⟨R, 0, none⟩) (by rw [kz]; omega)).trans qq.1
        have q1 := (bz.cell (p := ⟨R, 1, none⟩) (by rw [kz]; omega)).trans qq.2
        go_wp2
        refine bodyPost_ret (v := .tuple #[.slice (some ⟨w5.heap.size, 0, none⟩) 0 0, .agg #[.string ⟨#[]⟩, .slice none 0 0], .bool false]) ?_ rfl ?_
        · simp [results, Tryz.results7, go_sem, q0, q1]
        · have hz := kb.size
          exact ⟨_, rfl, by simp, by rw [hXX]; exact ((kb.setCell (p := ⟨R, 0, none⟩) hRW _).setCell (p := ⟨R, 1, none⟩) hRW _).alloc (by simp; omega) _⟩
end Go.Proofs.YtdggchcapjidjabGreatDoor.StP

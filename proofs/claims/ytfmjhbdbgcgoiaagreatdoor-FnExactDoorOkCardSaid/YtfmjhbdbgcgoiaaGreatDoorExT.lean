/- Walks: the exact laws' own copies and comparison, on streams. And streams that are handed in. -/
import Derived.Test.YtfmjhbdbgcgoiaaGreatDoorPt
import Derived.Test.YtfmjhbdbgcgoiaaGreatDoorPcs
import Derived.Deep.RegionWith
import Derived.Deep.SlicePairs
import Derived.Lib.SmallJoins
import Derived.OwnWalk
namespace Go.Proofs.YtfmjhbdbgcgoiaaGreatDoor.ExT
open Go.RowKit Go.Proofs.YtfmjhbdbgcgoiaaGreatDoor.Kit Go.Proofs.YtfmjhbdbgcgoiaaGreatDoor.St Go.Proofs.YtfmjhbdbgcgoiaaGreatDoor.App
set_option linter.unusedSimpArgs false
set_option linter.unusedVariables false

/-- how long the texts of parts are -/
def txtT (ps : List (Int × ByteArray)) : Nat := (ps.map fun p => p.2.size).sum
def bulkT (ps : List (Int × ByteArray)) : Nat := ps.length + txtT ps
theorem txtT_cons (p : Int × ByteArray) (ps : List (Int × ByteArray)) : txtT (p :: ps) = p.2.size + txtT ps := by simp [txtT]
theorem txtT_app (a b : List (Int × ByteArray)) : txtT (a ++ b) = txtT a + txtT b := by simp [txtT]
theorem txtT_step {ps : List (Int × ByteArray)} {k : Nat} {p : Int × ByteArray} (h : ps[k]? = some p) : txtT (ps.take (k + 1)) = txtT (ps.take k) + p.2.size := by
  rw [List.take_add_one, h, txtT_app]; simp [txtT]
theorem txtT_le (ps : List (Int × ByteArray)) (k : Nat) : txtT (ps.take k) ≤ txtT ps := by
  have := txtT_app (ps.take k) (ps.drop k)
  rw [List.take_append_drop] at this; omega
theorem txtT_mem {ps : List (Int × ByteArray)} {p : Int × ByteArray} (h : p ∈ ps) : p.2.size ≤ txtT ps := by
  induction ps with
  | nil => cases h
  | cons q ps ih =>
    rw [txtT_cons]
    rcases List.mem_cons.1 h with rfl | h
    · omega
    · have := ih h; omega

/-- a stream that is handed in -/
structure ArgS (W : World) (s : ByteArray) (v : Value) (ps : List (Int × ByteArray)) : Prop where
  hs : s.size ≤ maxLen
  hT : IsT W v ps
  hp : ∀ p ∈ ps, p.2.size ≤ maxLen
theorem ArgS.below {W W' : World} {s : ByteArray} {v : Value} {ps : List (Int × ByteArray)} (h : ArgS W s v ps) (k : Below W.heap.size W W') : ArgS W' s v ps := ⟨h.hs, h.hT.below k, h.hp⟩
theorem ArgS.alloc {W : World} {s : ByteArray} {v : Value} {ps : List (Int × ByteArray)} (h : ArgS W s v ps) (o : Obj) : ArgS (W.alloc o) s v ps := h.below ((Below.refl _ _).alloc (Nat.le_refl _) o)

section
open Go.Deep Go.ChangeShapes Go.WideShapes Go.Joins
theorem open_stream {H : Type} {enc : TypeId × Value → H} {P : Program} {w : World} {base : Nat} {r : Reach} {b0 : Nat} {t e : TypeId} {f0 f1 g0 g1 : Field} {v : Value} {d : DataW H} {ps : List MemPlace}
    (ht : P.underlying t = some (.struct #[f0, f1])) (hone : oneCellFields P #[f0, f1] = true) (hC : P.cellsOf t = 2) (h0 : P.underlying f0.type = some .string) (h1 : P.underlying f1.type = some (.slice e))
    (he : P.underlying e = some (.struct #[g0, g1])) (ce : P.cellsOf e = 2) (o0 : g0.offset = 0) (o1 : g1.offset = 1) (c0 : P.cellsOf g0.type = 1) (c1 : P.cellsOf g1.type = 1)
    (i0 : P.underlying g0.type = some (.int .i64)) (i1 : P.underlying g1.type = some .string)
    (hv : Value.okWide P w r b0 t v) (h : DataW.Trod enc P w base (fun _ => true) true t v d ps) : ∃ s sv qs, v = .agg #[.string s, sv] ∧ ArgS w s sv qs := by
  obtain ⟨v0, v1, y0, y1, n, rfl, _, _, k0, k1⟩ := open_agg2 ht hone hC hv h
  obtain ⟨s, e0, _, hs⟩ := DataW.trod_string h0 k0
  simp at e0
  subst e0
  rcases open_slice_pairs h1 he ce o0 o1 c0 c1 k1 with ⟨hcs, _⟩ | ⟨a, len, cap, m, n', V0, V1, D0, D1, P0, P1, hcs, hb, hl, hm, hmm, _, hx⟩
  · simp at hcs
    subst hcs
    exact ⟨s, _, [], rfl, hs, ⟨none, 0, rfl, Nat.le_refl _, Nat.zero_le _, .inl rfl⟩, fun p hp => by cases hp⟩
  · simp at hcs
    subst hcs
    simp at hmm
    subst hmm
    have each : ∀ i, i < m → ∃ q : Int × ByteArray, w.cell? (a.add (i * 2)) = some (.int .i64 q.1) ∧ w.cell? (a.add (i * 2 + 1)) = some (.string q.2) ∧ q.2.size ≤ maxLen := by
      intro i hi
      obtain ⟨a0, a1, t0, t1⟩ := hx i hi
      obtain ⟨q0, e0, _, _⟩ := DataW.trod_int i0 t0
      obtain ⟨q1, e1, _, hq⟩ := DataW.trod_string i1 t1
      simp at e0 e1
      exact ⟨(q0, q1), by rw [a0, e0], by rw [a1, e1], hq⟩
    obtain ⟨q, hq⟩ := choose_lt each
    refine ⟨s, _, (List.range len).map q, rfl, hs, ⟨some a, m, by simp, by simpa using hl, hm, ?_⟩, fun p hp => ?_⟩
    · by_cases hl0 : len = 0
      · exact .inl (by simp [hl0])
      · obtain ⟨b, off, spot⟩ := a
        have hc := (hq 0 (by omega)).1
        have hspot : spot = none := by simpa [Addr.add] using World.cell?_spot hc
        subst hspot
        refine .inr ⟨b, off, rfl, fun i p hp => ?_⟩
        have hi : i < len := by have := (List.getElem?_eq_some_iff.1 hp).1; simpa using this
        have hpe : p = q i := by
          rw [List.getElem?_map, List.getElem?_range hi] at hp
          exact (Option.some.inj hp).symm
        subst hpe
        obtain ⟨b0, b1, _⟩ := hq i (by omega)
        rw [Addr.add_lit] at b0 b1
        exact ⟨b0, by rw [Nat.add_assoc]; exact b1⟩
    · obtain ⟨i, hi, rfl⟩ := List.mem_map.1 hp
      exact (hq i (by have := List.mem_range.1 hi; omega)).2.2
end

set_option maxHeartbeats 1000000 in
theorem szPart_ok (p : Int × ByteArray) (left : Int) (hl : 0 ≤ left ∧ left ≤ 1048576) (h : (p.2.size : Int) ≤ left) (w : World) :
    Calls Tryz.prog 130 #[.agg #[.int .i64 p.1, .string p.2], .int .i64 left] w fun e w' => e = .returned (.int .i64 (left - (p.2.size : Nat))) ∧ Below w.heap.size w w' := by
  have h1 : ¬ left - ((p.2.size : Nat) : Int) < 0 := by omega
  go_enter Tryz.func130, Tryz.ntmps130
  go_wp2
  go_ret
  exact ⟨rfl, (Below.refl _ _).alloc (Nat.le_refl _) _⟩
set_option maxHeartbeats 1000000 in
theorem szPart_no (p : Int × ByteArray) (left : Int) (hl : 0 ≤ left ∧ left ≤ 1048576) (hm : p.2.size ≤ maxLen) (h : left < (p.2.size : Int)) (w : World) :
    Calls Tryz.prog 130 #[.agg #[.int .i64 p.1, .string p.2], .int .i64 left] w fun e w' => e = .returned (.int .i64 (-1)) ∧ Below w.heap.size w w' := by
  have h1 : left - ((p.2.size : Nat) : Int) < 0 := by omega
  unfold maxLen at hm
  go_enter Tryz.func130, Tryz.ntmps130
  go_wp2
  go_ret
  exact ⟨rfl, (Below.refl _ _).alloc (Nat.le_refl _) _⟩

/-- what is left of so much, or nothing -/
def leftZ (left : Int) (n : Nat) : Int := if (n : Int) ≤ left then left - n else -1

set_option maxRecDepth 8000 in
set_option maxHeartbeats 4000000 in
theorem szS_any (ps : List (Int × ByteArray)) (v : Value) (left : Int) (hl : 0 ≤ left ∧ left ≤ 1048576) (w : World) (hT : IsT w v ps) (hpm : ∀ p ∈ ps, p.2.size ≤ maxLen) :
    Calls Tryz.prog 113 #[v, .int .i64 left] w fun e w' => e = .returned (.int .i64 (leftZ left (bulkT ps))) ∧ Below w.heap.size w w' := by
  obtain ⟨a, cap, rfl, hc, hcm, hr⟩ := hT
  unfold maxLen at hcm
  go_enter Tryz.func113, Tryz.ntmps113
  by_cases h0 : left - ((ps.length : Nat) : Int) < 0
  · have hb : leftZ left (bulkT ps) = -1 := if_neg (by unfold bulkT; omega)
    go_wp2
    go_ret
    exact ⟨by rw [hb]; rfl, Below.refl _ _⟩
  · go_wp2
    go_loopw [1, 5] (fun l i wr => ∃ k : Nat, k ≤ ps.length ∧ i = .int .i64 k ∧ l = .int .i64 (left - (ps.length : Nat) - (txtT (ps.take k) : Nat)) ∧ 0 ≤ left - ((ps.length : Nat) : Int) - ((txtT (ps.take k) : Nat) : Int) ∧ Below w.heap.size w wr) (fun l i wr => ps.length - (intOf i).toNat)
    case atStart => exact ⟨0, Nat.zero_le _, rfl, congrArg (Value.int IntKind.i64) (by simp [txtT]), by simp [txtT]; omega, Below.refl _ _⟩
    case round =>
      obtain ⟨k, hk, rfl, rfl, hge0, hb⟩ := hrel
      by_cases hlt : k < ps.length
      · have hlt' : (k : Int) < (ps.length : Int) := by omega
        have hp : ps[k]? = some ps[k] := List.getElem?_eq_getElem hlt
        have hst := txtT_step hp
        have hmem : ps[k] ∈ ps := List.getElem_mem hlt
        have hle := txtT_le ps (k + 1)
        rcases hr with rfl | ⟨g, o, rfl, hat⟩
        · simp at hp
        obtain ⟨x0, x1⟩ := (hat k _ hp).below hb
        generalize ps[k] = p at hp x0 x1 hst hmem
        have hpm' := hpm p hmem
        clear hat hp
        generalize hL : left - ((ps.length : Nat) : Int) - ((txtT (ps.take k) : Nat) : Int) = L at hge0
        have hL2 : L ≤ 1048576 := by omega
        by_cases hfit : (p.2.size : Int) ≤ L
        · have hn0 : ¬ L - ((p.2.size : Nat) : Int) < 0 := by omega
          go_wp2_with fail
          refine (szPart_ok p L ⟨hge0, hL2⟩ hfit _).mono ?_
          rintro e w2 ⟨rfl, k2⟩
          go_wp2
          go_roundw
          case rel => exact ⟨k + 1, by omega, by go_num, congrArg (Value.int IntKind.i64) (by rw [hst]; omega), by rw [hst]; omega, hb.trans (k2.mono hb.size)⟩
          case measure => simp [intOf]; omega
        · have hbad : leftZ left (bulkT ps) = -1 := if_neg (by unfold bulkT; omega)
          go_wp2_with fail
          refine (szPart_no p L ⟨hge0, hL2⟩ hpm' (by omega) _).mono ?_
          rintro e w2 ⟨rfl, k2⟩
          go_wp2
          go_ret
          exact ⟨by rw [hbad]; rfl, hb.trans (k2.mono hb.size)⟩
      · have hge : (ps.length : Int) ≤ (k : Int) := by omega
        have htk : ps.take k = ps := List.take_of_length_le (by omega)
        rw [htk] at hge0 ⊢
        have hgood : leftZ left (bulkT ps) = left - ((ps.length : Nat) : Int) - ((txtT ps : Nat) : Int) := by
          unfold leftZ bulkT; rw [if_pos (by omega)]; omega
        go_wp2
        go_ret
        exact ⟨by rw [hgood]; rfl, hb⟩

def bulkS (s : ByteArray) (ps : List (Int × ByteArray)) : Nat := s.size + bulkT ps
set_option maxRecDepth 8000 in
set_option maxHeartbeats 4000000 in
theorem szStream_any (s : ByteArray) (v : Value) (ps : List (Int × ByteArray)) (left : Int) (hl : 0 ≤ left ∧ left ≤ 1048576) (w : World) (hA : ArgS w s v ps) :
    Calls Tryz.prog 92 #[.agg #[.string s, v], .int .i64 left] w fun e w' => e = .returned (.int .i64 (leftZ left (bulkS s ps))) ∧ Below w.heap.size w w' := by
  have hs := hA.hs
  unfold maxLen at hs
  have bA : Below w.heap.size w (w.alloc (.cells #[.string s, v] 80)) := (Below.refl _ _).alloc (Nat.le_refl _) _
  go_enter Tryz.func92, Tryz.ntmps92
  by_cases h0 : left - ((s.size : Nat) : Int) < 0
  · have hb : leftZ left (bulkS s ps) = -1 := if_neg (by unfold bulkS; omega)
    go_wp2
    go_ret
    exact ⟨by rw [hb]; rfl, bA⟩
  · go_wp2_with fail
    refine (szS_any ps v (left - (s.size : Nat)) ⟨by omega, by omega⟩ _ (hA.hT.below bA) hA.hp).mono ?_
    rintro e w1 ⟨rfl, k1⟩
    have b1 := bA.trans (k1.mono (by simp))
    by_cases hq : (bulkT ps : Int) ≤ left - ((s.size : Nat) : Int)
    · have e1 : leftZ (left - ((s.size : Nat) : Int)) (bulkT ps) = left - ((s.size : Nat) : Int) - ((bulkT ps : Nat) : Int) := if_pos hq
      have e2 : leftZ left (bulkS s ps) = left - ((s.size : Nat) : Int) - ((bulkT ps : Nat) : Int) := by
        unfold leftZ bulkS; rw [if_pos (by omega)]; omega
      have hn : ¬ left - ((s.size : Nat) : Int) - ((bulkT ps : Nat) : Int) < 0 := by omega
      rw [e1]
      go_wp2
      go_ret
      exact ⟨by rw [e2]; rfl, b1⟩
    · have e1 : leftZ (left - ((s.size : Nat) : Int)) (bulkT ps) = -1 := if_neg hq
      have e2 : leftZ left (bulkS s ps) = -1 := if_neg (by unfold bulkS; omega)
      rw [e1]
      go_wp2
      go_ret
      exact ⟨by rw [e2]; rfl, b1⟩

set_option maxHeartbeats 1000000 in
theorem toPart_any (p : Int × ByteArray) (w : World) :
    Calls Tryz.prog 133 #[.agg #[.int .i64 p.1, .string p.2]] w fun e w' => e = .returned (.agg #[.int .i64 p.1, .string p.2]) ∧ Below w.heap.size w w' := by
  go_enter Tryz.func133, Tryz.ntmps133
  go_wp2
  refine bodyPost_ret (v := .agg #[.int .i64 p.1, .string p.2]) ?_ rfl ?_
  · simp [results, Tryz.results133, go_sem]
  · exact ⟨rfl, (((Below.refl _ _).alloc (Nat.le_refl _) _).alloc (by simp) _).alloc (by simp; omega) _⟩

theorem grown_below {w w' : World} {row : Option Nat} {B : Nat} (h : w.grownBy w' row) (hB : B ≤ w.heap.size) (hr : ∀ k, row = some k → B ≤ k) : Below B w w' := (Below.refl B w).grown h hB hr

set_option maxRecDepth 8000 in
set_option maxHeartbeats 4000000 in
theorem toPartS_any (W : World) (v0 : Value) (m : List (Int × ByteArray)) (h : IsT W v0 m) (hl : m.length ≤ 1048576) :
    Calls Tryz.prog 116 #[v0] W fun r W' => ∃ v, r = .returned v ∧ W'.ownsRow W.heap.size 88 2 v m.length (cellsT m) ∧ Below W.heap.size W W' := by
  obtain ⟨i0, hi, hz0, hz1, hz2⟩ := info_parts infoT
  obtain ⟨a, cap, rfl, hc, hcm, hr⟩ := h
  go_enter Tryz.func116, Tryz.ntmps116
  go_wp2_with (at_make; refine wpList_make_full _ rfl _ _ 52 rfl W.heap.size 88 i0 (.agg #[.int .i64 0, .string ByteArray.empty]) 2 Tryz.underlying52 hi hz0 hz1 _ _ _ _ m.length rfl rfl rfl rfl (by rw [hz2]; omega) (by unfold maxLen; omega) (Nat.le_refl _) ?_; intro w1 hown hgrow)
  have b1 : Below W.heap.size W w1 := grown_below hgrow (Nat.le_refl _) (fun k hk => by cases hk)
  go_loopw [4] (fun i wr => ∃ (k : Nat) (xs : List Value), k ≤ m.length ∧ i = .int .i64 k ∧ wr.ownsRow W.heap.size 88 2 (.slice (some ⟨W.heap.size, 0, none⟩) m.length m.length) m.length xs ∧ (∀ j, j < k * 2 → xs[j]? = (cellsT m)[j]?) ∧ Below W.heap.size W wr) (fun i wr => m.length - (intOf i).toNat)
  case atStart => exact ⟨0, _, Nat.zero_le _, rfl, hown, fun j hj => absurd hj (by omega), b1⟩
  case round =>
    obtain ⟨k, xs, hk, rfl, hrow, hxs, hb⟩ := hrel
    by_cases hlt : k < m.length
    · have hlt' : (k : Int) < (m.length : Int) := by omega
      have hp : m[k]? = some m[k] := List.getElem?_eq_getElem hlt
      rcases hr with rfl | ⟨g, o, rfl, hat⟩
      · cases hp
      obtain ⟨x0, x1⟩ := (hat k _ hp).below hb
      obtain ⟨q0, q1⟩ := cellsT_at m k _ hp
      generalize m[k] = P at hp x0 x1 q0 q1
      clear hat
      go_wp2_with fail
      refine (toPart_any P _).mono ?_
      rintro e w2 ⟨rfl, k2⟩
      have hrow2 := row_below hrow k2
      have b2 := hb.trans (k2.mono hb.size)
      have hxl : xs.length = m.length * 2 := hrow.1
      obtain ⟨u0, hu0⟩ : ∃ u, xs[k * 2]? = some u := ⟨_, List.getElem?_eq_getElem (by omega)⟩
      obtain ⟨u1, hu1⟩ : ∃ u, xs[k * 2 + 1]? = some u := ⟨_, List.getElem?_eq_getElem (by omega)⟩
      have c0 := (hrow2.cellAt (k * 2) (by omega)).trans hu0
      have c1 := (hrow2.cellAt (k * 2 + 1) (by omega)).trans hu1
      have g0 := hrow2.frozenAt (k * 2)
      have g1 := hrow2.frozenAt (k * 2 + 1)
      have H2 : Hid (w2.ownsRow W.heap.size 88 2 (.slice (some ⟨W.heap.size, 0, none⟩) m.length m.length) m.length xs) := hrow2
      have HX : Hid (∀ j, j < k * 2 → xs[j]? = (cellsT m)[j]?) := hxs
      clear hrow hrow2 k2 hxs hown hgrow
      go_wp2
      go_roundw
      case rel =>
        have r1 := (H2.out.stored (k * 2) (.int .i64 P.1)).1
        have r2 := (r1.stored (k * 2 + 1) (.string P.2)).1
        refine ⟨k + 1, _, by omega, by go_num, r2, fun j hj => ?_, (b2.setCell (p := ⟨W.heap.size, k * 2, none⟩) (Nat.le_refl _) _).setCell (p := ⟨W.heap.size, k * 2 + 1, none⟩) (Nat.le_refl _) _⟩
        by_cases j1 : j = k * 2 + 1
        · subst j1; rw [List.getElem?_set_self (by simp; omega), q1]
        · rw [List.getElem?_set_ne (fun e => j1 e.symm)]
          by_cases j0 : j = k * 2
          · subst j0; rw [List.getElem?_set_self (by omega), q0]
          · rw [List.getElem?_set_ne (fun e => j0 e.symm)]
            exact HX.out j (by omega)
      case measure => simp [intOf]; omega
    · have hge : (m.length : Int) ≤ (k : Int) := by omega
      have hxl : xs.length = m.length * 2 := hrow.1
      have hx : xs = cellsT m := by
        apply List.ext_getElem?
        intro j
        by_cases hj : j < k * 2
        · exact hxs j hj
        · rw [List.getElem?_eq_none (by omega), List.getElem?_eq_none (by rw [cellsT_len]; omega)]
      subst hx
      go_wp2
      go_ret
      exact ⟨_, rfl, hrow, hb⟩

set_option maxRecDepth 8000 in
set_option maxHeartbeats 4000000 in
theorem toStream_any (W : World) (s : ByteArray) (v0 : Value) (m : List (Int × ByteArray)) (h : IsT W v0 m) (hl : m.length ≤ 1048576) :
    Calls Tryz.prog 95 #[.agg #[.string s, v0]] W fun r W' => ∃ v, r = .returned (.agg #[.string s, v]) ∧ (∃ base, W.heap.size ≤ base ∧ W'.ownsRow base 88 2 v m.length (cellsT m)) ∧ Below W.heap.size W W' := by
  have bA : Below W.heap.size W (((W.alloc (.cells #[.string s, v0] 80)).alloc (.cells #[.string ⟨#[]⟩, .slice none 0 0] 54)).alloc (.cells #[.string s, .slice none 0 0] 54)) := (((Below.refl _ _).alloc (Nat.le_refl _) _).alloc (by simp) _).alloc (by simp; omega) _
  go_enter Tryz.func95, Tryz.ntmps95
  go_wp2_with fail
  refine (toPartS_any _ v0 m (h.below bA) hl).mono ?_
  rintro e w1 ⟨v, rfl, hr, k1⟩
  obtain ⟨va, vc, rfl, _⟩ := isT_of_row hr
  have z1 := k1.size
  simp at z1
  have c1 := keepc k1 (W.heap.size + 1) (by simp)
  have f1 := keepf k1 (W.heap.size + 1) (by simp)
  have c2 := keepc k1 (W.heap.size + 1 + 1) (by simp)
  have f2 := keepf k1 (W.heap.size + 1 + 1) (by simp)
  have hlt : W.heap.size + 1 + 1 < w1.heap.size := by omega
  have e0 : w1.cell? ⟨W.heap.size + 1, 0, none⟩ = some (.string ⟨#[]⟩) := by rw [c1 0]; simp [go_sem]
  have e1 : w1.cell? ⟨W.heap.size + 1, 1, none⟩ = some (.slice none 0 0) := by rw [c1 1]; simp [go_sem]
  have d0 : w1.cell? ⟨W.heap.size + 1 + 1, 0, none⟩ = some (.string s) := by rw [c2 0]; simp [go_sem]
  have d1 : w1.cell? ⟨W.heap.size + 1 + 1, 1, none⟩ = some (.slice none 0 0) := by rw [c2 1]; simp [go_sem]
  have g0 : ∀ j, w1.frozen? ⟨W.heap.size + 1, j, none⟩ = false := fun j => by rw [f1 j]; simp [go_sem]
  have g1 : ∀ j, w1.frozen? ⟨W.heap.size + 1 + 1, j, none⟩ = false := fun j => by rw [f2 j]; simp [go_sem]
  have b1 : Below W.heap.size W w1 := bA.trans (k1.mono (by simp; omega))
  have HR := (show Hid _ from hr)
  clear c1 c2 f1 f2 k1 hr
  go_wp2
  refine bodyPost_ret (v := .agg #[.string s, .slice va m.length vc]) ?_ rfl ?_
  · simp [results, Tryz.results95, go_sem, e0, e1]
  · refine ⟨_, rfl, ⟨W.heap.size + 1 + 1 + 1, by omega, ?_⟩, ?_⟩
    · have hr := HR.out
      simp only [World.size_alloc] at hr
      exact ownsRow_setCell_below (ownsRow_setCell_below (ownsRow_setCell_below hr (by simp) _) (by simp) _) (by simp) _
    · exact ((b1.setCell (p := ⟨W.heap.size + 1 + 1, 1, none⟩) (by simp; omega) _).setCell (p := ⟨W.heap.size + 1, 0, none⟩) (by simp) _).setCell (p := ⟨W.heap.size + 1, 1, none⟩) (by simp) _

set_option maxHeartbeats 1000000 in
theorem eqPart_true (p : Int × ByteArray) (w : World) :
    Calls Tryz.prog 139 #[.agg #[.int .i64 p.1, .string p.2], .agg #[.int .i64 p.1, .string p.2]] w fun e w' => e = .returned (.bool true) ∧ Below w.heap.size w w' := by
  go_enter Tryz.func139, Tryz.ntmps139
  go_wp2
  go_ret
  exact ⟨rfl, ((Below.refl _ _).alloc (Nat.le_refl _) _).alloc (by simp) _⟩

set_option maxHeartbeats 4000000 in
theorem eqT_nil (w : World) (c0 c1 : Nat) (a0 a1 : Option Addr) :
    Calls Tryz.prog 122 #[.slice a0 0 c0, .slice a1 0 c1] w fun e w' => e = .returned (.bool true) ∧ Below w.heap.size w w' := by
  go_enter Tryz.func122, Tryz.ntmps122
  go_wp2
  refine wp_loop_rounds 1 ?_
  rw [rounds_succ]
  go_wp2
  go_ret
  exact ⟨rfl, Below.refl _ _⟩

set_option maxRecDepth 8000 in
set_option maxHeartbeats 4000000 in
theorem eqT_row (w : World) (m : List (Int × ByteArray)) (hm : m.length ≤ 1048576) (g0 o0 c0 g1 o1 c1 : Nat) (h0 : ∀ (i : Nat) (p : Int × ByteArray), m[i]? = some p → At2 w g0 (o0 + i * 2) p) (h1 : ∀ (i : Nat) (p : Int × ByteArray), m[i]? = some p → At2 w g1 (o1 + i * 2) p) :
    Calls Tryz.prog 122 #[.slice (some ⟨g0, o0, none⟩) m.length c0, .slice (some ⟨g1, o1, none⟩) m.length c1] w fun e w' => e = .returned (.bool true) ∧ Below w.heap.size w w' := by
  go_enter Tryz.func122, Tryz.ntmps122
  go_wp2
  go_loopw [5] (fun i wr => ∃ k : Nat, k ≤ m.length ∧ i = .int .i64 k ∧ Below w.heap.size w wr) (fun i wr => m.length - (intOf i).toNat)
  case atStart => exact ⟨0, Nat.zero_le _, rfl, Below.refl _ _⟩
  case round =>
    obtain ⟨k, hk, rfl, hb⟩ := hrel
    by_cases hlt : k < m.length
    · have hlt' : (k : Int) < (m.length : Int) := by omega
      obtain ⟨x0, x1⟩ := (h0 k _ (List.getElem?_eq_getElem hlt)).below (W' := wr) (hb.mono (Nat.le_refl _))
      obtain ⟨y0, y1⟩ := (h1 k _ (List.getElem?_eq_getElem hlt)).below (W' := wr) (hb.mono (Nat.le_refl _))
      generalize m[k] = P at x0 x1 y0 y1
      clear h0 h1
      go_wp2_with fail
      go_region_with (go_at_call 139; refine (eqPart_true P _).mono ?_; rintro e w2 ⟨rfl, k2⟩; have bb : Below wr.heap.size wr w2 := (by first | exact k2 | exact (Below.refl _ wr).drew.trans k2 | exact (Below.refl _ wr).drew.drew.trans k2 | exact (Below.refl _ wr).drew.drew.drew.trans k2))
      all_goals
        go_wp2
        go_roundw
        case rel =>
          have b9 := hb.trans (bb.mono hb.size)
          first | exact ⟨k + 1, by omega, by go_num, b9⟩ | exact ⟨k + 1, by omega, by go_num, b9.drew⟩ | exact ⟨k + 1, by omega, by go_num, b9.drew.drew⟩
        case measure => simp [intOf]; omega
    · have hge : (m.length : Int) ≤ (k : Int) := by omega
      go_wp2
      go_ret
      exact ⟨rfl, hb⟩
theorem eqT_true (w : World) (m : List (Int × ByteArray)) (hm : m.length ≤ 1048576) (a b : Value) (h0 : IsT w a m) (h1 : IsT w b m) :
    Calls Tryz.prog 122 #[a, b] w fun e w' => e = .returned (.bool true) ∧ Below w.heap.size w w' := by
  obtain ⟨a0, c0, rfl, _, _, h0⟩ := h0
  obtain ⟨a1, c1, rfl, _, _, h1⟩ := h1
  rcases h0 with rfl | ⟨g0, o0, rfl, h0⟩
  · exact eqT_nil w c0 c1 a0 a1
  · rcases h1 with rfl | ⟨g1, o1, rfl, h1⟩
    · exact eqT_nil w c0 c1 _ a1
    · exact eqT_row w m hm g0 o0 c0 g1 o1 c1 h0 h1
set_option maxRecDepth 8000 in
set_option maxHeartbeats 4000000 in
theorem eqStream_true (w : World) (s : ByteArray) (m : List (Int × ByteArray)) (hm : m.length ≤ 1048576) (a b : Value) (h0 : IsT w a m) (h1 : IsT w b m) :
    Calls Tryz.prog 101 #[.agg #[.string s, a], .agg #[.string s, b]] w fun e w' => e = .returned (.bool true) ∧ Below w.heap.size w w' := by
  have bA : Below w.heap.size w ((w.alloc (.cells #[.string s, a] 54)).alloc (.cells #[.string s, b] 54)) := ((Below.refl _ _).alloc (Nat.le_refl _) _).alloc (by simp) _
  have k0 := h0.below bA
  have k1 := h1.below bA
  obtain ⟨a0, c0, rfl, _⟩ := h0
  obtain ⟨a1, c1, rfl, _⟩ := h1
  go_enter Tryz.func101, Tryz.ntmps101
  go_wp2_with fail
  refine (eqT_true _ m hm _ _ k0 k1).mono ?_
  rintro e w1 ⟨rfl, j1⟩
  go_wp2
  go_ret
  exact ⟨rfl, bA.trans (j1.mono (by simp; omega))⟩
end Go.Proofs.YtfmjhbdbgcgoiaaGreatDoor.ExT

/- Walks: TextPieces of the program. -/
import Derived.Test.YtihhegjkliolhaaGreatDoorIt
namespace Go.Proofs.YtihhegjkliolhaaGreatDoor.Pcs
open Go.RowKit Go.Shelf Go.Proofs.YtihhegjkliolhaaGreatDoor.Kit Go.Proofs.YtihhegjkliolhaaGreatDoor.Tx Go.Proofs.YtihhegjkliolhaaGreatDoor.Nm Go.Proofs.YtihhegjkliolhaaGreatDoor.App Go.Proofs.YtihhegjkliolhaaGreatDoor.It
open Go.Proofs.YtihhegjkliolhaaGreatDoor.Read (Errs ErrCell)
attribute [local go_sem] Oper.semAt_some
set_option linter.unusedSimpArgs false

/-- pieces, cell by cell -/
def cellsP (ps : List Pc) : List Value := ps.flatMap fun p => [.int .i64 (p.sz : Nat), .bool p.nm, .int .i64 p.ad, .int .i64 p.po]
theorem cellsP_snoc (ps : List Pc) (p : Pc) : cellsP (ps ++ [p]) = cellsP ps ++ [.int .i64 (p.sz : Nat), .bool p.nm, .int .i64 p.ad, .int .i64 p.po] := by simp [cellsP]

theorem infoP : (Tryz.prog.info? 82).map (fun i => (i.zero, i.size, i.bytes)) = some (some (.agg #[.int .i64 0, .bool false, .int .i64 0, .int .i64 0]), 4, 32) := by kernel_rfl

/-- four cells of a new block, its number said -/
theorem four_at (W : World) (t : TypeId) (a b c d : Value) (n : Nat) (hn : W.heap.size = n) : ∀ j u, [a, b, c, d][j]? = some u → (W.alloc (.cells #[a, b, c, d] t)).cell? ((⟨n, 0, none⟩ : Addr).add j) = some u := by
  subst hn; exact App.cell_four_new W t a b c d
/-- two cells of a new block, its number said -/
theorem two_at (W : World) (t : TypeId) (a b : Value) (n : Nat) (hn : W.heap.size = n) : ∀ j u, [a, b][j]? = some u → (W.alloc (.cells #[a, b] t)).cell? ((⟨n, 0, none⟩ : Addr).add j) = some u := by
  subst hn; exact App.cell_two_new W t a b

theorem errs_lt {w : World} (h : Errs w) : 2 < w.heap.size ∧ 3 < w.heap.size := by
  obtain ⟨⟨_, c1, _⟩, ⟨_, c2, _⟩⟩ := h
  exact ⟨blk c1, blk c2⟩

set_option maxHeartbeats 4000000 in
theorem seq_in (n : Nat) (hn : 3 ≤ n) (Bt : Nat) (s : ByteArray) (w : World) (hBt : w.cell? ⟨Bt, 0, none⟩ = some (.string s)) (herr : Errs w) :
    CallsIn Fence.wide n Tryz.prog 71 #[.slice none 0 0, .func (.func 72) #[] #[.pointer (some ⟨Bt, 0, none⟩)]] w fun e W' =>
      ∃ v, e = .returned v ∧ W'.ownsRow w.heap.size 82 4 v (pieL s.data.toList).length (cellsP (pieL s.data.toList)) ∧ Below w.heap.size w W' := by
  have h1 : 1 ≤ n := by omega
  obtain ⟨i0, hi, hz0, hz1, hz2⟩ := info_parts infoP
  refine callsIn_of_wp_marks Tryz.func71 rfl trivial ?_ rfl
  simp only [Tryz.ntmps71, List.size_toArray, List.length_cons, List.length_nil, Nat.reduceAdd, Nat.reduceSub, Array.replicate_succ, Array.replicate_zero, List.push_toArray, List.append_toArray, List.nil_append, List.cons_append]
  gi_wp2
  have bO := Boxed.new w 46 (.slice none 0 0)
  have hlt : Bt < w.heap.size := blk hBt
  obtain ⟨g1, g2⟩ := errs_lt herr
  have hB0 : Below w.heap.size w (w.alloc (.cells #[.slice none 0 0] 46)) := (Below.refl _ w).alloc (Nat.le_refl _) _
  have hfit0 : Fit w.heap.size Bt w.heap.size (w.alloc (.cells #[.slice none 0 0] 46)) := by
    intro v k hv hk
    rw [bO.cell] at hv
    obtain rfl := Option.some.inj hv
    cases hk
  refine wpIn_rangeFunc_ownH rfl h1 (gf := 72) (lb := #[.pointer (some ⟨Bt, 0, none⟩)]) rfl trivial (enters_of Tryz.func72 (by kernel_rfl) rfl)
    (stops (n - 1) Bt w.heap.size w.heap.size s _ ((hB0.cell (p := ⟨Bt, 0, none⟩) hlt).trans hBt) (herr.below hB0) hfit0 (by simp) (by omega) g1 g2 (by omega) (by omega))
    (fun h k => Kp.trans h k) (fun W l o o' hl ho hc _ => kp_putObj W l o o' (by simp at hl; omega) ho hc) (Below.refl _ _) (fun _ => rfl)
    (fun pre W => (∃ v, Boxed W w.heap.size 46 v ∧ W.ownsRow w.heap.size 82 4 v pre.length (cellsP pre) ∧ True) ∧ Below w.heap.size w W)
    (fun _ _ _ => False)
    (OwnFrom.and (Own.from (holdsRow_own w.heap.size w.heap.size 46 82 4 (fun pre => pre.length) (fun pre => cellsP pre) (fun _ _ => True)) _) (ownFrom_below (Nat.le_refl _) (by simp)))
    (fun _ _ _ _ _ hs _ _ => hs)
    ⟨⟨_, bO, World.ownsRow_nil _ _ _ _, trivial⟩, hB0⟩
    (fun x a' W => ∃ Bx, W.heap[Bx]? = some (.cells #[.int .i64 (x.sz : Nat), .bool x.nm, .int .i64 x.ad, .int .i64 x.po] 82 (0, 0)) ∧ a' = { tmps := #[.slice none 0 0, .func (.func 72) #[] #[.pointer (some ⟨Bt, 0, none⟩)], .pointer (some ⟨w.heap.size, 0, none⟩), undef, .slice none 0 0, .pointer (some ⟨Bx, 0, none⟩), .func (.func 72) #[] #[.pointer (some ⟨Bt, 0, none⟩)], pcV x, undef, undef, undef, undef, undef], defers := [] })
    (fun x a' _ X Y row hs hg hr => by
      obtain ⟨Bx, h2, h3⟩ := hs
      refine ⟨Bx, (hg.block Bx (Array.getElem?_eq_some_iff.1 h2).1 fun e => ?_).trans h2, h3⟩
      obtain ⟨_, o, ho, hc⟩ := hr Bx e.symm
      rw [h2] at ho; cases ho; cases hc)
    ?assign ?body ?done ?stop
  case assign =>
    rintro l pre x W K ⟨⟨v, hv, hrow, _⟩, hB⟩ hK
    gi_wp2
    exact hK _ _ ((KeepsOthers.alloc _ _).from _) (Kp.below hv.lt ((Below.refl _ W).alloc (Nat.le_refl _) _)) ⟨⟨v, hv.alloc _, hrow.alloc _, trivial⟩, hB.alloc hB.size _⟩ ⟨W.heap.size, World.alloc_heap_new W _, rfl⟩
  case body =>
    rintro l pre x a' W hl ⟨r, hr⟩ ⟨⟨v, hv, hrow, _⟩, hB⟩ ⟨Bx, hX, rfl⟩ hp
    have hc := hv.cell
    have x0 : W.cell? ⟨Bx, 0, none⟩ = some (.int .i64 (x.sz : Nat)) := by simp [World.cell?, hX]
    have x1 : W.cell? ⟨Bx, 1, none⟩ = some (.bool x.nm) := by simp [World.cell?, hX]
    have x2 : W.cell? ⟨Bx, 2, none⟩ = some (.int .i64 x.ad) := by simp [World.cell?, hX]
    have x3 : W.cell? ⟨Bx, 3, none⟩ = some (.int .i64 x.po) := by simp [World.cell?, hX]
    have hsW := hB.size
    gi_wp2_with (gi_at_builtin; refine wpListIn_append_own2 _ rfl _ _ 46 rfl w.heap.size 82 i0 (.agg #[.int .i64 0, .bool false, .int .i64 0, .int .i64 0]) 4 32 Tryz.underlying46 hi hz0 hz1 hz2 rfl (by decide) _ _ _ rfl (hrow.alloc _) ⟨W.heap.size, 0, none⟩ 1 1 [.int .i64 (x.sz : Nat), .bool x.nm, .int .i64 x.ad, .int .i64 x.po] rfl rfl (cell_four_new _ _ _ _ _ _) (by simp [Value.oneCell']) (by unfold maxLen; omega) (by omega) (by simp; omega) ?_; intro v' w1 hown' hgrow hwh; obtain ⟨g', cap', rfl⟩ := ownsRow_succ hown'; obtain ⟨hv1, hv2, hr2, hk2, hb2⟩ := hv.appended (by decide) hrow hsW (Nat.le_refl _) hown' hgrow; have hc1 := hv1.cell; have hf1 := hv1.frozen; have hkp := kp_append (Bt := Bt) hv (by omega) hgrow hown' hwh hv2)
    refine ⟨hk2.from _, hkp, ⟨_, hv2, ?_, trivial⟩, hB.trans hb2⟩
    rw [cellsP_snoc, List.length_append]
    exact hr2
  case done =>
    rintro D ys W hD rfl ⟨⟨v, hv, hrow, _⟩, hB⟩ hK
    have hc := hv.cell
    gi_wp2
    refine ⟨by simp, .inl ⟨_, _, rfl, run_takeDeferred hK, ?_⟩⟩
    exact ⟨_, results_tmp rfl _ _ _, v, rfl, ownsRow_putObj hrow _ hK rfl, hB.trans (belowK_b (w := w) (Nat.le_refl _) W D _ _ (by simp at hD; omega) hK rfl rfl)⟩
  case stop =>
    rintro D c pre W _ _ h _
    exact h.elim

set_option maxHeartbeats 1000000 in
theorem collect_in (n : Nat) (hn : 5 ≤ n) (Bt : Nat) (s : ByteArray) (w : World) (hBt : w.cell? ⟨Bt, 0, none⟩ = some (.string s)) (herr : Errs w) :
    CallsIn Fence.wide n Tryz.prog 48 #[.func (.func 72) #[] #[.pointer (some ⟨Bt, 0, none⟩)]] w fun e W' =>
      ∃ v, e = .returned v ∧ W'.ownsRow w.heap.size 82 4 v (pieL s.data.toList).length (cellsP (pieL s.data.toList)) ∧ Below w.heap.size w W' := by
  refine callsIn_of_wp Tryz.func48 rfl trivial ?_ rfl
  simp only [Tryz.ntmps48, List.size_toArray, List.length_cons, List.length_nil, Nat.reduceAdd, Nat.reduceSub, Array.replicate_succ, Array.replicate_zero, List.push_toArray, List.append_toArray, List.nil_append, List.cons_append]
  gi_wp2_with fail
  refine ⟨trivial, (fun h => by cases h), ?_⟩
  refine (seq_in (n - 1) (by omega) Bt s _ hBt herr).mono ?_
  rintro e w1 ⟨v, rfl, hr, hb⟩
  gi_wp2
  go_ret
  exact ⟨v, rfl, hr, hb⟩

set_option maxHeartbeats 1000000 in
theorem pieces_in (n : Nat) (hn : 7 ≤ n) (s : ByteArray) (w : World) (herr : Errs w) :
    CallsIn Fence.wide n Tryz.prog 24 #[.string s] w fun e W' =>
      ∃ v, e = .returned v ∧ W'.ownsRow w.heap.size 82 4 v (pieL s.data.toList).length (cellsP (pieL s.data.toList)) ∧ Below w.heap.size w W' := by
  refine callsIn_of_wp Tryz.func24 rfl trivial ?_ rfl
  simp only [Tryz.ntmps24, List.size_toArray, List.length_cons, List.length_nil, Nat.reduceAdd, Nat.reduceSub, Array.replicate_succ, Array.replicate_zero, List.push_toArray, List.append_toArray, List.nil_append, List.cons_append]
  gi_wp2_with fail
  refine ⟨trivial, (fun h => by cases h), ?_⟩
  refine (of_in _ s _).mono ?_
  rintro e w1 ⟨rfl, rfl⟩
  have bA : Below w.heap.size w (w.alloc (.cells #[.string s] 9)) := (Below.refl _ w).alloc (Nat.le_refl _) _
  gi_wp2_with fail
  refine ⟨trivial, (fun h => by cases h), ?_⟩
  refine (collect_in _ (by omega) w.heap.size s _ (by simp) (herr.below bA)).mono ?_
  rintro e w2 ⟨v, rfl, hr, hb⟩
  gi_wp2
  go_ret
  exact ⟨v, rfl, ownsRow_base hr (by simp), bA.trans (hb.mono (by simp))⟩

/-- TextPieces answers the pieces, in a row of its own -/
theorem pieces_any (s : ByteArray) (w : World) (herr : Errs w) :
    Calls Tryz.prog 24 #[.string s] w fun e W' =>
      ∃ v, e = .returned v ∧ W'.ownsRow w.heap.size 82 4 v (pieL s.data.toList).length (cellsP (pieL s.data.toList)) ∧ Below w.heap.size w W' :=
  (callsIn_wide (n := 9)).1 (pieces_in 9 (by omega) s w herr)
end Go.Proofs.YtihhegjkliolhaaGreatDoor.Pcs

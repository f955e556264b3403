/- Walks: TextNames of the program. -/
import Derived.Test.YtlejldaennlfaaeGreatDoorPcs
import Derived.Test.YtlejldaennlfaaeGreatDoorLzP
namespace Go.Proofs.YtlejldaennlfaaeGreatDoor.Nas
open Go.RowKit Go.Shelf Go.Proofs.YtlejldaennlfaaeGreatDoor.Kit Go.Proofs.YtlejldaennlfaaeGreatDoor.Tx Go.Proofs.YtlejldaennlfaaeGreatDoor.Nm Go.Proofs.YtlejldaennlfaaeGreatDoor.App Go.Proofs.YtlejldaennlfaaeGreatDoor.It Go.Proofs.YtlejldaennlfaaeGreatDoor.Pcs
open Go.Proofs.YtlejldaennlfaaeGreatDoor.Read (Errs ErrCell)
attribute [local go_sem] Oper.semAt_some
set_option linter.unusedSimpArgs false
set_option linter.unusedVariables false

/-- the ends that pieces name -/
def ends (ps : List Pc) : List (Int × Int) := (ps.filter Pc.nm).map fun p => (p.ad, p.po)
theorem ends_yes (ps : List Pc) (p : Pc) (h : p.nm = true) : ends (ps ++ [p]) = ends ps ++ [(p.ad, p.po)] := by simp [ends, h]
theorem ends_no (ps : List Pc) (p : Pc) (h : p.nm = false) : ends (ps ++ [p]) = ends ps := by simp [ends, h]
theorem ends_le (ps : List Pc) : (ends ps).length ≤ ps.length := by simp [ends]; exact List.length_filter_le _ _
/-- ends, cell by cell -/
def cellsE (es : List (Int × Int)) : List Value := es.flatMap fun e => [.int .i64 e.1, .int .i64 e.2]
theorem cellsE_snoc (es : List (Int × Int)) (e : Int × Int) : cellsE (es ++ [e]) = cellsE es ++ [.int .i64 e.1, .int .i64 e.2] := by simp [cellsE]
theorem infoE : (Tryz.prog.info? 32).map (fun i => (i.zero, i.size, i.bytes)) = some (some (.agg #[.int .i64 0, .int .i64 0]), 2, 16) := by kernel_rfl

set_option maxRecDepth 8000 in
set_option maxHeartbeats 4000000 in
theorem names_in (n : Nat) (hn : 7 ≤ n) (s : ByteArray) (w : World) (herr : Errs w) :
    CallsIn Fence.wide n Tryz.prog 15 #[.string s] w fun e W' =>
      ∃ v, e = .returned v ∧ W'.ownsRow w.heap.size 32 2 v (ends (pieL s.data.toList)).length (cellsE (ends (pieL s.data.toList))) ∧ Below w.heap.size w W' := by
  have h1 : 1 ≤ n := by omega
  obtain ⟨i0, hi, hz0, hz1, hz2⟩ := info_parts infoE
  obtain ⟨g1, g2⟩ := errs_lt herr
  refine callsIn_of_wp_marks Tryz.func15 rfl trivial ?_ rfl
  simp only [Tryz.ntmps15, List.size_toArray, List.length_cons, List.length_nil, Nat.reduceAdd, Nat.reduceSub, Array.replicate_succ, Array.replicate_zero, List.push_toArray, List.append_toArray, List.nil_append, List.cons_append]
  gi_wp2_with fail
  refine ⟨trivial, ?_⟩
  refine (of_in _ s _).mono ?_
  rintro e w1 ⟨rfl, rfl⟩
  gi_wp2
  have bO := (Boxed.new w 35 (.slice none 0 0)).alloc (.cells #[.string s] 9)
  have bT := Boxed.new (w.alloc (.cells #[.slice none 0 0] 35)) 9 (.string s)
  rw [World.size_alloc] at bT
  have hB0 : Below w.heap.size w ((w.alloc (.cells #[.slice none 0 0] 35)).alloc (.cells #[.string s] 9)) := ((Below.refl _ w).alloc (Nat.le_refl _) _).alloc (by simp) _
  have hsz : ((w.alloc (.cells #[.slice none 0 0] 35)).alloc (.cells #[.string s] 9)).heap.size = w.heap.size + 1 + 1 := by simp
  obtain ⟨W0, hW0⟩ : ∃ W0, (w.alloc (.cells #[.slice none 0 0] 35)).alloc (.cells #[.string s] 9) = W0 := ⟨_, rfl⟩
  rw [hW0] at bO bT hB0 hsz ⊢
  clear hW0
  have hfit0 : Fit w.heap.size (w.heap.size + 1) w.heap.size W0 := by
    intro v k hv hk
    rw [bO.cell] at hv
    obtain rfl := Option.some.inj hv
    cases hk
  refine wpIn_rangeFunc_ownH rfl h1 (gf := 65) (lb := #[.pointer (some ⟨w.heap.size + 1, 0, none⟩)]) rfl trivial (enters_of Tryz.func65 (by kernel_rfl) rfl)
    (stops (n - 1) (w.heap.size + 1) w.heap.size w.heap.size s _ bT.cell (herr.below hB0) hfit0 (by omega) (by omega) g1 g2 (by omega) (by omega))
    (fun h k => Kp.trans h k) (fun W l o o' hl ho hc _ => kp_putObj W l o o' (by omega) ho hc) (Below.refl _ _) (fun _ => rfl)
    (fun pre W => (∃ v, Boxed W w.heap.size 35 v ∧ W.ownsRow w.heap.size 32 2 v (ends pre).length (cellsE (ends pre)) ∧ True) ∧ Below w.heap.size w W ∧ w.heap.size + 1 < W.heap.size)
    (fun _ _ _ => False)
    (OwnFrom.and (Own.from (holdsRow_own w.heap.size w.heap.size 35 32 2 (fun pre => (ends pre).length) (fun pre => cellsE (ends pre)) (fun _ _ => True)) _) (OwnFrom.and (ownFrom_below (Nat.le_refl _) (by omega)) (fun _ X Y row hs hg _ => Nat.lt_of_lt_of_le hs hg.size)))
    (fun _ _ _ _ _ hs _ _ => hs)
    ⟨⟨_, bO, World.ownsRow_nil _ _ _ _, trivial⟩, hB0, by omega⟩
    (fun x a' W => ∃ Bx, W.heap[Bx]? = some (.cells #[.int .i64 (x.sz : Nat), .bool x.nm, .int .i64 x.ad, .int .i64 x.po] 34 (0, 0)) ∧ a' = { tmps := #[.string s, undef, .slice none 0 0, .pointer (some ⟨w.heap.size, 0, none⟩), .pointer (some ⟨Bx, 0, none⟩), .string s, .func (.func 65) #[] #[.pointer (some ⟨w.heap.size + 1, 0, none⟩)], pcV x, undef, undef, undef, undef, undef, undef, undef, undef], defers := [] })
    (fun x a' _ X Y row hs hg hr => by
      obtain ⟨Bx, h2, h3⟩ := hs
      refine ⟨Bx, (hg.block Bx (Array.getElem?_eq_some_iff.1 h2).1 fun e => ?_).trans h2, h3⟩
      obtain ⟨_, o, ho, hc⟩ := hr Bx e.symm
      rw [h2] at ho; cases ho; cases hc)
    ?assign ?body ?done ?stop
  case assign =>
    rintro l pre x W K ⟨⟨v, hv, hrow, _⟩, hB, hlt⟩ hK
    gi_wp2
    exact hK _ _ ((KeepsOthers.alloc _ _).from _) (Kp.below hv.lt ((Below.refl _ W).alloc (Nat.le_refl _) _)) ⟨⟨v, hv.alloc _, hrow.alloc _, trivial⟩, hB.alloc hB.size _, by simp; omega⟩ ⟨W.heap.size, World.alloc_heap_new W _, rfl⟩
  case body =>
    rintro l pre x a' W hl ⟨r, hr⟩ ⟨⟨v, hv, hrow, _⟩, hB, hlt⟩ ⟨Bx, hX, rfl⟩ hp
    have hc := hv.cell
    have x1 : W.cell? ⟨Bx, 1, none⟩ = some (.bool x.nm) := by simp [World.cell?, hX]
    have x2 : W.cell? ⟨Bx, 2, none⟩ = some (.int .i64 x.ad) := by simp [World.cell?, hX]
    have x3 : W.cell? ⟨Bx, 3, none⟩ = some (.int .i64 x.po) := by simp [World.cell?, hX]
    have hsW := hB.size
    have hel := ends_le pre
    obtain ⟨sz, nm, ad, po⟩ := x
    simp only at x1 x2 x3
    cases nm
    · gi_wp2
      have key : W.ownsRow w.heap.size 32 2 v (ends (pre ++ [⟨sz, false, ad, po⟩])).length (cellsE (ends (pre ++ [⟨sz, false, ad, po⟩]))) := by rw [ends_no _ _ rfl]; exact hrow
      first
      | exact ⟨KeepsFrom.refl _ _, Kp.below hv.lt (Below.refl _ _), ⟨v, hv, key, trivial⟩, hB, hlt⟩
      | exact ⟨KeepsFrom.refl _ _, Kp.below hv.lt (Below.refl _ _), ⟨v, hv, key⟩, hB, hlt⟩
    · gi_wp2_with (gi_at_builtin; refine wpListIn_append_own2 _ rfl _ _ 35 rfl w.heap.size 32 i0 (.agg #[.int .i64 0, .int .i64 0]) 2 16 Tryz.underlying35 hi hz0 hz1 hz2 rfl (by decide) _ _ _ rfl (hrow.alloc _) ⟨W.heap.size, 0, none⟩ 1 1 [.int .i64 ad, .int .i64 po] rfl rfl (App.cell_two_new _ _ _ _) (by simp [Value.oneCell']) (by unfold maxLen; omega) (by omega) (by simp; omega) ?_; intro v' w1 hown' hgrow hwh; obtain ⟨g', cap', rfl⟩ := ownsRow_succ hown'; obtain ⟨hv1, hv2, hr2, hk2, hb2⟩ := hv.appended (by decide) hrow hsW (Nat.le_refl _) hown' hgrow; have hc1 := hv1.cell; have hf1 := hv1.frozen; have hkp := kp_append (Bt := w.heap.size + 1) hv (by omega) hgrow hown' hwh hv2)
      have key := hr2
      rw [show (ends pre).length + 1 = (ends (pre ++ [⟨sz, true, ad, po⟩])).length by rw [ends_yes _ _ rfl, List.length_append]; rfl, show cellsE (ends pre) ++ [Value.int .i64 ad, Value.int .i64 po] = cellsE (ends (pre ++ [⟨sz, true, ad, po⟩])) by rw [ends_yes _ _ rfl, cellsE_snoc]] at key
      have hlt2 := Nat.lt_of_lt_of_le hlt hkp.size
      have hB2 := hB.trans hb2
      have hle : (ends pre).length + 1 = (ends (pre ++ [⟨sz, true, ad, po⟩])).length := by rw [ends_yes _ _ rfl, List.length_append]; rfl
      rw [← hle] at key
      first
      | exact ⟨hk2.from _, hkp, ⟨_, hv2, by rw [← hle]; exact key, trivial⟩, hB2, hlt2⟩
      | exact ⟨hk2.from _, hkp, ⟨_, hv2, by rw [← hle]; exact key⟩, hB2, hlt2⟩
  case done =>
    rintro D ys W hD rfl ⟨⟨v, hv, hrow, _⟩, hB, _⟩ hK
    have hc := hv.cell
    gi_wp2
    refine ⟨by simp, .inl ⟨_, _, rfl, run_takeDeferred hK, ?_⟩⟩
    exact ⟨_, results_tmp rfl _ _ _, v, rfl, ownsRow_putObj hrow _ hK rfl, hB.trans (belowK_b (w := w) (Nat.le_refl _) W D _ _ (by omega) hK rfl rfl)⟩
  case stop =>
    rintro D c pre W _ _ h _
    exact h.elim

/-- TextNames answers the ends that the pieces name, in a row of its own -/
theorem names_any (s : ByteArray) (w : World) (herr : Errs w) :
    Calls Tryz.prog 15 #[.string s] w fun e W' =>
      ∃ v, e = .returned v ∧ W'.ownsRow w.heap.size 32 2 v (ends (pieL s.data.toList)).length (cellsE (ends (pieL s.data.toList))) ∧ Below w.heap.size w W' :=
  (callsIn_wide (n := 9)).1 (names_in 9 (by omega) s w herr)
end Go.Proofs.YtlejldaennlfaaeGreatDoor.Nas

/- Walks: TextNames of the model. -/
namespace Go.Proofs.YtlejldaennlfaaeGreatDoor.Nas
open Go.RowKit Go.Shelf Go.Proofs.YtlejldaennlfaaeGreatDoor.Kit Go.Proofs.YtlejldaennlfaaeGreatDoor.Tx Go.Proofs.YtlejldaennlfaaeGreatDoor.Nm Go.Proofs.YtlejldaennlfaaeGreatDoor.App Go.Proofs.YtlejldaennlfaaeGreatDoor.It Go.Proofs.YtlejldaennlfaaeGreatDoor.Pcs Go.Proofs.YtlejldaennlfaaeGreatDoor.Lz Go.Proofs.YtlejldaennlfaaeGreatDoor.LzP
attribute [local go_sem] Oper.semAt_some
set_option linter.unusedSimpArgs false
set_option linter.unusedVariables false

theorem at4_grown {W W' : World} {row : Option Nat} {g o : Nat} {p : Pc} (h : At4 W g o p) (hg : W.grownBy W' row) (hne : some g ≠ row) : At4 W' g o p := by
  have e : ∀ j, W'.cell? ⟨g, j, none⟩ = W.cell? ⟨g, j, none⟩ := fun j => World.cell?_of_block (hg.block g (blk h.1) hne)
  exact ⟨(e _).trans h.1, (e _).trans h.2.1, (e _).trans h.2.2.1, (e _).trans h.2.2.2⟩

theorem take_one (ps : List Pc) (k : Nat) (h : k < ps.length) : ps.take (k + 1) = ps.take k ++ [ps[k]] := by
  rw [List.take_add_one, List.getElem?_eq_getElem h]; rfl

end Go.Proofs.YtlejldaennlfaaeGreatDoor.Nas

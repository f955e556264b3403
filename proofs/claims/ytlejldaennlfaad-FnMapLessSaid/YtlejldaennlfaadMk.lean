/- Walks: the program's pairs: a port is given, asked for, and all are listed. -/
import Derived.Test.YtlejldaennlfaadMj
import Derived.Test.YtlejldaennlfaadEndV
import Derived.Maps.OwnSet
import Derived.BigRegion
import Derived.Deep.RegionWith
import Derived.Deep.QuietTactic
import Derived.BigQuiet
namespace Go.Proofs.Ytlejldaennlfaad.Mk
open Go.RowKit Go.Proofs.Ytlejldaennlfaad.Kit Go.Proofs.Ytlejldaennlfaad.Mp Go.Proofs.Ytlejldaennlfaad.Mj
open Go.Proofs.Ytlejldaennlfaad.EndW (endV sideZ isB impl1)
open Go.ChangeMaps (setBlock)
set_option linter.unusedSimpArgs false
set_option linter.unusedVariables false

theorem isB_inB (e : Int × Int) : isB 1 e.1 e.2 = inB e := by
  unfold isB inB; rw [Bool.eq_iff_iff]; simp

/-- old blocks but two are as they were -/
structure But2 (bt bb : Nat) (w w' : World) : Prop where
  os : w'.os = w.os
  tape : w'.tape = w.tape
  output : w'.output = w.output
  size : w.heap.size ≤ w'.heap.size
  block : ∀ k, k < w.heap.size → k ≠ bt → k ≠ bb → w'.heap[k]? = w.heap[k]?
theorem But2.refl (bt bb : Nat) (w : World) : But2 bt bb w w := ⟨rfl, rfl, rfl, Nat.le_refl _, fun _ _ _ _ => rfl⟩
theorem But2.trans {bt bb : Nat} {x y z : World} (h : But2 bt bb x y) (k : But2 bt bb y z) : But2 bt bb x z :=
  ⟨k.os.trans h.os, k.tape.trans h.tape, k.output.trans h.output, Nat.le_trans h.size k.size, fun i hi h1 h2 => (k.block i (Nat.lt_of_lt_of_le hi h.size) h1 h2).trans (h.block i hi h1 h2)⟩
theorem But2.ofBelow {bt bb : Nat} {w w' : World} (h : Below w.heap.size w w') : But2 bt bb w w' := ⟨h.os, h.tape, h.output, h.size, fun k hk _ _ => h.block k hk⟩
theorem But2.cell {bt bb : Nat} {w w' : World} (h : But2 bt bb w w') {p : Addr} (hl : p.block < w.heap.size) (h1 : p.block ≠ bt) (h2 : p.block ≠ bb) : w'.cell? p = w.cell? p := World.cell?_of_block (w := w) (h.block p.block hl h1 h2)
theorem But2.frozen {bt bb : Nat} {w w' : World} (h : But2 bt bb w w') {p : Addr} (hl : p.block < w.heap.size) (h1 : p.block ≠ bt) (h2 : p.block ≠ bb) : w'.frozen? p = w.frozen? p := World.frozen?_of_block (w := w) (h.block p.block hl h1 h2)
theorem But2.below {bt bb B : Nat} {w w' : World} (h : But2 bt bb w w') (h1 : B ≤ bt) (h2 : B ≤ bb) (hB : B ≤ w.heap.size) : Below B w w' := ⟨h.os, h.tape, h.output, h.size, fun k hk => h.block k (by omega) (by omega) (by omega)⟩

/-- behind the two stores -/
theorem two_set {W : World} {bt bb : Nat} {es : List (Int × Int)} (h : Two W bt bb es) (e : Int × Int) :
    Two (setBlock (setBlock W bt (.map (thL (es ++ [e])).toArray (es ++ [e]).length)) bb (.map (bkL (es ++ [e])).toArray (es ++ [e]).length)) bt bb (es ++ [e]) ∧
    But2 bt bb W (setBlock (setBlock W bt (.map (thL (es ++ [e])).toArray (es ++ [e]).length)) bb (.map (bkL (es ++ [e])).toArray (es ++ [e]).length)) := by
  have h1 := Go.ChangeMaps.heap_setBlock_same h.th (.map (thL (es ++ [e])).toArray (es ++ [e]).length)
  have h2 : ∀ i, i ≠ bt → (setBlock W bt (.map (thL (es ++ [e])).toArray (es ++ [e]).length)).heap[i]? = W.heap[i]? := fun i hi => Go.ChangeMaps.heap_setBlock_other h.th _ hi
  have h3 : (setBlock W bt (.map (thL (es ++ [e])).toArray (es ++ [e]).length)).heap[bb]? = some (.map (bkL es).toArray es.length) := (h2 bb h.ne.symm).trans h.bk
  have h4 := Go.ChangeMaps.heap_setBlock_same h3 (.map (bkL (es ++ [e])).toArray (es ++ [e]).length)
  have h5 : ∀ i, i ≠ bb → (setBlock (setBlock W bt (.map (thL (es ++ [e])).toArray (es ++ [e]).length)) bb (.map (bkL (es ++ [e])).toArray (es ++ [e]).length)).heap[i]? = _ := fun i hi => Go.ChangeMaps.heap_setBlock_other h3 _ hi
  refine ⟨⟨(h5 bt h.ne).trans h1, h4, h.ne⟩, ⟨rfl, rfl, rfl, by simp [setBlock], fun k _ k1 k2 => (h5 k k2).trans (h2 k k1)⟩⟩

/-- a map's entries are turned: what else was is as it was -/
theorem set_bk {W : World} {bt bb : Nat} {es : List (Int × Int)} (h : Two W bt bb es) (o : Obj) : (setBlock W bt o).heap[bb]? = some (.map (bkL es).toArray es.length) :=
  (Go.ChangeMaps.heap_setBlock_other h.th _ h.ne.symm).trans h.bk

abbrev prtV (bt bb : Nat) : Value := .agg #[.map (some bt), .map (some bb)]

/-- a look-up in a map, its answer known -/
theorem wpList_lookup_is {P : Program} (w : World) {ops : Array Oper} {rest : List Oper} {o : Oper} {a : Act} {Q : Exit → Act → World → Prop}
    (hg : o.guard = none) (m x : Operand) (t : TypeId) (c : Bool) (hop : o.op = Op.lookup t m x c) (mv xv u : Value) (hm : a.eval m = mv) (hx : a.eval x = xv)
    (hrun : (Instr.lookup t mv xv c).run P w = .ok u w) (hK : wpList P ops Q rest (a.put o.dst u) w) : wpList P ops Q (o :: rest) a w := by
  refine wpList_plain hg fun K' hK' => ?_
  unfold Oper.wp
  simp [execOp, hop, hm, hx, hrun, Result.andThen]
  exact hK' _ _ hK

theorem heap_drew (w : World) : w.drew.heap = w.heap := rfl
theorem heap_setB (w : World) (b : Nat) (o : Obj) : (setBlock w b o).heap = w.heap.setIfInBounds b o := rfl
theorem cell_heap {w w' : World} (h : w'.heap = w.heap) (a : Addr) : w'.cell? a = w.cell? a := World.cell?_of_block (w := w) (by rw [h])

set_option maxRecDepth 8000 in
set_option maxHeartbeats 1000000 in
theorem new_any (w : World) :
    Calls Try.prog 33 #[] w fun e w' => ∃ bt bb, e = .returned (prtV bt bb) ∧ Two w' bt bb [] ∧ w.heap.size ≤ bt ∧ w.heap.size ≤ bb ∧ Below w.heap.size w w' := by
  have hmm := @run_makeMap Try.prog
  go_enter Try.func33, Try.ntmps33
  go_wp2
  refine bodyPost_ret (v := prtV (w.heap.size + 1) (w.heap.size + 1 + 1)) (by simp [results, Try.results33, go_sem]) rfl ⟨_, _, rfl, ?_, by omega, by omega, ?_⟩
  · refine ⟨?_, ?_, by omega⟩
    · rw [Below.heap_alloc _ _ _ (by simp)]
      have := (MapKept.heap_alloc (w.alloc (.cells #[.map (some (w.heap.size + 1)), .map (some (w.heap.size + 1 + 1))] 50)) (.map #[] 0)).1
      simpa [thL] using this
    · have := (MapKept.heap_alloc ((w.alloc (.cells #[.map (some (w.heap.size + 1)), .map (some (w.heap.size + 1 + 1))] 50)).alloc (.map #[] 0)) (.map #[] 0)).1
      simpa [bkL] using this
  · exact (((Below.refl _ _).alloc (Nat.le_refl _) _).alloc (by simp) _).alloc (by simp; omega) _

attribute [local go_sem] heap_drew heap_setB in
set_option maxRecDepth 8000 in
set_option maxHeartbeats 4000000 in
theorem join_yes (W : World) (bt bb : Nat) (es : List (Int × Int)) (h : Two W bt bb es) (hg : GoodE es) (hl : es.length < 8) (e : Int × Int) (hi : inB e = true) (hn : e ∉ es) :
    Calls Try.prog 37 #[prtV bt bb, .int .i64 (10 + (es.length : Int)), endV e.1 e.2] W fun r W' => r = .returned (.bool true) ∧ Two W' bt bb (es ++ [e]) ∧ But2 bt bb W W' := by
  have hw := wf_small (10 + (es.length : Int)) (by omega) (by omega)
  have hin := inE_high es (10 + (es.length : Int)) (by omega)
  have L1 : ∀ w, Below W.heap.size W w → (Instr.lookup 47 (.map (some bt)) (.int .i64 (10 + (es.length : Int))) true).run Try.prog w = .ok (.tuple #[endV 0 0, .bool false]) w := by
    intro w hb
    have := look_th w bt bb es (h.below hb) (by omega) _ hw true
    rw [hin] at this; exact this
  have L2 : ∀ w, Below W.heap.size W w → (Instr.lookup 48 (.map (some bb)) (endV e.1 e.2) true).run Try.prog w = .ok (.tuple #[.int .i64 0, .bool false]) w := by
    intro w hb
    exact look_bk_no w bt bb es (h.below hb) hg e hi hn
  go_enter Try.func37, Try.ntmps37
  go_wp2_with (first
    | (at_lookup; refine wpList_lookup_is _ rfl _ _ _ _ rfl _ _ _ rfl rfl (L1 _ (((Below.refl _ _).alloc (Nat.le_refl _) _).alloc (by simp) _)) ?_)
    | (at_lookup; refine wpList_lookup_is _ rfl _ _ _ _ rfl _ _ _ rfl rfl (L2 _ ((((Below.refl _ _).alloc (Nat.le_refl _) _).alloc (by simp) _).alloc (by simp; omega) _)) ?_))
  have bA : Below W.heap.size W (((W.alloc (.cells #[.map (some bt), .map (some bb)] 50)).alloc (.cells #[.int .i64 e.1, .int .i64 e.2] 25)).alloc (.cells #[.int .i64 0, .int .i64 0] 25)) := (((Below.refl _ _).alloc (Nat.le_refl _) _).alloc (by simp) _).alloc (by simp; omega) _
  have c0 : (((W.alloc (.cells #[.map (some bt), .map (some bb)] 50)).alloc (.cells #[.int .i64 e.1, .int .i64 e.2] 25)).alloc (.cells #[.int .i64 0, .int .i64 0] 25)).cell? ⟨W.heap.size, 0, none⟩ = some (.map (some bt)) := by simp [go_sem]
  have c1 : (((W.alloc (.cells #[.map (some bt), .map (some bb)] 50)).alloc (.cells #[.int .i64 e.1, .int .i64 e.2] 25)).alloc (.cells #[.int .i64 0, .int .i64 0] 25)).cell? ⟨W.heap.size, 1, none⟩ = some (.map (some bb)) := by simp [go_sem]
  have d0 : (((W.alloc (.cells #[.map (some bt), .map (some bb)] 50)).alloc (.cells #[.int .i64 e.1, .int .i64 e.2] 25)).alloc (.cells #[.int .i64 0, .int .i64 0] 25)).cell? ⟨W.heap.size + 1, 0, none⟩ = some (.int .i64 e.1) := by simp [go_sem]
  have d1 : (((W.alloc (.cells #[.map (some bt), .map (some bb)] 50)).alloc (.cells #[.int .i64 e.1, .int .i64 e.2] 25)).alloc (.cells #[.int .i64 0, .int .i64 0] 25)).cell? ⟨W.heap.size + 1, 1, none⟩ = some (.int .i64 e.2) := by simp [go_sem]
  generalize (((W.alloc (.cells #[.map (some bt), .map (some bb)] 50)).alloc (.cells #[.int .i64 e.1, .int .i64 e.2] 25)).alloc (.cells #[.int .i64 0, .int .i64 0] 25)) = W2 at bA c0 c1 d0 d1 ⊢
  have h2 := h.below bA
  have hlt := h.lt
  have hTB := two_set h2 e
  have hS : But2 bt bb W2 (setBlock W2 bt (.map (thL (es ++ [e])).toArray (es ++ [e]).length)) := ⟨rfl, rfl, rfl, by simp [setBlock], fun k _ k1 k2 => Go.ChangeMaps.heap_setBlock_other h2.th _ k1⟩
  have V1 := fun (w : World) (hq : w.heap = W2.heap) => up_th w bt es (by rw [hq]; exact h2.th) hl e
  have V2 := fun (w : World) (hq : w.heap = W2.heap.setIfInBounds bt (.map (thL (es ++ [e])).toArray (es ++ [e]).length)) => up_bk w bb es (by rw [hq]; exact set_bk h2 _) hg e hi hn
  generalize Obj.map (thL (es ++ [e])).toArray (es ++ [e]).length = o1 at hTB hS V1 V2
  generalize Obj.map (bkL (es ++ [e])).toArray (es ++ [e]).length = o2 at hTB V2
  have U1 : (Instr.mapUpdate 47 (.map (some bt)) (.int .i64 (10 + (es.length : Int))) (.agg #[.int .i64 e.1, .int .i64 e.2])).run Try.prog W2.drew = .ok () (setBlock W2.drew bt o1) := V1 _ rfl
  have U2 : (Instr.mapUpdate 48 (.map (some bb)) (.agg #[.int .i64 e.1, .int .i64 e.2]) (.int .i64 (10 + (es.length : Int)))).run Try.prog (setBlock W2.drew bt o1) = .ok () (setBlock (setBlock W2.drew bt o1) bb o2) := V2 _ rfl
  have C0 : (setBlock W2.drew bt o1).cell? ⟨W.heap.size, 0, none⟩ = some (.map (some bt)) := (cell_heap (w := setBlock W2 bt o1) rfl _).trans ((hS.cell (p := ⟨W.heap.size, 0, none⟩) (blk c0) (by simp; omega) (by simp; omega)).trans c0)
  have C1 : (setBlock W2.drew bt o1).cell? ⟨W.heap.size, 1, none⟩ = some (.map (some bb)) := (cell_heap (w := setBlock W2 bt o1) rfl _).trans ((hS.cell (p := ⟨W.heap.size, 1, none⟩) (blk c1) (by simp; omega) (by simp; omega)).trans c1)
  have D0 : (setBlock W2.drew bt o1).cell? ⟨W.heap.size + 1, 0, none⟩ = some (.int .i64 e.1) := (cell_heap (w := setBlock W2 bt o1) rfl _).trans ((hS.cell (p := ⟨W.heap.size + 1, 0, none⟩) (blk d0) (by simp; omega) (by simp; omega)).trans d0)
  have D1 : (setBlock W2.drew bt o1).cell? ⟨W.heap.size + 1, 1, none⟩ = some (.int .i64 e.2) := (cell_heap (w := setBlock W2 bt o1) rfl _).trans ((hS.cell (p := ⟨W.heap.size + 1, 1, none⟩) (blk d1) (by simp; omega) (by simp; omega)).trans d1)
  have hend : Two (setBlock (setBlock W2.drew bt o1) bb o2) bt bb (es ++ [e]) ∧ But2 bt bb W (setBlock (setBlock W2.drew bt o1) bb o2) :=
    ⟨⟨hTB.1.th, hTB.1.bk, hTB.1.ne⟩, (But2.ofBelow bA).trans ⟨hTB.2.os, hTB.2.tape, hTB.2.output, hTB.2.size, hTB.2.block⟩⟩
  clear L1 L2 hin hw hS h2 bA V1 V2 hTB
  go_region
  all_goals
    go_wp2
    go_ret
    exact ⟨rfl, hend⟩

set_option maxRecDepth 8000 in
set_option maxHeartbeats 4000000 in
theorem join_no (W : World) (bt bb : Nat) (es : List (Int × Int)) (h : Two W bt bb es) (hg : GoodE es) (hl : es.length < 8) (e : Int × Int) (hi : inB e = true) (hn : e ∈ es) :
    Calls Try.prog 37 #[prtV bt bb, .int .i64 (10 + (es.length : Int)), endV e.1 e.2] W fun r W' => r = .returned (.bool false) ∧ Below W.heap.size W W' := by
  have hw := wf_small (10 + (es.length : Int)) (by omega) (by omega)
  have hin := inE_high es (10 + (es.length : Int)) (by omega)
  have L1 : ∀ w, Below W.heap.size W w → (Instr.lookup 47 (.map (some bt)) (.int .i64 (10 + (es.length : Int))) true).run Try.prog w = .ok (.tuple #[endV 0 0, .bool false]) w := by
    intro w hb
    have := look_th w bt bb es (h.below hb) (by omega) _ hw true
    rw [hin] at this; exact this
  have L2 : ∀ w, Below W.heap.size W w → (Instr.lookup 48 (.map (some bb)) (endV e.1 e.2) true).run Try.prog w = .ok (.tuple #[.int .i64 (10 + (es.idxOf e : Int)), .bool true]) w := by
    intro w hb
    exact look_bk_yes w bt bb es (h.below hb) hg e hi hn
  go_enter Try.func37, Try.ntmps37
  go_wp2_with (first
    | (at_lookup; refine wpList_lookup_is _ rfl _ _ _ _ rfl _ _ _ rfl rfl (L1 _ (((Below.refl _ _).alloc (Nat.le_refl _) _).alloc (by simp) _)) ?_)
    | (at_lookup; refine wpList_lookup_is _ rfl _ _ _ _ rfl _ _ _ rfl rfl (L2 _ ((((Below.refl _ _).alloc (Nat.le_refl _) _).alloc (by simp) _).alloc (by simp; omega) _)) ?_))
  go_ret
  exact ⟨rfl, (((Below.refl _ _).alloc (Nat.le_refl _) _).alloc (by simp) _).alloc (by simp; omega) _⟩

/-- a length of a map, known -/
theorem wpList_len_is {P : Program} (w : World) {ops : Array Oper} {rest : List Oper} {o : Oper} {a : Act} {Q : Exit → Act → World → Prop}
    (hg : o.guard = none) (m : Operand) (t : TypeId) (hop : o.op = Op.call { callee := Callee.builtin Builtin.len, args := #[m], argTypes := #[t] }) (mv u : Value) (hm : a.eval m = mv)
    (hrun : (Builtin.len_ #[t] o.type #[mv]).run P w = .ok u w) (hK : wpList P ops Q rest (a.put o.dst u) w) : wpList P ops Q (o :: rest) a w := by
  refine wpList_plain hg fun K' hK' => ?_
  unfold Oper.wp
  simp [execOp, hop, resolve, invoke, builtin, hm, hrun, Result.andThen]
  exact hK' _ _ hK

set_option maxRecDepth 8000 in
set_option maxHeartbeats 4000000 in
theorem next_any (W : World) (bt bb : Nat) (es : List (Int × Int)) (h : Two W bt bb es) (hl : es.length ≤ 8) :
    Calls Try.prog 35 #[prtV bt bb] W fun r W' => r = .returned (.int .i64 (10 + (es.length : Int))) ∧ Below W.heap.size W W' := by
  go_enter Try.func35, Try.ntmps35
  go_wp2_with (at_len; refine wpList_len_is _ rfl _ _ rfl _ _ rfl (len_th _ bt bb es (h.below ((Below.refl _ _).alloc (Nat.le_refl _) _)) _) ?_)
  go_ret
  exact ⟨rfl, (Below.refl _ _).alloc (Nat.le_refl _) _⟩
end Go.Proofs.Ytlejldaennlfaad.Mk

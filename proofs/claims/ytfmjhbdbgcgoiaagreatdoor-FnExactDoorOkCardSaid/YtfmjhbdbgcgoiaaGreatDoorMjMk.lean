/- The program's two maps: what they hold, and what a look-up and a store do. -/
import Derived.Test.YtfmjhbdbgcgoiaaGreatDoorMp
import Derived.Maps.Keyed
import Derived.Maps.Own
import Derived.DeepKeys4
import Derived.MapViews
import Derived.Test.YtfmjhbdbgcgoiaaGreatDoorEndV
import Derived.Maps.OwnSet
import Derived.BigRegion
import Derived.Deep.RegionWith
import Derived.Deep.QuietTactic
import Derived.BigQuiet
namespace Go.Proofs.YtfmjhbdbgcgoiaaGreatDoor.Mj
open Go.RowKit Go.Proofs.YtfmjhbdbgcgoiaaGreatDoor.Kit Go.Proofs.YtfmjhbdbgcgoiaaGreatDoor.Mp
open Go.Proofs.YtfmjhbdbgcgoiaaGreatDoor.EndW (endV sideZ)
open Go.ChangeMaps (setBlock)
set_option linter.unusedSimpArgs false

theorem laidOut : laidOutB Tryz.prog = true := by kernel_rfl
theorem rowE : (40 : TypeId) < Tryz.prog.types.size := of_decide_eq_true (by kernel_rfl)
theorem wideE : (match Tryz.prog.underlying 40 with | some (.array _ _) | some (.struct _) => true | _ => false) = true := by kernel_rfl
theorem typeE : Tryz.prog.keyType 40 = true := by kernel_rfl
theorem cellsEnd : Tryz.prog.cellsOf 40 = 2 := by kernel_rfl
theorem cellsInt : Tryz.prog.cellsOf 3 = 1 := by kernel_rfl
set_option maxRecDepth 100000 in
theorem lawE : Maps.Keyed Tryz.prog 40 := Maps.Keyed.of_law (deep_law_laid laidOut (m := 2) (by omega) rowE (by kernel_rfl) wideE)
theorem lawI : Maps.Keyed Tryz.prog 3 := Maps.int_keyed Tryz.underlying3
theorem zeroE (w : World) : (zeroValue 40).run Tryz.prog w = .ok (endV 0 0) w := by kernel_rfl
theorem zeroI (w : World) : (zeroValue 3).run Tryz.prog w = .ok (.int .i64 0) w := by kernel_rfl
theorem sizeT : ∃ m, Tryz.prog.types.size = m + 1 := ⟨Tryz.prog.types.size - 1, by
  have : (1 : Nat) ≤ Tryz.prog.types.size := of_decide_eq_true (by kernel_rfl)
  omega⟩
theorem keyE (a p : Int) (ha : (Lit.int .i64 a).wf = true) (hp : (Lit.int .i64 p).wf = true) : ∃ l, keyOf Tryz.prog 40 (endV a p) = some l := by
  obtain ⟨m, hm⟩ := sizeT
  unfold keyOf
  rw [Tryz.underlying40]
  simp only [typeE, Bool.true_and]
  rw [if_pos (by simp [Value.formed, Tryz.underlying40, cellsEnd])]
  rw [hm]
  simp [Program.keyLits, Tryz.underlying40, Tryz.underlying3, cellsEnd, cellsInt, Value.cells, ha, hp]
theorem wf_small (n : Int) (h0 : -1000000000000 ≤ n) (h1 : n ≤ 1000000000000) : (Lit.int .i64 n).wf = true := by
  simp [Lit.wf, IntKind.min, IntKind.max, IntKind.bits, IntKind.signed]; omega
theorem wf_in (e : Int × Int) (h : inB e = true) : (Lit.int .i64 e.1).wf = true ∧ (Lit.int .i64 e.2).wf = true := by
  have := inB_bd e h
  exact ⟨wf_small _ (by omega) (by omega), wf_small _ (by omega) (by omega)⟩
theorem keyIn (e : Int × Int) (h : inB e = true) : ∃ l, keyOf Tryz.prog 40 (endV e.1 e.2) = some l := keyE _ _ (wf_in e h).1 (wf_in e h).2
theorem keyI (n : Int) (h : (Lit.int .i64 n).wf = true) : ∃ l, keyOf Tryz.prog 3 (.int .i64 n) = some l := ⟨_, Maps.keyOf_int_mk Tryz.underlying3 h⟩

/-- the entries by the port, and by the end -/
def thL (es : List (Int × Int)) : List MapEntry := es.mapIdx fun i e => { key := .int .i64 (10 + (i : Int)), val := endV e.1 e.2, born := i }
def bkL (es : List (Int × Int)) : List MapEntry := es.mapIdx fun i e => { key := endV e.1 e.2, val := .int .i64 (10 + (i : Int)), born := i }
theorem thL_at (es : List (Int × Int)) (i : Nat) : (thL es)[i]? = es[i]?.map fun e => { key := .int .i64 (10 + (i : Int)), val := endV e.1 e.2, born := i } := by simp [thL]
theorem bkL_at (es : List (Int × Int)) (i : Nat) : (bkL es)[i]? = es[i]?.map fun e => { key := endV e.1 e.2, val := .int .i64 (10 + (i : Int)), born := i } := by simp [bkL]
theorem thL_snoc (es : List (Int × Int)) (e : Int × Int) : thL (es ++ [e]) = thL es ++ [{ key := .int .i64 (10 + (es.length : Int)), val := endV e.1 e.2, born := es.length }] := by simp [thL, List.mapIdx_append]
theorem bkL_snoc (es : List (Int × Int)) (e : Int × Int) : bkL (es ++ [e]) = bkL es ++ [{ key := endV e.1 e.2, val := .int .i64 (10 + (es.length : Int)), born := es.length }] := by simp [bkL, List.mapIdx_append]
theorem thL_mem (es : List (Int × Int)) (x : MapEntry) (h : x ∈ thL es) : ∃ (i : Nat) (e : Int × Int), es[i]? = some e ∧ x = { key := .int .i64 (10 + (i : Int)), val := endV e.1 e.2, born := i } := by
  obtain ⟨i, hi⟩ := List.mem_iff_getElem?.1 h
  rw [thL_at] at hi
  cases q : es[i]? with
  | none => rw [q] at hi; cases hi
  | some e => rw [q] at hi; simp at hi; exact ⟨i, e, q, hi.symm⟩
theorem bkL_mem (es : List (Int × Int)) (x : MapEntry) (h : x ∈ bkL es) : ∃ (i : Nat) (e : Int × Int), es[i]? = some e ∧ x = { key := endV e.1 e.2, val := .int .i64 (10 + (i : Int)), born := i } := by
  obtain ⟨i, hi⟩ := List.mem_iff_getElem?.1 h
  rw [bkL_at] at hi
  cases q : es[i]? with
  | none => rw [q] at hi; cases hi
  | some e => rw [q] at hi; simp at hi; exact ⟨i, e, q, hi.symm⟩
theorem thKeys (es : List (Int × Int)) (hl : es.length ≤ 8) : ∀ x ∈ thL es, ∃ l, keyOf Tryz.prog 3 x.key = some l := by
  intro x hx
  obtain ⟨i, e, hi, rfl⟩ := thL_mem es x hx
  have := (List.getElem?_eq_some_iff.1 hi).1
  exact keyI _ (wf_small _ (by omega) (by omega))
theorem bkKeys (es : List (Int × Int)) (hg : GoodE es) : ∀ x ∈ bkL es, ∃ l, keyOf Tryz.prog 40 x.key = some l := by
  intro x hx
  obtain ⟨i, e, hi, rfl⟩ := bkL_mem es x hx
  exact keyIn e (hg.ins e (List.mem_of_getElem? hi))

/-- the two maps of a call -/
structure Two (W : World) (bt bb : Nat) (es : List (Int × Int)) : Prop where
  th : W.heap[bt]? = some (.map (thL es).toArray es.length)
  bk : W.heap[bb]? = some (.map (bkL es).toArray es.length)
  ne : bt ≠ bb
theorem Two.lt {W : World} {bt bb : Nat} {es : List (Int × Int)} (h : Two W bt bb es) : bt < W.heap.size ∧ bb < W.heap.size :=
  ⟨(Array.getElem?_eq_some_iff.1 h.th).1, (Array.getElem?_eq_some_iff.1 h.bk).1⟩
theorem Two.below {W W' : World} {bt bb : Nat} {es : List (Int × Int)} (h : Two W bt bb es) (k : Below W.heap.size W W') : Two W' bt bb es :=
  ⟨(k.block bt h.lt.1).trans h.th, (k.block bb h.lt.2).trans h.bk, h.ne⟩

theorem find_bk (W : World) (es : List (Int × Int)) (hg : GoodE es) (e : Int × Int) (hi : inB e = true) :
    (e ∉ es ∧ (Instr.findKey 40 (endV e.1 e.2) (bkL es)).run Tryz.prog W = .ok none W) ∨
    (e ∈ es ∧ (Instr.findKey 40 (endV e.1 e.2) (bkL es)).run Tryz.prog W = .ok (some (es.idxOf e, .int .i64 (10 + (es.idxOf e : Int)))) W) := by
  obtain ⟨l, hl⟩ := keyIn e hi
  rcases lawE.find W hl (bkL es) (bkKeys es hg) with ⟨h1, h2⟩ | ⟨j, x, h1, h2, h3⟩
  · refine .inl ⟨fun hm => ?_, h1⟩
    obtain ⟨i, hi⟩ := List.mem_iff_getElem?.1 hm
    have := List.mem_of_getElem? (l := bkL es) (i := i) (by rw [bkL_at, hi]; rfl)
    exact h2 _ this rfl
  · rw [bkL_at] at h2
    cases q : es[j]? with
    | none => rw [q] at h2; cases h2
    | some f =>
      rw [q] at h2; simp at h2; subst h2
      simp only [endV] at h3
      have e1 : f = e := by
        simp at h3; exact Prod.ext h3.1 h3.2
      subst e1
      refine .inr ⟨List.mem_of_getElem? q, ?_⟩
      rw [idx_uniq es hg.nd f j q]; exact h1
theorem find_th (W : World) (es : List (Int × Int)) (hl : es.length ≤ 8) (port : Int) (hw : (Lit.int .i64 port).wf = true) :
    (inE es port = ((0, 0), false) ∧ (Instr.findKey 3 (.int .i64 port) (thL es)).run Tryz.prog W = .ok none W) ∨
    (∃ j e, inE es port = (e, true) ∧ (Instr.findKey 3 (.int .i64 port) (thL es)).run Tryz.prog W = .ok (some (j, endV e.1 e.2)) W) := by
  obtain ⟨l, hk⟩ := keyI port hw
  rcases lawI.find W hk (thL es) (thKeys es hl) with ⟨h1, h2⟩ | ⟨j, x, h1, h2, h3⟩
  · refine .inl ⟨?_, h1⟩
    rcases inE_cases es port with ⟨i, e, rfl, he, _⟩ | ⟨_, h⟩
    · exfalso
      have := List.mem_of_getElem? (l := thL es) (i := i) (by rw [thL_at, he]; rfl)
      exact h2 _ this rfl
    · exact h
  · rw [thL_at] at h2
    cases q : es[j]? with
    | none => rw [q] at h2; cases h2
    | some f =>
      rw [q] at h2; simp at h2; subst h2
      simp at h3
      refine .inr ⟨j, f, ?_, h1⟩
      rw [← h3]; exact inE_at es j f q

theorem look_bk_no (W : World) (bt bb : Nat) (es : List (Int × Int)) (h : Two W bt bb es) (hg : GoodE es) (e : Int × Int) (hi : inB e = true) (hn : e ∉ es) :
    (Instr.lookup 134 (.map (some bb)) (endV e.1 e.2) true).run Tryz.prog W = .ok (.tuple #[.int .i64 0, .bool false]) W := by
  obtain ⟨l, hk⟩ := keyIn e hi
  rcases find_bk W es hg e hi with ⟨_, h1⟩ | ⟨h1, _⟩
  · simp [Instr.lookup, run_underlying Tryz.underlying134, MapKept.run_getObj_map h.bk, lawE.check W _ hk, h1, zeroI, Result.andThen]
  · exact absurd h1 hn
theorem look_bk_yes (W : World) (bt bb : Nat) (es : List (Int × Int)) (h : Two W bt bb es) (hg : GoodE es) (e : Int × Int) (hi : inB e = true) (hn : e ∈ es) :
    (Instr.lookup 134 (.map (some bb)) (endV e.1 e.2) true).run Tryz.prog W = .ok (.tuple #[.int .i64 (10 + (es.idxOf e : Int)), .bool true]) W := by
  obtain ⟨l, hk⟩ := keyIn e hi
  rcases find_bk W es hg e hi with ⟨h1, _⟩ | ⟨_, h1⟩
  · exact absurd hn h1
  · simp [Instr.lookup, run_underlying Tryz.underlying134, MapKept.run_getObj_map h.bk, lawE.check W _ hk, h1, Result.andThen]
theorem look_th (W : World) (bt bb : Nat) (es : List (Int × Int)) (h : Two W bt bb es) (hl : es.length ≤ 8) (port : Int) (hw : (Lit.int .i64 port).wf = true) (c : Bool) :
    (Instr.lookup 133 (.map (some bt)) (.int .i64 port) c).run Tryz.prog W = .ok (if c then .tuple #[endV (inE es port).1.1 (inE es port).1.2, .bool (inE es port).2] else endV (inE es port).1.1 (inE es port).1.2) W := by
  obtain ⟨l, hk⟩ := keyI port hw
  rcases find_th W es hl port hw with ⟨e1, h1⟩ | ⟨j, e, e1, h1⟩
  · rw [e1]
    simp [Instr.lookup, run_underlying Tryz.underlying133, MapKept.run_getObj_map h.th, lawI.check W _ hk, h1, zeroE, Result.andThen]
  · rw [e1]
    simp [Instr.lookup, run_underlying Tryz.underlying133, MapKept.run_getObj_map h.th, lawI.check W _ hk, h1, Result.andThen]

/-- a store of a new pair: by the port, then by the end -/
theorem up_th (W : World) (bt : Nat) (es : List (Int × Int)) (h : W.heap[bt]? = some (.map (thL es).toArray es.length)) (hl : es.length < 8) (e : Int × Int) :
    (Instr.mapUpdate 133 (.map (some bt)) (.int .i64 (10 + (es.length : Int))) (endV e.1 e.2)).run Tryz.prog W = .ok () (setBlock W bt (.map (thL (es ++ [e])).toArray (es ++ [e]).length)) := by
  have hw := wf_small (10 + (es.length : Int)) (by omega) (by omega)
  obtain ⟨l, hk⟩ := keyI _ hw
  rcases find_th W es (by omega) _ hw with ⟨_, h1⟩ | ⟨j, f, e1, h1⟩
  · simp [Instr.mapUpdate, run_underlying Tryz.underlying133, MapKept.run_getObj_map h, lawI.check W _ hk, h1, MapKept.run_setObj_map _ h, Result.andThen, setBlock, thL_snoc]
  · rw [inE_high es _ (by omega)] at e1; cases e1
theorem up_bk (W : World) (bb : Nat) (es : List (Int × Int)) (h : W.heap[bb]? = some (.map (bkL es).toArray es.length)) (hg : GoodE es) (e : Int × Int) (hi : inB e = true) (hn : e ∉ es) :
    (Instr.mapUpdate 134 (.map (some bb)) (endV e.1 e.2) (.int .i64 (10 + (es.length : Int)))).run Tryz.prog W = .ok () (setBlock W bb (.map (bkL (es ++ [e])).toArray (es ++ [e]).length)) := by
  obtain ⟨l, hk⟩ := keyIn e hi
  rcases find_bk W es hg e hi with ⟨_, h1⟩ | ⟨h1, _⟩
  · simp [Instr.mapUpdate, run_underlying Tryz.underlying134, MapKept.run_getObj_map h, lawE.check W _ hk, h1, MapKept.run_setObj_map _ h, Result.andThen, setBlock, bkL_snoc]
  · exact absurd h1 hn
theorem len_th (W : World) (bt bb : Nat) (es : List (Int × Int)) (h : Two W bt bb es) (ty : TypeId) : (Builtin.len_ #[133] ty #[.map (some bt)]).run Tryz.prog W = .ok (.int .i64 (es.length : Nat)) W := by
  have e1 : (thL es).length = es.length := by simp [thL]
  simp [Builtin.len_, run_underlying Tryz.underlying133, MapKept.run_getObj_map h.th, goInt, Result.andThen, e1]
end Go.Proofs.YtfmjhbdbgcgoiaaGreatDoor.Mj

/- Walks: the program's pairs: a port is given, asked for, and all are listed. -/
namespace Go.Proofs.YtfmjhbdbgcgoiaaGreatDoor.Mk
open Go.RowKit Go.Proofs.YtfmjhbdbgcgoiaaGreatDoor.Kit Go.Proofs.YtfmjhbdbgcgoiaaGreatDoor.Mp Go.Proofs.YtfmjhbdbgcgoiaaGreatDoor.Mj
open Go.Proofs.YtfmjhbdbgcgoiaaGreatDoor.EndW (endV sideZ isB impl1)
open Go.ChangeMaps (setBlock)
set_option linter.unusedSimpArgs false
set_option linter.unusedVariables false

theorem isB_inB (e : Int × Int) : isB 1 e.1 e.2 = inB e := by
  unfold isB inB; rw [Bool.eq_iff_iff]; simp

/-- old blocks but two are as they were -/
structure But2 (bt bb : Nat) (w w' : World) : Prop where
  os : w'.os = w.os
  tape : w'.tape = w.tape
  output : w'.output = w.output
  size : w.heap.size ≤ w'.heap.size
  block : ∀ k, k < w.heap.size → k ≠ bt → k ≠ bb → w'.heap[k]? = w.heap[k]?
theorem But2.refl (bt bb : Nat) (w : World) : But2 bt bb w w := ⟨rfl, rfl, rfl, Nat.le_refl _, fun _ _ _ _ => rfl⟩
theorem But2.trans {bt bb : Nat} {x y z : World} (h : But2 bt bb x y) (k : But2 bt bb y z) : But2 bt bb x z :=
  ⟨k.os.trans h.os, k.tape.trans h.tape, k.output.trans h.output, Nat.le_trans h.size k.size, fun i hi h1 h2 => (k.block i (Nat.lt_of_lt_of_le hi h.size) h1 h2).trans (h.block i hi h1 h2)⟩
theorem But2.ofBelow {bt bb : Nat} {w w' : World} (h : Below w.heap.size w w') : But2 bt bb w w' := ⟨h.os, h.tape, h.output, h.size, fun k hk _ _ => h.block k hk⟩
theorem But2.cell {bt bb : Nat} {w w' : World} (h : But2 bt bb w w') {p : Addr} (hl : p.block < w.heap.size) (h1 : p.block ≠ bt) (h2 : p.block ≠ bb) : w'.cell? p = w.cell? p := World.cell?_of_block (w := w) (h.block p.block hl h1 h2)
theorem But2.frozen {bt bb : Nat} {w w' : World} (h : But2 bt bb w w') {p : Addr} (hl : p.block < w.heap.size) (h1 : p.block ≠ bt) (h2 : p.block ≠ bb) : w'.frozen? p = w.frozen? p := World.frozen?_of_block (w := w) (h.block p.block hl h1 h2)
theorem But2.below {bt bb B : Nat} {w w' : World} (h : But2 bt bb w w') (h1 : B ≤ bt) (h2 : B ≤ bb) (hB : B ≤ w.heap.size) : Below B w w' := ⟨h.os, h.tape, h.output, h.size, fun k hk => h.block k (by omega) (by omega) (by omega)⟩

/-- behind the two stores -/
theorem two_set {W : World} {bt bb : Nat} {es : List (Int × Int)} (h : Two W bt bb es) (e : Int × Int) :
    Two (setBlock (setBlock W bt (.map (thL (es ++ [e])).toArray (es ++ [e]).length)) bb (.map (bkL (es ++ [e])).toArray (es ++ [e]).length)) bt bb (es ++ [e]) ∧
    But2 bt bb W (setBlock (setBlock W bt (.map (thL (es ++ [e])).toArray (es ++ [e]).length)) bb (.map (bkL (es ++ [e])).toArray (es ++ [e]).length)) := by
  have h1 := Go.ChangeMaps.heap_setBlock_same h.th (.map (thL (es ++ [e])).toArray (es ++ [e]).length)
  have h2 : ∀ i, i ≠ bt → (setBlock W bt (.map (thL (es ++ [e])).toArray (es ++ [e]).length)).heap[i]? = W.heap[i]? := fun i hi => Go.ChangeMaps.heap_setBlock_other h.th _ hi
  have h3 : (setBlock W bt (.map (thL (es ++ [e])).toArray (es ++ [e]).length)).heap[bb]? = some (.map (bkL es).toArray es.length) := (h2 bb h.ne.symm).trans h.bk
  have h4 := Go.ChangeMaps.heap_setBlock_same h3 (.map (bkL (es ++ [e])).toArray (es ++ [e]).length)
  have h5 : ∀ i, i ≠ bb → (setBlock (setBlock W bt (.map (thL (es ++ [e])).toArray (es ++ [e]).length)) bb (.map (bkL (es ++ [e])).toArray (es ++ [e]).length)).heap[i]? = _ := fun i hi => Go.ChangeMaps.heap_setBlock_other h3 _ hi
  refine ⟨⟨(h5 bt h.ne).trans h1, h4, h.ne⟩, ⟨rfl, rfl, rfl, by simp [setBlock], fun k _ k1 k2 => (h5 k k2).trans (h2 k k1)⟩⟩

/-- a map's entries are turned: what else was is as it was -/
theorem set_bk {W : World} {bt bb : Nat} {es : List (Int × Int)} (h : Two W bt bb es) (o : Obj) : (setBlock W bt o).heap[bb]? = some (.map (bkL es).toArray es.length) :=
  (Go.ChangeMaps.heap_setBlock_other h.th _ h.ne.symm).trans h.bk

abbrev prtV (bt bb : Nat) : Value := .agg #[.map (some bt), .map (some bb)]

/-- a look-up in a map, its answer known -/
theorem wpList_lookup_is {P : Program} (w : World) {ops : Array Oper} {rest : List Oper} {o : Oper} {a : Act} {Q : Exit → Act → World → Prop}
    (hg : o.guard = none) (m x : Operand) (t : TypeId) (c : Bool) (hop : o.op = Op.lookup t m x c) (mv xv u : Value) (hm : a.eval m = mv) (hx : a.eval x = xv)
    (hrun : (Instr.lookup t mv xv c).run P w = .ok u w) (hK : wpList P ops Q rest (a.put o.dst u) w) : wpList P ops Q (o :: rest) a w := by
  refine wpList_plain hg fun K' hK' => ?_
  unfold Oper.wp
  simp [execOp, hop, hm, hx, hrun, Result.andThen]
  exact hK' _ _ hK

theorem heap_drew (w : World) : w.drew.heap = w.heap := rfl
theorem heap_setB (w : World) (b : Nat) (o : Obj) : (setBlock w b o).heap = w.heap.setIfInBounds b o := rfl
theorem cell_heap {w w' : World} (h : w'.heap = w.heap) (a : Addr) : w'.cell? a = w.cell? a := World.cell?_of_block (w := w) (by rw [h])

set_option maxRecDepth 8000 in
set_option maxHeartbeats 1000000 in
theorem new_any (w : World) :
    Calls Tryz.prog 117 #[] w fun e w' => ∃ bt bb, e = .returned (prtV bt bb) ∧ Two w' bt bb [] ∧ w.heap.size ≤ bt ∧ w.heap.size ≤ bb ∧ Below w.heap.size w w' := by
  have hmm := @run_makeMap Tryz.prog
  go_enter Tryz.func117, Tryz.ntmps117
  go_wp2
  refine bodyPost_ret (v := prtV (w.heap.size + 1) (w.heap.size + 1 + 1)) (by simp [results, Tryz.results117, go_sem]) rfl ⟨_, _, rfl, ?_, by omega, by omega, ?_⟩
  · refine ⟨?_, ?_, by omega⟩
    · rw [Below.heap_alloc _ _ _ (by simp)]
      have := (MapKept.heap_alloc (w.alloc (.cells #[.map (some (w.heap.size + 1)), .map (some (w.heap.size + 1 + 1))] 136)) (.map #[] 0)).1
      simpa [thL] using this
    · have := (MapKept.heap_alloc ((w.alloc (.cells #[.map (some (w.heap.size + 1)), .map (some (w.heap.size + 1 + 1))] 136)).alloc (.map #[] 0)) (.map #[] 0)).1
      simpa [bkL] using this
  · exact (((Below.refl _ _).alloc (Nat.le_refl _) _).alloc (by simp) _).alloc (by simp; omega) _

attribute [local go_sem] heap_drew heap_setB in
set_option maxRecDepth 8000 in
set_option maxHeartbeats 4000000 in
theorem join_yes (W : World) (bt bb : Nat) (es : List (Int × Int)) (h : Two W bt bb es) (hg : GoodE es) (hl : es.length < 8) (e : Int × Int) (hi : inB e = true) (hn : e ∉ es) :
    Calls Tryz.prog 134 #[prtV bt bb, .int .i64 (10 + (es.length : Int)), endV e.1 e.2] W fun r W' => r = .returned (.bool true) ∧ Two W' bt bb (es ++ [e]) ∧ But2 bt bb W W' := by
  have hw := wf_small (10 + (es.length : Int)) (by omega) (by omega)
  have hin := inE_high es (10 + (es.length : Int)) (by omega)
  have L1 : ∀ w, Below W.heap.size W w → (Instr.lookup 133 (.map (some bt)) (.int .i64 (10 + (es.length : Int))) true).run Tryz.prog w = .ok (.tuple #[endV 0 0, .bool false]) w := by
    intro w hb
    have := look_th w bt bb es (h.below hb) (by omega) _ hw true
    rw [hin] at this; exact this
  have L2 : ∀ w, Below W.heap.size W w → (Instr.lookup 134 (.map (some bb)) (endV e.1 e.2) true).run Tryz.prog w = .ok (.tuple #[.int .i64 0, .bool false]) w := by
    intro w hb
    exact look_bk_no w bt bb es (h.below hb) hg e hi hn
  go_enter Tryz.func134, Tryz.ntmps134
  go_wp2_with (first
    | (at_lookup; refine wpList_lookup_is _ rfl _ _ _ _ rfl _ _ _ rfl rfl (L1 _ (((Below.refl _ _).alloc (Nat.le_refl _) _).alloc (by simp) _)) ?_)
    | (at_lookup; refine wpList_lookup_is _ rfl _ _ _ _ rfl _ _ _ rfl rfl (L2 _ ((((Below.refl _ _).alloc (Nat.le_refl _) _).alloc (by simp) _).alloc (by simp; omega) _)) ?_))
  have bA : Below W.heap.size W (((W.alloc (.cells #[.map (some bt), .map (some bb)] 136)).alloc (.cells #[.int .i64 e.1, .int .i64 e.2] 40)).alloc (.cells #[.int .i64 0, .int .i64 0] 40)) := (((Below.refl _ _).alloc (Nat.le_refl _) _).alloc (by simp) _).alloc (by simp; omega) _
  have c0 : (((W.alloc (.cells #[.map (some bt), .map (some bb)] 136)).alloc (.cells #[.int .i64 e.1, .int .i64 e.2] 40)).alloc (.cells #[.int .i64 0, .int .i64 0] 40)).cell? ⟨W.heap.size, 0, none⟩ = some (.map (some bt)) := by simp [go_sem]
  have c1 : (((W.alloc (.cells #[.map (some bt), .map (some bb)] 136)).alloc (.cells #[.int .i64 e.1, .int .i64 e.2] 40)).alloc (.cells #[.int .i64 0, .int .i64 0] 40)).cell? ⟨W.heap.size, 1, none⟩ = some (.map (some bb)) := by simp [go_sem]
  have d0 : (((W.alloc (.cells #[.map (some bt), .map (some bb)] 136)).alloc (.cells #[.int .i64 e.1, .int .i64 e.2] 40)).alloc (.cells #[.int .i64 0, .int .i64 0] 40)).cell? ⟨W.heap.size + 1, 0, none⟩ = some (.int .i64 e.1) := by simp [go_sem]
  have d1 : (((W.alloc (.cells #[.map (some bt), .map (some bb)] 136)).alloc (.cells #[.int .i64 e.1, .int .i64 e.2] 40)).alloc (.cells #[.int .i64 0, .int .i64 0] 40)).cell? ⟨W.heap.size + 1, 1, none⟩ = some (.int .i64 e.2) := by simp [go_sem]
  generalize (((W.alloc (.cells #[.map (some bt), .map (some bb)] 136)).alloc (.cells #[.int .i64 e.1, .int .i64 e.2] 40)).alloc (.cells #[.int .i64 0, .int .i64 0] 40)) = W2 at bA c0 c1 d0 d1 ⊢
  have h2 := h.below bA
  have hlt := h.lt
  have hTB := two_set h2 e
  have hS : But2 bt bb W2 (setBlock W2 bt (.map (thL (es ++ [e])).toArray (es ++ [e]).length)) := ⟨rfl, rfl, rfl, by simp [setBlock], fun k _ k1 k2 => Go.ChangeMaps.heap_setBlock_other h2.th _ k1⟩
  have V1 := fun (w : World) (hq : w.heap = W2.heap) => up_th w bt es (by rw [hq]; exact h2.th) hl e
  have V2 := fun (w : World) (hq : w.heap = W2.heap.setIfInBounds bt (.map (thL (es ++ [e])).toArray (es ++ [e]).length)) => up_bk w bb es (by rw [hq]; exact set_bk h2 _) hg e hi hn
  generalize Obj.map (thL (es ++ [e])).toArray (es ++ [e]).length = o1 at hTB hS V1 V2
  generalize Obj.map (bkL (es ++ [e])).toArray (es ++ [e]).length = o2 at hTB V2
  have U1 : (Instr.mapUpdate 133 (.map (some bt)) (.int .i64 (10 + (es.length : Int))) (.agg #[.int .i64 e.1, .int .i64 e.2])).run Tryz.prog W2.drew = .ok () (setBlock W2.drew bt o1) := V1 _ rfl
  have U2 : (Instr.mapUpdate 134 (.map (some bb)) (.agg #[.int .i64 e.1, .int .i64 e.2]) (.int .i64 (10 + (es.length : Int)))).run Tryz.prog (setBlock W2.drew bt o1) = .ok () (setBlock (setBlock W2.drew bt o1) bb o2) := V2 _ rfl
  have C0 : (setBlock W2.drew bt o1).cell? ⟨W.heap.size, 0, none⟩ = some (.map (some bt)) := (cell_heap (w := setBlock W2 bt o1) rfl _).trans ((hS.cell (p := ⟨W.heap.size, 0, none⟩) (blk c0) (by simp; omega) (by simp; omega)).trans c0)
  have C1 : (setBlock W2.drew bt o1).cell? ⟨W.heap.size, 1, none⟩ = some (.map (some bb)) := (cell_heap (w := setBlock W2 bt o1) rfl _).trans ((hS.cell (p := ⟨W.heap.size, 1, none⟩) (blk c1) (by simp; omega) (by simp; omega)).trans c1)
  have D0 : (setBlock W2.drew bt o1).cell? ⟨W.heap.size + 1, 0, none⟩ = some (.int .i64 e.1) := (cell_heap (w := setBlock W2 bt o1) rfl _).trans ((hS.cell (p := ⟨W.heap.size + 1, 0, none⟩) (blk d0) (by simp; omega) (by simp; omega)).trans d0)
  have D1 : (setBlock W2.drew bt o1).cell? ⟨W.heap.size + 1, 1, none⟩ = some (.int .i64 e.2) := (cell_heap (w := setBlock W2 bt o1) rfl _).trans ((hS.cell (p := ⟨W.heap.size + 1, 1, none⟩) (blk d1) (by simp; omega) (by simp; omega)).trans d1)
  have hend : Two (setBlock (setBlock W2.drew bt o1) bb o2) bt bb (es ++ [e]) ∧ But2 bt bb W (setBlock (setBlock W2.drew bt o1) bb o2) :=
    ⟨⟨hTB.1.th, hTB.1.bk, hTB.1.ne⟩, (But2.ofBelow bA).trans ⟨hTB.2.os, hTB.2.tape, hTB.2.output, hTB.2.size, hTB.2.block⟩⟩
  clear L1 L2 hin hw hS h2 bA V1 V2 hTB
  go_region
  all_goals
    go_wp2
    go_ret
    exact ⟨rfl, hend⟩

set_option maxRecDepth 8000 in
set_option maxHeartbeats 4000000 in
theorem join_no (W : World) (bt bb : Nat) (es : List (Int × Int)) (h : Two W bt bb es) (hg : GoodE es) (hl : es.length < 8) (e : Int × Int) (hi : inB e = true) (hn : e ∈ es) :
    Calls Tryz.prog 134 #[prtV bt bb, .int .i64 (10 + (es.length : Int)), endV e.1 e.2] W fun r W' => r = .returned (.bool false) ∧ Below W.heap.size W W' := by
  have hw := wf_small (10 + (es.length : Int)) (by omega) (by omega)
  have hin := inE_high es (10 + (es.length : Int)) (by omega)
  have L1 : ∀ w, Below W.heap.size W w → (Instr.lookup 133 (.map (some bt)) (.int .i64 (10 + (es.length : Int))) true).run Tryz.prog w = .ok (.tuple #[endV 0 0, .bool false]) w := by
    intro w hb
    have := look_th w bt bb es (h.below hb) (by omega) _ hw true
    rw [hin] at this; exact this
  have L2 : ∀ w, Below W.heap.size W w → (Instr.lookup 134 (.map (some bb)) (endV e.1 e.2) true).run Tryz.prog w = .ok (.tuple #[.int .i64 (10 + (es.idxOf e : Int)), .bool true]) w := by
    intro w hb
    exact look_bk_yes w bt bb es (h.below hb) hg e hi hn
  go_enter Tryz.func134, Tryz.ntmps134
  go_wp2_with (first
    | (at_lookup; refine wpList_lookup_is _ rfl _ _ _ _ rfl _ _ _ rfl rfl (L1 _ (((Below.refl _ _).alloc (Nat.le_refl _) _).alloc (by simp) _)) ?_)
    | (at_lookup; refine wpList_lookup_is _ rfl _ _ _ _ rfl _ _ _ rfl rfl (L2 _ ((((Below.refl _ _).alloc (Nat.le_refl _) _).alloc (by simp) _).alloc (by simp; omega) _)) ?_))
  go_ret
  exact ⟨rfl, (((Below.refl _ _).alloc (Nat.le_refl _) _).alloc (by simp) _).alloc (by simp; omega) _⟩

/-- a length of a map, known -/
theorem wpList_len_is {P : Program} (w : World) {ops : Array Oper} {rest : List Oper} {o : Oper} {a : Act} {Q : Exit → Act → World → Prop}
    (hg : o.guard = none) (m : Operand) (t : TypeId) (hop : o.op = Op.call { callee := Callee.builtin Builtin.len, args := #[m], argTypes := #[t] }) (mv u : Value) (hm : a.eval m = mv)
    (hrun : (Builtin.len_ #[t] o.type #[mv]).run P w = .ok u w) (hK : wpList P ops Q rest (a.put o.dst u) w) : wpList P ops Q (o :: rest) a w := by
  refine wpList_plain hg fun K' hK' => ?_
  unfold Oper.wp
  simp [execOp, hop, resolve, invoke, builtin, hm, hrun, Result.andThen]
  exact hK' _ _ hK

set_option maxRecDepth 8000 in
set_option maxHeartbeats 4000000 in
theorem next_any (W : World) (bt bb : Nat) (es : List (Int × Int)) (h : Two W bt bb es) (hl : es.length ≤ 8) :
    Calls Tryz.prog 126 #[prtV bt bb] W fun r W' => r = .returned (.int .i64 (10 + (es.length : Int))) ∧ Below W.heap.size W W' := by
  go_enter Tryz.func126, Tryz.ntmps126
  go_wp2_with (at_len; refine wpList_len_is _ rfl _ _ rfl _ _ rfl (len_th _ bt bb es (h.below ((Below.refl _ _).alloc (Nat.le_refl _) _)) _) ?_)
  go_ret
  exact ⟨rfl, (Below.refl _ _).alloc (Nat.le_refl _) _⟩
end Go.Proofs.YtfmjhbdbgcgoiaaGreatDoor.Mk

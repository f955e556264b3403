/- The program's two maps: what they hold, and what a look-up and a store do. -/
import Derived.Test.YtlejldaennlfaadMp
import Derived.Maps.Keyed
import Derived.Maps.Own
import Derived.DeepKeys4
import Derived.MapViews
namespace Go.Proofs.Ytlejldaennlfaad.Mj
open Go.RowKit Go.Proofs.Ytlejldaennlfaad.Kit Go.Proofs.Ytlejldaennlfaad.Mp
open Go.Proofs.Ytlejldaennlfaad.EndW (endV sideZ)
open Go.ChangeMaps (setBlock)
set_option linter.unusedSimpArgs false

theorem laidOut : laidOutB Try.prog = true := by kernel_rfl
theorem rowE : (25 : TypeId) < Try.prog.types.size := of_decide_eq_true (by kernel_rfl)
theorem wideE : (match Try.prog.underlying 25 with | some (.array _ _) | some (.struct _) => true | _ => false) = true := by kernel_rfl
theorem typeE : Try.prog.keyType 25 = true := by kernel_rfl
theorem cellsEnd : Try.prog.cellsOf 25 = 2 := by kernel_rfl
theorem cellsInt : Try.prog.cellsOf 3 = 1 := by kernel_rfl
set_option maxRecDepth 100000 in
theorem lawE : Maps.Keyed Try.prog 25 := Maps.Keyed.of_law (deep_law_laid laidOut (m := 2) (by omega) rowE (by kernel_rfl) wideE)
theorem lawI : Maps.Keyed Try.prog 3 := Maps.int_keyed Try.underlying3
theorem zeroE (w : World) : (zeroValue 25).run Try.prog w = .ok (endV 0 0) w := by kernel_rfl
theorem zeroI (w : World) : (zeroValue 3).run Try.prog w = .ok (.int .i64 0) w := by kernel_rfl
theorem sizeT : ∃ m, Try.prog.types.size = m + 1 := ⟨Try.prog.types.size - 1, by
  have : (1 : Nat) ≤ Try.prog.types.size := of_decide_eq_true (by kernel_rfl)
  omega⟩
theorem keyE (a p : Int) (ha : (Lit.int .i64 a).wf = true) (hp : (Lit.int .i64 p).wf = true) : ∃ l, keyOf Try.prog 25 (endV a p) = some l := by
  obtain ⟨m, hm⟩ := sizeT
  unfold keyOf
  rw [Try.underlying25]
  simp only [typeE, Bool.true_and]
  rw [if_pos (by simp [Value.formed, Try.underlying25, cellsEnd])]
  rw [hm]
  simp [Program.keyLits, Try.underlying25, Try.underlying3, cellsEnd, cellsInt, Value.cells, ha, hp]
theorem wf_small (n : Int) (h0 : -1000000000000 ≤ n) (h1 : n ≤ 1000000000000) : (Lit.int .i64 n).wf = true := by
  simp [Lit.wf, IntKind.min, IntKind.max, IntKind.bits, IntKind.signed]; omega
theorem wf_in (e : Int × Int) (h : inB e = true) : (Lit.int .i64 e.1).wf = true ∧ (Lit.int .i64 e.2).wf = true := by
  have := inB_bd e h
  exact ⟨wf_small _ (by omega) (by omega), wf_small _ (by omega) (by omega)⟩
theorem keyIn (e : Int × Int) (h : inB e = true) : ∃ l, keyOf Try.prog 25 (endV e.1 e.2) = some l := keyE _ _ (wf_in e h).1 (wf_in e h).2
theorem keyI (n : Int) (h : (Lit.int .i64 n).wf = true) : ∃ l, keyOf Try.prog 3 (.int .i64 n) = some l := ⟨_, Maps.keyOf_int_mk Try.underlying3 h⟩

/-- the entries by the port, and by the end -/
def thL (es : List (Int × Int)) : List MapEntry := es.mapIdx fun i e => { key := .int .i64 (10 + (i : Int)), val := endV e.1 e.2, born := i }
def bkL (es : List (Int × Int)) : List MapEntry := es.mapIdx fun i e => { key := endV e.1 e.2, val := .int .i64 (10 + (i : Int)), born := i }
theorem thL_at (es : List (Int × Int)) (i : Nat) : (thL es)[i]? = es[i]?.map fun e => { key := .int .i64 (10 + (i : Int)), val := endV e.1 e.2, born := i } := by simp [thL]
theorem bkL_at (es : List (Int × Int)) (i : Nat) : (bkL es)[i]? = es[i]?.map fun e => { key := endV e.1 e.2, val := .int .i64 (10 + (i : Int)), born := i } := by simp [bkL]
theorem thL_snoc (es : List (Int × Int)) (e : Int × Int) : thL (es ++ [e]) = thL es ++ [{ key := .int .i64 (10 + (es.length : Int)), val := endV e.1 e.2, born := es.length }] := by simp [thL, List.mapIdx_append]
theorem bkL_snoc (es : List (Int × Int)) (e : Int × Int) : bkL (es ++ [e]) = bkL es ++ [{ key := endV e.1 e.2, val := .int .i64 (10 + (es.length : Int)), born := es.length }] := by simp [bkL, List.mapIdx_append]
theorem thL_mem (es : List (Int × Int)) (x : MapEntry) (h : x ∈ thL es) : ∃ (i : Nat) (e : Int × Int), es[i]? = some e ∧ x = { key := .int .i64 (10 + (i : Int)), val := endV e.1 e.2, born := i } := by
  obtain ⟨i, hi⟩ := List.mem_iff_getElem?.1 h
  rw [thL_at] at hi
  cases q : es[i]? with
  | none => rw [q] at hi; cases hi
  | some e => rw [q] at hi; simp at hi; exact ⟨i, e, q, hi.symm⟩
theorem bkL_mem (es : List (Int × Int)) (x : MapEntry) (h : x ∈ bkL es) : ∃ (i : Nat) (e : Int × Int), es[i]? = some e ∧ x = { key := endV e.1 e.2, val := .int .i64 (10 + (i : Int)), born := i } := by
  obtain ⟨i, hi⟩ := List.mem_iff_getElem?.1 h
  rw [bkL_at] at hi
  cases q : es[i]? with
  | none => rw [q] at hi; cases hi
  | some e => rw [q] at hi; simp at hi; exact ⟨i, e, q, hi.symm⟩
theorem thKeys (es : List (Int × Int)) (hl : es.length ≤ 8) : ∀ x ∈ thL es, ∃ l, keyOf Try.prog 3 x.key = some l := by
  intro x hx
  obtain ⟨i, e, hi, rfl⟩ := thL_mem es x hx
  have := (List.getElem?_eq_some_iff.1 hi).1
  exact keyI _ (wf_small _ (by omega) (by omega))
theorem bkKeys (es : List (Int × Int)) (hg : GoodE es) : ∀ x ∈ bkL es, ∃ l, keyOf Try.prog 25 x.key = some l := by
  intro x hx
  obtain ⟨i, e, hi, rfl⟩ := bkL_mem es x hx
  exact keyIn e (hg.ins e (List.mem_of_getElem? hi))

/-- the two maps of a call -/
structure Two (W : World) (bt bb : Nat) (es : List (Int × Int)) : Prop where
  th : W.heap[bt]? = some (.map (thL es).toArray es.length)
  bk : W.heap[bb]? = some (.map (bkL es).toArray es.length)
  ne : bt ≠ bb
theorem Two.lt {W : World} {bt bb : Nat} {es : List (Int × Int)} (h : Two W bt bb es) : bt < W.heap.size ∧ bb < W.heap.size :=
  ⟨(Array.getElem?_eq_some_iff.1 h.th).1, (Array.getElem?_eq_some_iff.1 h.bk).1⟩
theorem Two.below {W W' : World} {bt bb : Nat} {es : List (Int × Int)} (h : Two W bt bb es) (k : Below W.heap.size W W') : Two W' bt bb es :=
  ⟨(k.block bt h.lt.1).trans h.th, (k.block bb h.lt.2).trans h.bk, h.ne⟩

theorem find_bk (W : World) (es : List (Int × Int)) (hg : GoodE es) (e : Int × Int) (hi : inB e = true) :
    (e ∉ es ∧ (Instr.findKey 25 (endV e.1 e.2) (bkL es)).run Try.prog W = .ok none W) ∨
    (e ∈ es ∧ (Instr.findKey 25 (endV e.1 e.2) (bkL es)).run Try.prog W = .ok (some (es.idxOf e, .int .i64 (10 + (es.idxOf e : Int)))) W) := by
  obtain ⟨l, hl⟩ := keyIn e hi
  rcases lawE.find W hl (bkL es) (bkKeys es hg) with ⟨h1, h2⟩ | ⟨j, x, h1, h2, h3⟩
  · refine .inl ⟨fun hm => ?_, h1⟩
    obtain ⟨i, hi⟩ := List.mem_iff_getElem?.1 hm
    have := List.mem_of_getElem? (l := bkL es) (i := i) (by rw [bkL_at, hi]; rfl)
    exact h2 _ this rfl
  · rw [bkL_at] at h2
    cases q : es[j]? with
    | none => rw [q] at h2; cases h2
    | some f =>
      rw [q] at h2; simp at h2; subst h2
      simp only [endV] at h3
      have e1 : f = e := by
        simp at h3; exact Prod.ext h3.1 h3.2
      subst e1
      refine .inr ⟨List.mem_of_getElem? q, ?_⟩
      rw [idx_uniq es hg.nd f j q]; exact h1
theorem find_th (W : World) (es : List (Int × Int)) (hl : es.length ≤ 8) (port : Int) (hw : (Lit.int .i64 port).wf = true) :
    (inE es port = ((0, 0), false) ∧ (Instr.findKey 3 (.int .i64 port) (thL es)).run Try.prog W = .ok none W) ∨
    (∃ j e, inE es port = (e, true) ∧ (Instr.findKey 3 (.int .i64 port) (thL es)).run Try.prog W = .ok (some (j, endV e.1 e.2)) W) := by
  obtain ⟨l, hk⟩ := keyI port hw
  rcases lawI.find W hk (thL es) (thKeys es hl) with ⟨h1, h2⟩ | ⟨j, x, h1, h2, h3⟩
  · refine .inl ⟨?_, h1⟩
    rcases inE_cases es port with ⟨i, e, rfl, he, _⟩ | ⟨_, h⟩
    · exfalso
      have := List.mem_of_getElem? (l := thL es) (i := i) (by rw [thL_at, he]; rfl)
      exact h2 _ this rfl
    · exact h
  · rw [thL_at] at h2
    cases q : es[j]? with
    | none => rw [q] at h2; cases h2
    | some f =>
      rw [q] at h2; simp at h2; subst h2
      simp at h3
      refine .inr ⟨j, f, ?_, h1⟩
      rw [← h3]; exact inE_at es j f q

theorem look_bk_no (W : World) (bt bb : Nat) (es : List (Int × Int)) (h : Two W bt bb es) (hg : GoodE es) (e : Int × Int) (hi : inB e = true) (hn : e ∉ es) :
    (Instr.lookup 48 (.map (some bb)) (endV e.1 e.2) true).run Try.prog W = .ok (.tuple #[.int .i64 0, .bool false]) W := by
  obtain ⟨l, hk⟩ := keyIn e hi
  rcases find_bk W es hg e hi with ⟨_, h1⟩ | ⟨h1, _⟩
  · simp [Instr.lookup, run_underlying Try.underlying48, MapKept.run_getObj_map h.bk, lawE.check W _ hk, h1, zeroI, Result.andThen]
  · exact absurd h1 hn
theorem look_bk_yes (W : World) (bt bb : Nat) (es : List (Int × Int)) (h : Two W bt bb es) (hg : GoodE es) (e : Int × Int) (hi : inB e = true) (hn : e ∈ es) :
    (Instr.lookup 48 (.map (some bb)) (endV e.1 e.2) true).run Try.prog W = .ok (.tuple #[.int .i64 (10 + (es.idxOf e : Int)), .bool true]) W := by
  obtain ⟨l, hk⟩ := keyIn e hi
  rcases find_bk W es hg e hi with ⟨h1, _⟩ | ⟨_, h1⟩
  · exact absurd hn h1
  · simp [Instr.lookup, run_underlying Try.underlying48, MapKept.run_getObj_map h.bk, lawE.check W _ hk, h1, Result.andThen]
theorem look_th (W : World) (bt bb : Nat) (es : List (Int × Int)) (h : Two W bt bb es) (hl : es.length ≤ 8) (port : Int) (hw : (Lit.int .i64 port).wf = true) (c : Bool) :
    (Instr.lookup 47 (.map (some bt)) (.int .i64 port) c).run Try.prog W = .ok (if c then .tuple #[endV (inE es port).1.1 (inE es port).1.2, .bool (inE es port).2] else endV (inE es port).1.1 (inE es port).1.2) W := by
  obtain ⟨l, hk⟩ := keyI port hw
  rcases find_th W es hl port hw with ⟨e1, h1⟩ | ⟨j, e, e1, h1⟩
  · rw [e1]
    simp [Instr.lookup, run_underlying Try.underlying47, MapKept.run_getObj_map h.th, lawI.check W _ hk, h1, zeroE, Result.andThen]
  · rw [e1]
    simp [Instr.lookup, run_underlying Try.underlying47, MapKept.run_getObj_map h.th, lawI.check W _ hk, h1, Result.andThen]

/-- a store of a new pair: by the port, then by the end -/
theorem up_th (W : World) (bt : Nat) (es : List (Int × Int)) (h : W.heap[bt]? = some (.map (thL es).toArray es.length)) (hl : es.length < 8) (e : Int × Int) :
    (Instr.mapUpdate 47 (.map (some bt)) (.int .i64 (10 + (es.length : Int))) (endV e.1 e.2)).run Try.prog W = .ok () (setBlock W bt (.map (thL (es ++ [e])).toArray (es ++ [e]).length)) := by
  have hw := wf_small (10 + (es.length : Int)) (by omega) (by omega)
  obtain ⟨l, hk⟩ := keyI _ hw
  rcases find_th W es (by omega) _ hw with ⟨_, h1⟩ | ⟨j, f, e1, h1⟩
  · simp [Instr.mapUpdate, run_underlying Try.underlying47, MapKept.run_getObj_map h, lawI.check W _ hk, h1, MapKept.run_setObj_map _ h, Result.andThen, setBlock, thL_snoc]
  · rw [inE_high es _ (by omega)] at e1; cases e1
theorem up_bk (W : World) (bb : Nat) (es : List (Int × Int)) (h : W.heap[bb]? = some (.map (bkL es).toArray es.length)) (hg : GoodE es) (e : Int × Int) (hi : inB e = true) (hn : e ∉ es) :
    (Instr.mapUpdate 48 (.map (some bb)) (endV e.1 e.2) (.int .i64 (10 + (es.length : Int)))).run Try.prog W = .ok () (setBlock W bb (.map (bkL (es ++ [e])).toArray (es ++ [e]).length)) := by
  obtain ⟨l, hk⟩ := keyIn e hi
  rcases find_bk W es hg e hi with ⟨_, h1⟩ | ⟨h1, _⟩
  · simp [Instr.mapUpdate, run_underlying Try.underlying48, MapKept.run_getObj_map h, lawE.check W _ hk, h1, MapKept.run_setObj_map _ h, Result.andThen, setBlock, bkL_snoc]
  · exact absurd h1 hn
theorem len_th (W : World) (bt bb : Nat) (es : List (Int × Int)) (h : Two W bt bb es) (ty : TypeId) : (Builtin.len_ #[47] ty #[.map (some bt)]).run Try.prog W = .ok (.int .i64 (es.length : Nat)) W := by
  have e1 : (thL es).length = es.length := by simp [thL]
  simp [Builtin.len_, run_underlying Try.underlying47, MapKept.run_getObj_map h.th, goInt, Result.andThen, e1]
end Go.Proofs.Ytlejldaennlfaad.Mj

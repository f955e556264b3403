/- Walks: the chain of a stream. -/
import Derived.Test.YtfmjhbdbgcgoiaaGreatDoorPt
import Derived.Test.YtfmjhbdbgcgoiaaGreatDoorTxPr
import Derived.Test.YtfmjhbdbgcgoiaaGreatDoorSqRg
import Derived.ControlIn
import Derived.Deep.RegionWith
import Derived.BigQuiet
import Derived.Test.YtfmjhbdbgcgoiaaGreatDoorPcs
import Derived.RangeFuncBox
namespace Go.Proofs.YtfmjhbdbgcgoiaaGreatDoor.St
open Go.RowKit Go.Shelf Go.Proofs.YtfmjhbdbgcgoiaaGreatDoor.Kit Go.Proofs.YtfmjhbdbgcgoiaaGreatDoor.Tx Go.Proofs.YtfmjhbdbgcgoiaaGreatDoor.Nm Go.Proofs.YtfmjhbdbgcgoiaaGreatDoor.App Go.Proofs.YtfmjhbdbgcgoiaaGreatDoor.It Go.Proofs.YtfmjhbdbgcgoiaaGreatDoor.It4 Go.Proofs.YtfmjhbdbgcgoiaaGreatDoor.It5 Go.Proofs.YtfmjhbdbgcgoiaaGreatDoor.Sq
open Go.Proofs.YtfmjhbdbgcgoiaaGreatDoor.TxW (ok_any)
open Go.Proofs.YtfmjhbdbgcgoiaaGreatDoor.Read (Errs ErrCell)
attribute [local go_sem] Oper.semAt_some
set_option linter.unusedSimpArgs false
set_option linter.unusedVariables false

/-- a chain, as a value -/
def chV (first last : Option Addr) (many size : Int) (text : ByteArray) : Value := .agg #[.pointer first, .pointer last, .int .i64 many, .int .i64 size, .string text]

set_option maxHeartbeats 4000000 in
theorem chain_no (n : Nat) (s : ByteArray) (v : Value) (w : World) (hok : okB s.data.toList = false) :
    CallsIn Fence.wide n Tryz.prog 121 #[.agg #[.string s, v]] w fun e W' => e = .returned (.tuple #[chV none none 0 0 ByteArray.empty, .bool false]) ∧ Below w.heap.size w W' := by
  refine callsIn_of_wp Tryz.func121 rfl trivial ?_ rfl
  simp only [Tryz.ntmps121, List.size_toArray, List.length_cons, List.length_nil, Nat.reduceAdd, Nat.reduceSub, Array.replicate_succ, Array.replicate_zero, List.push_toArray, List.append_toArray, List.nil_append, List.cons_append]
  gi_wp2_with fail
  refine ⟨trivial, (fun h => by cases h), ?_⟩
  refine (callsIn_wide.2 (ok_any s _)).mono ?_
  rintro e w1 ⟨rfl, rfl⟩
  rw [hok]
  gi_wp2
  refine bodyPost_ret (v := .tuple #[chV none none 0 0 ByteArray.empty, .bool false]) ?_ rfl ?_
  · simp [results, Tryz.results121, go_sem, chV]; try rfl
  · exact ⟨rfl, ((((Below.refl _ _).alloc (Nat.le_refl _) _).alloc (by simp) _).alloc (by simp; omega) _).alloc (by simp; omega) _⟩

/-- what a block of cells is, it stays, where new memory comes or other things turn -/
theorem grown_cells {B : Nat} {W W' : World} {row : Option Nat} (hg : W.grownBy W' row) (hr : ∀ r, row = some r → B ≤ r ∧ ∃ o : Obj, W.heap[r]? = some o ∧ o.isCells = false) {b : Nat} {cs : Array Value} {t : TypeId} {f : Nat × Nat} (h : W.heap[b]? = some (.cells cs t f)) : W'.heap[b]? = some (.cells cs t f) := by
  refine (hg.block b (Array.getElem?_eq_some_iff.1 h).1 fun e => ?_).trans h
  obtain ⟨_, o, ho, hc⟩ := hr b e.symm
  rw [h] at ho; cases ho; cases hc
theorem row_one {B D : Nat} {W : World} {o0 : Obj} (hD : B ≤ D) (h : W.heap[D]? = some o0) (hc : o0.isCells = false) : ∀ r, some D = some r → B ≤ r ∧ ∃ o : Obj, W.heap[r]? = some o ∧ o.isCells = false := fun r e => by cases e; exact ⟨hD, o0, h, hc⟩
theorem grown_chain {B : Nat} {W W' : World} {row : Option Nat} {C : Nat} {bs : List Nat} {ps : List (Int × ByteArray)} (hg : W.grownBy W' row) (hr : ∀ r, row = some r → B ≤ r ∧ ∃ o : Obj, W.heap[r]? = some o ∧ o.isCells = false) (h : ChainAt W C bs ps) : ChainAt W' C bs ps :=
  h.same fun b hb => by
    obtain ⟨cs, t, e, _⟩ := h.lt b hb
    rw [e]; exact grown_cells hg hr e
/-- what readChain has laid, while it goes through the pieces -/
structure Lay (w : World) (s : ByteArray) (v : Value) (W : World) : Prop where
  st : W.heap[w.heap.size]? = some (.cells #[.string s, v] 54 (0, 0))
  rc : W.heap[w.heap.size + 1]? = some (chO none none 0 0 ⟨#[]⟩)
  ro : W.heap[w.heap.size + 1 + 1]? = some (.cells #[.bool false] 4 (0, 0))
  bel : Below w.heap.size w W
theorem Lay.grown {w : World} {s : ByteArray} {v : Value} {W W' : World} {row : Option Nat} {B : Nat} (h : Lay w s v W) (hB : w.heap.size ≤ B) (hg : W.grownBy W' row) (hr : ∀ r, row = some r → B ≤ r ∧ ∃ o : Obj, W.heap[r]? = some o ∧ o.isCells = false) : Lay w s v W' :=
  ⟨grown_cells hg hr h.st, grown_cells hg hr h.rc, grown_cells hg hr h.ro, h.bel.grown hg h.bel.size (fun k e => Nat.le_trans hB (hr k e).1)⟩
theorem Lay.below {w : World} {s : ByteArray} {v : Value} {W W' : World} (h : Lay w s v W) (k : Below W.heap.size W W') : Lay w s v W' :=
  ⟨(k.block _ (Array.getElem?_eq_some_iff.1 h.st).1).trans h.st, (k.block _ (Array.getElem?_eq_some_iff.1 h.rc).1).trans h.rc, (k.block _ (Array.getElem?_eq_some_iff.1 h.ro).1).trans h.ro, h.bel.trans (k.mono h.bel.size)⟩
theorem Lay.added {w : World} {s : ByteArray} {v : Value} {W W' : World} {base : Nat} {bs : List Nat} {ps : List (Int × ByteArray)} {p : Int × ByteArray} (h : Lay w s v W) (a : Added base W W' (w.heap.size + 1 + 1 + 1) bs ps p) (hb : ∀ b ∈ bs, w.heap.size + 5 ≤ b) : Lay w s v W' := by
  have q : ∀ k, k < w.heap.size + 3 → k < W.heap.size → W'.heap[k]? = W.heap[k]? := fun k hk hl => a.same k hl (by omega) (fun e => by have := hb k e; omega)
  have hs := h.bel.size
  exact ⟨(q _ (by omega) (Array.getElem?_eq_some_iff.1 h.st).1).trans h.st, (q _ (by omega) (Array.getElem?_eq_some_iff.1 h.rc).1).trans h.rc, (q _ (by omega) (Array.getElem?_eq_some_iff.1 h.ro).1).trans h.ro,
    h.bel.trans ⟨a.os, a.tape, a.output, by have := a.size; omega, fun k hk => q k (by omega) (by omega)⟩⟩
/-- the parts so far are those of the pieces so far -/
def Fits (pre : List Pc) (ps : List (Int × ByteArray)) : Prop := pre.length ≤ ps.length ∧ ∀ (i : Nat) (x : Pc) (p : Int × ByteArray), pre[i]? = some x → ps[i]? = some p → partB x p = true
/-- a piece that has no part, or not its own -/
def Misfit (pre : List Pc) (ps : List (Int × ByteArray)) : Prop := ∃ pre' x, pre = pre' ++ [x] ∧ (pre'.length = ps.length ∨ ∃ p, ps[pre'.length]? = some p ∧ partB x p = false)
theorem fits_zip {xs : List Pc} {ps : List (Int × ByteArray)} : Fits xs ps → (xs.zip ps).all (fun y => partB y.1 y.2) = true := by
  rintro ⟨_, h⟩
  rw [List.all_eq_true]
  rintro ⟨x, p⟩ hm
  obtain ⟨i, hi, e⟩ := List.getElem_of_mem hm
  have e' : (xs.zip ps)[i]? = some (x, p) := by rw [List.getElem?_eq_getElem hi, e]
  obtain ⟨h1, h2⟩ := List.getElem?_zip_eq_some.1 e'
  exact h i x p h1 h2
theorem stB_fit {s : ByteArray} {ps : List (Int × ByteArray)} (hok : okB s.data.toList = true) (h : Fits (pieL s.data.toList) ps) : stB s ps = decide ((pieL s.data.toList).length = ps.length) := by
  unfold stB
  rw [hok, fits_zip h]; simp
theorem stB_not {s : ByteArray} {ps : List (Int × ByteArray)} {pre : List Pc} (hp : pre <+: pieL s.data.toList) (h : Misfit pre ps) : stB s ps = false := by
  obtain ⟨pre', x, rfl, h⟩ := h
  obtain ⟨t, ht⟩ := hp
  have hx : (pieL s.data.toList)[pre'.length]? = some x := by rw [← ht]; simp
  rcases h with h | ⟨p, hp, hf⟩
  · have hl : pre'.length < (pieL s.data.toList).length := (List.getElem?_eq_some_iff.1 hx).1
    have : decide ((pieL s.data.toList).length = ps.length) = false := by simp; omega
    unfold stB
    rw [this]; simp
  · have hz : ((pieL s.data.toList).zip ps)[pre'.length]? = some (x, p) := List.getElem?_zip_eq_some.2 ⟨hx, hp⟩
    have : ((pieL s.data.toList).zip ps).all (fun y => partB y.1 y.2) = false := by
      rw [List.all_eq_false]
      exact ⟨(x, p), List.mem_of_getElem? hz, by simp [hf]⟩
    unfold stB
    rw [this]; simp
theorem partB_small {x : Pc} {p : Int × ByteArray} (h : partB x p = true) : p.2.size ≤ 6 := by
  unfold partB at h
  simp at h
  exact h.1.2
theorem keeps_set {B : Nat} {W : World} {p : Addr} {cs : Array Value} {t : TypeId} {f : Nat × Nat} (h : W.heap[p.block]? = some (.cells cs t f)) (v : Value) : KeepsFrom B W (W.setCell p v) :=
  ⟨by rw [set_size]; exact Nat.le_refl _, fun k o _ ho hc => (Below.heap_setCell _ _ _ _ (by rintro rfl; rw [h] at ho; cases ho; cases hc)).trans ho⟩
/-- the results are made nothing anew -/
theorem Lay.reset {w : World} {s : ByteArray} {v : Value} {W : World} (h : Lay w s v W) (B : Nat) :
    Lay w s v ((((((W.setCell ⟨w.heap.size + 1, 0, none⟩ (.pointer none)).setCell ⟨w.heap.size + 1, 1, none⟩ (.pointer none)).setCell ⟨w.heap.size + 1, 2, none⟩ (.int .i64 0)).setCell ⟨w.heap.size + 1, 3, none⟩ (.int .i64 0)).setCell ⟨w.heap.size + 1, 4, none⟩ (.string ⟨#[]⟩)).setCell ⟨w.heap.size + 1 + 1, 0, none⟩ (.bool false)) ∧
    KeepsFrom B W ((((((W.setCell ⟨w.heap.size + 1, 0, none⟩ (.pointer none)).setCell ⟨w.heap.size + 1, 1, none⟩ (.pointer none)).setCell ⟨w.heap.size + 1, 2, none⟩ (.int .i64 0)).setCell ⟨w.heap.size + 1, 3, none⟩ (.int .i64 0)).setCell ⟨w.heap.size + 1, 4, none⟩ (.string ⟨#[]⟩)).setCell ⟨w.heap.size + 1 + 1, 0, none⟩ (.bool false)) := by
  have u1 : (W.setCell ⟨w.heap.size + 1, 0, none⟩ (.pointer none)).heap[w.heap.size + 1]? = some (.cells #[.pointer none, .pointer none, .int .i64 0, .int .i64 0, .string ⟨#[]⟩] 168 (0, 0)) := by rw [setCell_obj h.rc, arr0]
  obtain ⟨s1, s2, s3⟩ := four u1 (.pointer none) (.int .i64 0) (.int .i64 0) (.string ⟨#[]⟩)
  have hs := h.bel.size
  have lo := (Array.getElem?_eq_some_iff.1 h.ro).1
  have b5 := ((((((h.bel.setCell (p := ⟨w.heap.size + 1, 0, none⟩) (by simp) (.pointer none)).setCell (p := ⟨w.heap.size + 1, 1, none⟩) (by simp) (.pointer none)).setCell (p := ⟨w.heap.size + 1, 2, none⟩) (by simp) (.int .i64 0)).setCell (p := ⟨w.heap.size + 1, 3, none⟩) (by simp) (.int .i64 0)).setCell (p := ⟨w.heap.size + 1, 4, none⟩) (by simp) (.string ⟨#[]⟩)).setCell (p := ⟨w.heap.size + 1 + 1, 0, none⟩) (by simp; omega) (.bool false))
  have ro5 : (((((W.setCell ⟨w.heap.size + 1, 0, none⟩ (.pointer none)).setCell ⟨w.heap.size + 1, 1, none⟩ (.pointer none)).setCell ⟨w.heap.size + 1, 2, none⟩ (.int .i64 0)).setCell ⟨w.heap.size + 1, 3, none⟩ (.int .i64 0)).setCell ⟨w.heap.size + 1, 4, none⟩ (.string ⟨#[]⟩)).heap[w.heap.size + 1 + 1]? = some (.cells #[.bool false] 4 (0, 0)) := (s3 _ (by omega)).trans ((Below.heap_setCell _ _ _ _ (by simp)).trans h.ro)
  refine ⟨⟨?_, ?_, ?_, b5⟩, ?_⟩
  · exact (Below.heap_setCell _ _ _ _ (by simp; omega)).trans ((s3 _ (by omega)).trans ((Below.heap_setCell _ _ _ _ (by simp)).trans h.st))
  · exact (Below.heap_setCell _ _ _ _ (by simp)).trans s1
  · rw [setCell_obj ro5]; simp
  · have k0 := keeps_set (B := B) (W := W) (p := ⟨w.heap.size + 1, 0, none⟩) h.rc (.pointer none)
    have k1 := keeps_set (B := B) (p := ⟨w.heap.size + 1, 1, none⟩) u1 (.pointer none)
    have v1 := setCell_obj (off := 1) u1 (.pointer none)
    have k2 := keeps_set (B := B) (p := ⟨w.heap.size + 1, 2, none⟩) v1 (.int .i64 0)
    have v2 := setCell_obj (off := 2) v1 (.int .i64 0)
    have k3 := keeps_set (B := B) (p := ⟨w.heap.size + 1, 3, none⟩) v2 (.int .i64 0)
    have v3 := setCell_obj (off := 3) v2 (.int .i64 0)
    have k4 := keeps_set (B := B) (p := ⟨w.heap.size + 1, 4, none⟩) v3 (.string ⟨#[]⟩)
    have k5 := keeps_set (B := B) (p := ⟨w.heap.size + 1 + 1, 0, none⟩) ro5 (.bool false)
    exact ((((k0.trans k1).trans k2).trans k3).trans k4).trans k5
/-- the results are laid -/
theorem Lay.give {w : World} {s : ByteArray} {v : Value} {W : World} (h : Lay w s v W) (B : Nat) (v0 v1 v2 v3 v4 vb : Value) :
    ((((((W.setCell ⟨w.heap.size + 1, 0, none⟩ v0).setCell ⟨w.heap.size + 1, 1, none⟩ v1).setCell ⟨w.heap.size + 1, 2, none⟩ v2).setCell ⟨w.heap.size + 1, 3, none⟩ v3).setCell ⟨w.heap.size + 1, 4, none⟩ v4).setCell ⟨w.heap.size + 1 + 1, 0, none⟩ vb).heap[w.heap.size + 1]? = some (.cells #[v0, v1, v2, v3, v4] 168 (0, 0)) ∧
    ((((((W.setCell ⟨w.heap.size + 1, 0, none⟩ v0).setCell ⟨w.heap.size + 1, 1, none⟩ v1).setCell ⟨w.heap.size + 1, 2, none⟩ v2).setCell ⟨w.heap.size + 1, 3, none⟩ v3).setCell ⟨w.heap.size + 1, 4, none⟩ v4).setCell ⟨w.heap.size + 1 + 1, 0, none⟩ vb).heap[w.heap.size + 1 + 1]? = some (.cells #[vb] 4 (0, 0)) ∧
    (∀ k, k ≠ w.heap.size + 1 → k ≠ w.heap.size + 1 + 1 → ((((((W.setCell ⟨w.heap.size + 1, 0, none⟩ v0).setCell ⟨w.heap.size + 1, 1, none⟩ v1).setCell ⟨w.heap.size + 1, 2, none⟩ v2).setCell ⟨w.heap.size + 1, 3, none⟩ v3).setCell ⟨w.heap.size + 1, 4, none⟩ v4).setCell ⟨w.heap.size + 1 + 1, 0, none⟩ vb).heap[k]? = W.heap[k]?) ∧
    KeepsFrom B W ((((((W.setCell ⟨w.heap.size + 1, 0, none⟩ v0).setCell ⟨w.heap.size + 1, 1, none⟩ v1).setCell ⟨w.heap.size + 1, 2, none⟩ v2).setCell ⟨w.heap.size + 1, 3, none⟩ v3).setCell ⟨w.heap.size + 1, 4, none⟩ v4).setCell ⟨w.heap.size + 1 + 1, 0, none⟩ vb) ∧
    Below w.heap.size w ((((((W.setCell ⟨w.heap.size + 1, 0, none⟩ v0).setCell ⟨w.heap.size + 1, 1, none⟩ v1).setCell ⟨w.heap.size + 1, 2, none⟩ v2).setCell ⟨w.heap.size + 1, 3, none⟩ v3).setCell ⟨w.heap.size + 1, 4, none⟩ v4).setCell ⟨w.heap.size + 1 + 1, 0, none⟩ vb) := by
  have u1 : (W.setCell ⟨w.heap.size + 1, 0, none⟩ v0).heap[w.heap.size + 1]? = some (.cells #[v0, .pointer none, .int .i64 0, .int .i64 0, .string ⟨#[]⟩] 168 (0, 0)) := by rw [setCell_obj h.rc, arr0]
  obtain ⟨s1, s2, s3⟩ := four u1 v1 v2 v3 v4
  have b5 := ((((((h.bel.setCell (p := ⟨w.heap.size + 1, 0, none⟩) (by simp) v0).setCell (p := ⟨w.heap.size + 1, 1, none⟩) (by simp) v1).setCell (p := ⟨w.heap.size + 1, 2, none⟩) (by simp) v2).setCell (p := ⟨w.heap.size + 1, 3, none⟩) (by simp) v3).setCell (p := ⟨w.heap.size + 1, 4, none⟩) (by simp) v4).setCell (p := ⟨w.heap.size + 1 + 1, 0, none⟩) (by simp; omega) vb)
  have ro5 : (((((W.setCell ⟨w.heap.size + 1, 0, none⟩ v0).setCell ⟨w.heap.size + 1, 1, none⟩ v1).setCell ⟨w.heap.size + 1, 2, none⟩ v2).setCell ⟨w.heap.size + 1, 3, none⟩ v3).setCell ⟨w.heap.size + 1, 4, none⟩ v4).heap[w.heap.size + 1 + 1]? = some (.cells #[.bool false] 4 (0, 0)) := (s3 _ (by omega)).trans ((Below.heap_setCell _ _ _ _ (by simp)).trans h.ro)
  refine ⟨?_, ?_, ?_, ?_, b5⟩
  · exact (Below.heap_setCell _ _ _ _ (by simp)).trans s1
  · rw [setCell_obj ro5]; simp
  · exact fun k h1 h2 => (Below.heap_setCell _ _ _ _ h2).trans ((s3 _ h1).trans (Below.heap_setCell _ _ _ _ h1))
  · have k0 := keeps_set (B := B) (W := W) (p := ⟨w.heap.size + 1, 0, none⟩) h.rc v0
    have k1 := keeps_set (B := B) (p := ⟨w.heap.size + 1, 1, none⟩) u1 v1
    have v1' := setCell_obj (off := 1) u1 v1
    have k2 := keeps_set (B := B) (p := ⟨w.heap.size + 1, 2, none⟩) v1' v2
    have v2' := setCell_obj (off := 2) v1' v2
    have k3 := keeps_set (B := B) (p := ⟨w.heap.size + 1, 3, none⟩) v2' v3
    have v3' := setCell_obj (off := 3) v2' v3
    have k4 := keeps_set (B := B) (p := ⟨w.heap.size + 1, 4, none⟩) v3' v4
    have k5 := keeps_set (B := B) (p := ⟨w.heap.size + 1 + 1, 0, none⟩) ro5 vb
    exact ((((k0.trans k1).trans k2).trans k3).trans k4).trans k5
theorem keeps_below {B : Nat} {W W' : World} (k : Below W.heap.size W W') : KeepsFrom B W W' := ⟨k.size, fun i o _ ho _ => (k.block i (Array.getElem?_eq_some_iff.1 ho).1).trans ho⟩

theorem errs_lt0 {w : World} (h : Errs w) : 1 < w.heap.size ∧ 2 < w.heap.size := by
  obtain ⟨⟨_, c1, _⟩, ⟨_, c2, _⟩⟩ := h
  exact ⟨blk c1, blk c2⟩
set_option maxRecDepth 8000 in
set_option maxHeartbeats 16000000 in
theorem chain_in (n : Nat) (hn : 5 ≤ n) (s : ByteArray) (v : Value) (ps : List (Int × ByteArray)) (w : World) (hok : okB s.data.toList = true) (hT : IsT w v ps) (herr : Errs w) :
    CallsIn Fence.wide n Tryz.prog 121 #[.agg #[.string s, v]] w fun e W' => Below w.heap.size w W' ∧
      ((stB s ps = false ∧ e = .returned (.tuple #[chV none none 0 0 ByteArray.empty, .bool false])) ∨
       (stB s ps = true ∧ ∃ C bs, ChainAt W' C bs ps ∧ w.heap.size ≤ C ∧ (∀ b ∈ bs, w.heap.size ≤ b) ∧ e = .returned (.tuple #[chV (bs.head?.map ad) (bs.getLast?.map ad) (ps.length : Nat) (szW ps) (txW ps), .bool true]))) := by
  obtain ⟨sa, cap, rfl, hcap, hcm, hrow⟩ := hT
  have hmix : Tryz.prog.follows .mixedOrders = true := by kernel_rfl
  refine callsIn_of_wp_marks Tryz.func121 rfl trivial ?_ rfl
  simp only [Tryz.ntmps121, List.size_toArray, List.length_cons, List.length_nil, Nat.reduceAdd, Nat.reduceSub, Array.replicate_succ, Array.replicate_zero, List.push_toArray, List.append_toArray, List.nil_append, List.cons_append]
  gi_wp2_with fail
  first | refine ⟨trivial, (fun h => by cases h), ?_⟩ | refine ⟨trivial, ?_⟩
  refine (callsIn_wide.2 (ok_any s _)).mono ?_
  rintro e w1 ⟨rfl, rfl⟩
  rw [hok]
  gi_wp2_with fail
  first | refine ⟨trivial, (fun h => by cases h), ?_⟩ | refine ⟨trivial, ?_⟩
  refine (of_in _ s _).mono ?_
  rintro e w2 ⟨rfl, rfl⟩
  gi_wp2
  have h1 : 1 ≤ n := by omega
  obtain ⟨Wl, hWl⟩ : ∃ Wl, (((((w.alloc (Obj.cells #[Value.string s, .slice sa ps.length cap] 54)).alloc (Obj.cells #[Value.pointer none, Value.pointer none, Value.int IntKind.i64 0, Value.int IntKind.i64 0, Value.string { data := #[] }] 168)).alloc (Obj.cells #[Value.bool false] 4)).alloc (Obj.cells #[Value.pointer none, Value.pointer none, Value.int IntKind.i64 0, Value.int IntKind.i64 0, Value.string { data := #[] }] 168)).alloc (Obj.cells #[Value.string s] 9)) = Wl := ⟨_, rfl⟩
  have zl : Wl.heap.size = w.heap.size + 5 := by rw [← hWl]; simp
  have lay0 : Lay w s (.slice sa ps.length cap) Wl := by
    rw [← hWl]
    refine ⟨?_, ?_, ?_, ?_⟩
    · exact (Below.heap_alloc _ _ _ (by first | (simp; done) | (simp; omega))).trans ((Below.heap_alloc _ _ _ (by first | (simp; done) | (simp; omega))).trans ((Below.heap_alloc _ _ _ (by first | (simp; done) | (simp; omega))).trans ((Below.heap_alloc _ _ _ (by simp)).trans (World.alloc_heap_new _ _))))
    · refine (Below.heap_alloc _ _ _ (by first | (simp; done) | (simp; omega))).trans ((Below.heap_alloc _ _ _ (by first | (simp; done) | (simp; omega))).trans ((Below.heap_alloc _ _ _ (by simp)).trans ?_))
      have := World.alloc_heap_new (w.alloc (Obj.cells #[Value.string s, .slice sa ps.length cap] 54)) (Obj.cells #[Value.pointer none, Value.pointer none, Value.int IntKind.i64 0, Value.int IntKind.i64 0, Value.string { data := #[] }] 168)
      rwa [World.size_alloc] at this
    · refine (Below.heap_alloc _ _ _ (by first | (simp; done) | (simp; omega))).trans ((Below.heap_alloc _ _ _ (by simp)).trans ?_)
      have := World.alloc_heap_new ((w.alloc (Obj.cells #[Value.string s, .slice sa ps.length cap] 54)).alloc (Obj.cells #[Value.pointer none, Value.pointer none, Value.int IntKind.i64 0, Value.int IntKind.i64 0, Value.string { data := #[] }] 168)) (Obj.cells #[Value.bool false] 4)
      rwa [World.size_alloc, World.size_alloc] at this
    · exact (((((Below.refl _ _).alloc (Nat.le_refl _) _).alloc (by simp) _).alloc (by first | (simp; done) | (simp; omega)) _).alloc (by first | (simp; done) | (simp; omega)) _).alloc (by first | (simp; done) | (simp; omega)) _
  have hC0 : Wl.heap[w.heap.size + 1 + 1 + 1]? = some (chO none none 0 0 ⟨#[]⟩) := by
    rw [← hWl]
    refine (Below.heap_alloc _ _ _ (by simp)).trans ?_
    have := World.alloc_heap_new (((w.alloc (Obj.cells #[Value.string s, .slice sa ps.length cap] 54)).alloc (Obj.cells #[Value.pointer none, Value.pointer none, Value.int IntKind.i64 0, Value.int IntKind.i64 0, Value.string { data := #[] }] 168)).alloc (Obj.cells #[Value.bool false] 4)) (Obj.cells #[Value.pointer none, Value.pointer none, Value.int IntKind.i64 0, Value.int IntKind.i64 0, Value.string { data := #[] }] 168)
    rwa [World.size_alloc, World.size_alloc, World.size_alloc] at this
  have hBx0 : Boxed Wl (w.heap.size + 1 + 1 + 1 + 1) 9 (.string s) := by
    rw [← hWl]
    have := World.alloc_heap_new ((((w.alloc (Obj.cells #[Value.string s, .slice sa ps.length cap] 54)).alloc (Obj.cells #[Value.pointer none, Value.pointer none, Value.int IntKind.i64 0, Value.int IntKind.i64 0, Value.string { data := #[] }] 168)).alloc (Obj.cells #[Value.bool false] 4)).alloc (Obj.cells #[Value.pointer none, Value.pointer none, Value.int IntKind.i64 0, Value.int IntKind.i64 0, Value.string { data := #[] }] 168)) (Obj.cells #[Value.string s] 9)
    rw [World.size_alloc, World.size_alloc, World.size_alloc, World.size_alloc] at this
    exact this
  rw [hWl]
  clear hWl
  have hch0 : ChainAt Wl (w.heap.size + 1 + 1 + 1) [] [] := ⟨hC0, rfl, (fun i p b h => by simp at h), (fun b h => by cases h), List.nodup_nil⟩
  have g12 := errs_lt0 herr
  have heW := herr.below lay0.bel
  refine wpIn_rangeFunc_ownH rfl h1 (gf := 149) (lb := #[.pointer (some ⟨w.heap.size + 1 + 1 + 1 + 1, 0, none⟩)]) rfl trivial (enters_of Tryz.func149 (by kernel_rfl) rfl)
    (stopsX (n - 1) (w.heap.size + 1 + 1 + 1 + 1) (Xc (w.heap.size + 5) (w.heap.size + 1 + 1 + 1)) s Wl hBx0 heW (by rintro (h | ⟨h, _⟩) <;> omega) (by rintro b hb (h | ⟨_, h⟩) <;> first | omega | cases h) (fun t => ⟨by rintro (h | ⟨h, _⟩) <;> omega, by rintro (h | ⟨h, _⟩) <;> omega⟩))
    (fun h k => Kq.trans h k) (fun W l o o' hl ho hc _ => kq_putObj W l o o' ho hc) (Below.refl _ _) (fun _ => rfl)
    (fun pre W => Lay w s (.slice sa ps.length cap) W ∧ Fits pre ps ∧ ∃ bs, ChainAt W (w.heap.size + 1 + 1 + 1) bs (ps.take pre.length) ∧ (∀ b ∈ bs, w.heap.size + 5 ≤ b) ∧ (txW (ps.take pre.length)).size ≤ 6 * pre.length)
    (fun c pre W => c = .ret ∧ Lay w s (.slice sa ps.length cap) W ∧ Misfit pre ps)
    (by
      rintro pre W W' row ⟨i1, i2, bs, i3, i4, i5⟩ hg hr
      exact ⟨i1.grown (by omega) hg hr, i2, bs, grown_chain hg hr i3, i4, i5⟩)
    (by
      rintro c pre W W' row ⟨i1, i2, i3⟩ hg hr
      exact ⟨i1, i2.grown (by omega) hg hr, i3⟩)
    ⟨lay0, ⟨Nat.zero_le _, fun i x p h => by simp at h⟩, [], by simpa using hch0, (fun b h => by cases h), by simp [txW]⟩
    (fun x a' W => ∃ Bx, W.heap[Bx]? = some (.cells #[.int .i64 (x.sz : Nat), .bool x.nm, .int .i64 x.ad, .int .i64 x.po] 90 (0, 0)) ∧ a' = { tmps := #[(.agg #[.string s, .slice sa ps.length cap]), .pointer (some ⟨w.heap.size, 0, none⟩), .pointer (some ⟨w.heap.size + 1, 0, none⟩), .pointer (some ⟨w.heap.size + 1 + 1, 0, none⟩), .pointer (some ⟨w.heap.size + 1 + 1 + 1, 0, none⟩), .pointer (some ⟨Bx, 0, none⟩), .pointer (some ⟨w.heap.size, 0, none⟩), .string s, .bool true, .bool false, undef, .pointer (some ⟨w.heap.size, 0, none⟩), .string s, .func (.func 149) #[] #[.pointer (some ⟨w.heap.size + 1 + 1 + 1 + 1, 0, none⟩)], pcV x, undef, undef, undef, undef, undef, undef, undef, undef, undef, undef, undef, undef, undef, undef, undef, undef, undef, undef, undef, undef, undef, undef, undef, undef, undef, undef, undef, undef, undef, undef, undef, undef, undef], defers := [] })
    (fun x a' _ X Y row hs hg hr => by
      obtain ⟨Bx, h2, h3⟩ := hs
      exact ⟨Bx, grown_cells hg hr h2, h3⟩)
    ?assign ?body ?done ?stop
  case assign =>
    rintro l pre x W K ⟨i1, i2, bs, i3, i4, i5⟩ hK
    gi_wp2
    have kb : Below W.heap.size W (W.alloc (.cells #[.int .i64 (x.sz : Nat), .bool x.nm, .int .i64 x.ad, .int .i64 x.po] 90)) := (Below.refl _ W).alloc (Nat.le_refl _) _
    exact hK _ _ ((KeepsOthers.alloc _ _).from _) (Kq.below kb) ⟨i1.below kb, i2, bs, i3.below kb, i4, i5⟩ ⟨W.heap.size, World.alloc_heap_new W _, rfl⟩
  case body =>
    rintro l pre x a' W hl ⟨r, hr⟩ ⟨i1, i2, bs, i3, i4, i5⟩ ⟨Bx, hX, rfl⟩ hp
    have hlt : (ps.take pre.length).length = pre.length := by rw [List.length_take]; have := i2.1; omega
    have hCb := i3.blk
    rw [hlt] at hCb
    have cC : W.cell? ⟨w.heap.size + 1 + 1 + 1, 2, none⟩ = some (.int .i64 (pre.length : Nat)) := by simp [World.cell?, hCb, chO]
    have cS : W.cell? ⟨w.heap.size, 1, none⟩ = some (.slice sa ps.length cap) := by simp [World.cell?, i1.st]
    have lC : w.heap.size + 1 + 1 + 1 < W.heap.size := blk cC
    have lS : w.heap.size < W.heap.size := blk cS
    have x0 : W.cell? ⟨Bx, 0, none⟩ = some (.int .i64 (x.sz : Nat)) := by simp [World.cell?, hX]
    have x1 : W.cell? ⟨Bx, 1, none⟩ = some (.bool x.nm) := by simp [World.cell?, hX]
    have x2 : W.cell? ⟨Bx, 2, none⟩ = some (.int .i64 x.ad) := by simp [World.cell?, hX]
    have x3 : W.cell? ⟨Bx, 3, none⟩ = some (.int .i64 x.po) := by simp [World.cell?, hX]
    have lB : Bx < W.heap.size := blk x0
    obtain ⟨k, hk⟩ : ∃ k, k = pre.length := ⟨_, rfl⟩
    rw [← hk] at cC
    have HK0 := (show Hid _ from hk)
    have H1 := (show Hid _ from i1)
    have H2 := (show Hid _ from i2)
    have H3 := (show Hid _ from i3)
    have H4 := (show Hid _ from i4)
    have H5 := (show Hid _ from i5)
    have HX := (show Hid _ from hX)
    have HRow := (show Hid _ from hrow)
    clear hk hX hlt hCb i2 i3 i4 i5 hrow hBx0 heW hch0 hC0 lay0 herr hok hr
    by_cases hA : pre.length = ps.length
    · obtain rfl : k = ps.length := by have := HK0.out; omega
      clear i1
      have i1 := H1.out
      gi_wp2_with fail
      refine wpIn_region_any hmix ?_
      refine Rg.any_inv (I := fun l a' w' => l.size = 17 ∧ ∃ t : Nat → Value, a' = { tmps := #[(.agg #[.string s, .slice sa ps.length cap]), .pointer (some ⟨w.heap.size, 0, none⟩), .pointer (some ⟨w.heap.size + 1, 0, none⟩), .pointer (some ⟨w.heap.size + 1 + 1, 0, none⟩), .pointer (some ⟨w.heap.size + 1 + 1 + 1, 0, none⟩), .pointer (some ⟨Bx, 0, none⟩), .pointer (some ⟨w.heap.size, 0, none⟩), .string s, .bool true, .bool false, undef, .pointer (some ⟨w.heap.size, 0, none⟩), .string s, .func (.func 149) #[] #[.pointer (some ⟨w.heap.size + 1 + 1 + 1 + 1, 0, none⟩)], pcV x, t 0, t 1, t 2, t 3, t 4, t 5, t 6, t 7, t 8, t 9, t 10, t 11, t 12, t 13, t 14, t 15, t 16, undef, undef, undef, undef, undef, undef, undef, undef, undef, undef, undef, undef, undef, undef, undef, undef], defers := [] } ∧ Rg.Vals l (fun j => [(.pointer (some ⟨w.heap.size + 1 + 1 + 1, 2, none⟩) : Value), .int .i64 (ps.length : Nat), .pointer (some ⟨w.heap.size, 1, none⟩), .slice sa ps.length cap, .int .i64 (ps.length : Nat), .bool true, .bool true, undef, undef, undef, undef, undef, undef, undef, undef, undef, .bool true].getD j undef) t ∧ Below W.heap.size W w')
        ?sz ?low ?step ?fin _ _ _ _ ?start (Rg.left_all _)
      case sz => exact fun l a' w' h => h.1
      case start => exact ⟨by simp, fun _ => undef, rfl, Rg.vals_none _ _ _, (Below.refl _ W).drew⟩
      case low => exact Rg.low_of (by kernel_rfl)
      case step =>
        rintro l a' w' i ⟨hsz, t, rfl, hv, hb⟩ hi
        obtain ⟨h0, op, ho, hd⟩ := mem_ready.1 hi
        have hi7 : i < 17 := (Array.getElem?_eq_some_iff.1 ho).1
        have mC := (hb.cell (p := ⟨w.heap.size + 1 + 1 + 1, 2, none⟩) lC).trans cC
        have mS := (hb.cell (p := ⟨w.heap.size, 1, none⟩) lS).trans cS
        have hc : i = 0 ∨ i = 1 ∨ i = 2 ∨ i = 3 ∨ i = 4 ∨ i = 5 ∨ i = 6 ∨ i = 7 ∨ i = 8 ∨ i = 9 ∨ i = 10 ∨ i = 11 ∨ i = 12 ∨ i = 13 ∨ i = 14 ∨ i = 15 ∨ i = 16 := by omega
        rcases hc with rfl | rfl | rfl | rfl | rfl | rfl | rfl | rfl | rfl | rfl | rfl | rfl | rfl | rfl | rfl | rfl | rfl
        · obtain rfl : _ = op := Option.some.inj (show some _ = some op from ho)
          have HV := (show Hid _ from hv)
          have HD := (show Hid _ from hb)
          clear hv hd ho hi h0 hb
          refine wpOpIn_step rfl fun K hK => ?_
          have HKK := (show Hid _ from hK)
          clear hK
          go_simp
          exact HKK.out _ _ ⟨by simp [hsz], fun j => if j = 0 then .pointer (some ⟨w.heap.size + 1 + 1 + 1, 2, none⟩) else t j, by rfl, Rg.Vals.put HV.out 0 _ rfl, HD.out⟩
        · obtain rfl : _ = op := Option.some.inj (show some _ = some op from ho)
          have e0 : t 0 = .pointer (some ⟨w.heap.size + 1 + 1 + 1, 2, none⟩) := hv 0 (hd { on := 0, ground := .data } (by simp) rfl)
          have HV := (show Hid _ from hv)
          have HD := (show Hid _ from hb)
          clear hv hd ho hi h0 hb
          refine wpOpIn_step rfl fun K hK => ?_
          have HKK := (show Hid _ from hK)
          clear hK
          go_simp
          exact HKK.out _ _ ⟨by simp [hsz], fun j => if j = 1 then .int .i64 (ps.length : Nat) else t j, by simp [e0], Rg.Vals.put HV.out 1 _ rfl, HD.out⟩
        · obtain rfl : _ = op := Option.some.inj (show some _ = some op from ho)
          have HV := (show Hid _ from hv)
          have HD := (show Hid _ from hb)
          clear hv hd ho hi h0 hb
          refine wpOpIn_step rfl fun K hK => ?_
          have HKK := (show Hid _ from hK)
          clear hK
          go_simp
          exact HKK.out _ _ ⟨by simp [hsz], fun j => if j = 2 then .pointer (some ⟨w.heap.size, 1, none⟩) else t j, by rfl, Rg.Vals.put HV.out 2 _ rfl, HD.out⟩
        · obtain rfl : _ = op := Option.some.inj (show some _ = some op from ho)
          have e2 : t 2 = .pointer (some ⟨w.heap.size, 1, none⟩) := hv 2 (hd { on := 2, ground := .data } (by simp) rfl)
          have HV := (show Hid _ from hv)
          have HD := (show Hid _ from hb)
          clear hv hd ho hi h0 hb
          refine wpOpIn_step rfl fun K hK => ?_
          have HKK := (show Hid _ from hK)
          clear hK
          go_simp
          exact HKK.out _ _ ⟨by simp [hsz], fun j => if j = 3 then .slice sa ps.length cap else t j, by simp [e2], Rg.Vals.put HV.out 3 _ rfl, HD.out⟩
        · obtain rfl : _ = op := Option.some.inj (show some _ = some op from ho)
          have e3 : t 3 = .slice sa ps.length cap := hv 3 (hd { on := 3, ground := .data } (by simp) rfl)
          have HV := (show Hid _ from hv)
          have HD := (show Hid _ from hb)
          clear hv hd ho hi h0 hb
          refine wpOpIn_step rfl fun K hK => ?_
          have HKK := (show Hid _ from hK)
          clear hK
          go_simp
          exact HKK.out _ _ ⟨by simp [hsz], fun j => if j = 4 then .int .i64 (ps.length : Nat) else t j, by simp [e3], Rg.Vals.put HV.out 4 _ rfl, HD.out⟩
        · obtain rfl : _ = op := Option.some.inj (show some _ = some op from ho)
          have e1 : t 1 = .int .i64 (ps.length : Nat) := hv 1 (hd { on := 1, ground := .data } (by simp) rfl)
          have e4 : t 4 = .int .i64 (ps.length : Nat) := hv 4 (hd { on := 4, ground := .data } (by simp) rfl)
          have HV := (show Hid _ from hv)
          have HD := (show Hid _ from hb)
          clear hv hd ho hi h0 hb
          refine wpOpIn_step rfl fun K hK => ?_
          have HKK := (show Hid _ from hK)
          clear hK
          go_simp
          exact HKK.out _ _ ⟨by simp [hsz], fun j => if j = 5 then .bool true else t j, by simp [e1, e4], Rg.Vals.put HV.out 5 _ rfl, HD.out⟩
        · obtain rfl : _ = op := Option.some.inj (show some _ = some op from ho)
          have e5 : t 5 = .bool true := hv 5 (hd { on := 5, ground := .data } (by simp) rfl)
          have HV := (show Hid _ from hv)
          have HD := (show Hid _ from hb)
          clear hv hd ho hi h0 hb
          refine wpOpIn_step rfl fun K hK => ?_
          have HKK := (show Hid _ from hK)
          clear hK
          go_simp
          exact HKK.out _ _ ⟨by simp [hsz], fun j => if j = 6 then .bool true else t j, by simp [e5], Rg.Vals.put HV.out 6 _ rfl, HD.out⟩
        · obtain rfl : _ = op := Option.some.inj (show some _ = some op from ho)
          have e6 : t 6 = .bool true := hv 6 (hd { on := 6, ground := .guard } (by simp) rfl)
          have HV := (show Hid _ from hv)
          have HD := (show Hid _ from hb)
          clear hv hd ho hi h0 hb
          refine wpOpIn_step rfl fun K hK => ?_
          have HKK := (show Hid _ from hK)
          clear hK
          go_simp
          exact HKK.out _ _ ⟨by simp [hsz], fun j => if j = 7 then undef else t j, by simp [e6], Rg.Vals.put HV.out 7 _ rfl, HD.out⟩
        · obtain rfl : _ = op := Option.some.inj (show some _ = some op from ho)
          have e6 : t 6 = .bool true := hv 6 (hd { on := 6, ground := .guard } (by simp) rfl)
          have HV := (show Hid _ from hv)
          have HD := (show Hid _ from hb)
          clear hv hd ho hi h0 hb
          refine wpOpIn_step rfl fun K hK => ?_
          have HKK := (show Hid _ from hK)
          clear hK
          go_simp
          exact HKK.out _ _ ⟨by simp [hsz], fun j => if j = 8 then undef else t j, by simp [e6], Rg.Vals.put HV.out 8 _ rfl, HD.out⟩
        · obtain rfl : _ = op := Option.some.inj (show some _ = some op from ho)
          have e8 : t 8 = undef := hv 8 (hd { on := 8, ground := .data } (by simp) rfl)
          have e6 : t 6 = .bool true := hv 6 (hd { on := 6, ground := .guard } (by simp) rfl)
          have HV := (show Hid _ from hv)
          have HD := (show Hid _ from hb)
          clear hv hd ho hi h0 hb
          refine wpOpIn_step rfl fun K hK => ?_
          have HKK := (show Hid _ from hK)
          clear hK
          go_simp
          exact HKK.out _ _ ⟨by simp [hsz], fun j => if j = 9 then undef else t j, by simp [e8, e6], Rg.Vals.put HV.out 9 _ rfl, HD.out⟩
        · obtain rfl : _ = op := Option.some.inj (show some _ = some op from ho)
          have e6 : t 6 = .bool true := hv 6 (hd { on := 6, ground := .guard } (by simp) rfl)
          have HV := (show Hid _ from hv)
          have HD := (show Hid _ from hb)
          clear hv hd ho hi h0 hb
          refine wpOpIn_step rfl fun K hK => ?_
          have HKK := (show Hid _ from hK)
          clear hK
          go_simp
          exact HKK.out _ _ ⟨by simp [hsz], fun j => if j = 10 then undef else t j, by simp [e6], Rg.Vals.put HV.out 10 _ rfl, HD.out⟩
        · obtain rfl : _ = op := Option.some.inj (show some _ = some op from ho)
          have e10 : t 10 = undef := hv 10 (hd { on := 10, ground := .data } (by simp) rfl)
          have e6 : t 6 = .bool true := hv 6 (hd { on := 6, ground := .guard } (by simp) rfl)
          have HV := (show Hid _ from hv)
          have HD := (show Hid _ from hb)
          clear hv hd ho hi h0 hb
          refine wpOpIn_step rfl fun K hK => ?_
          have HKK := (show Hid _ from hK)
          clear hK
          go_simp
          exact HKK.out _ _ ⟨by simp [hsz], fun j => if j = 11 then undef else t j, by simp [e10, e6], Rg.Vals.put HV.out 11 _ rfl, HD.out⟩
        · obtain rfl : _ = op := Option.some.inj (show some _ = some op from ho)
          have e9 : t 9 = undef := hv 9 (hd { on := 9, ground := .data } (by simp) rfl)
          have e11 : t 11 = undef := hv 11 (hd { on := 11, ground := .data } (by simp) rfl)
          have e6 : t 6 = .bool true := hv 6 (hd { on := 6, ground := .guard } (by simp) rfl)
          have HV := (show Hid _ from hv)
          have HD := (show Hid _ from hb)
          clear hv hd ho hi h0 hb
          refine wpOpIn_step rfl fun K hK => ?_
          have HKK := (show Hid _ from hK)
          clear hK
          go_simp
          exact HKK.out _ _ ⟨by simp [hsz], fun j => if j = 12 then undef else t j, by simp [e9, e11, e6], Rg.Vals.put HV.out 12 _ rfl, HD.out⟩
        · obtain rfl : _ = op := Option.some.inj (show some _ = some op from ho)
          have e12 : t 12 = undef := hv 12 (hd { on := 12, ground := .data } (by simp) rfl)
          have e6 : t 6 = .bool true := hv 6 (hd { on := 6, ground := .guard } (by simp) rfl)
          have HV := (show Hid _ from hv)
          have HD := (show Hid _ from hb)
          clear hv hd ho hi h0 hb
          refine wpOpIn_step rfl fun K hK => ?_
          have HKK := (show Hid _ from hK)
          clear hK
          go_simp
          exact HKK.out _ _ ⟨by simp [hsz], fun j => if j = 13 then undef else t j, by simp [e12, e6], Rg.Vals.put HV.out 13 _ rfl, HD.out⟩
        · obtain rfl : _ = op := Option.some.inj (show some _ = some op from ho)
          have e7 : t 7 = undef := hv 7 (hd { on := 7, ground := .data } (by simp) rfl)
          have e13 : t 13 = undef := hv 13 (hd { on := 13, ground := .data } (by simp) rfl)
          have e6 : t 6 = .bool true := hv 6 (hd { on := 6, ground := .guard } (by simp) rfl)
          have HV := (show Hid _ from hv)
          have HD := (show Hid _ from hb)
          clear hv hd ho hi h0 hb
          refine wpOpIn_step rfl fun K hK => ?_
          have HKK := (show Hid _ from hK)
          clear hK
          go_simp
          refine ⟨trivial, HKK.out _ _ ?_⟩
          exact ⟨by simp [hsz], fun j => if j = 14 then undef else t j, by simp [e7, e13, e6], Rg.Vals.put HV.out 14 _ rfl, HD.out⟩
        · obtain rfl : _ = op := Option.some.inj (show some _ = some op from ho)
          have e14 : t 14 = undef := hv 14 (hd { on := 14, ground := .data } (by simp) rfl)
          have e6 : t 6 = .bool true := hv 6 (hd { on := 6, ground := .guard } (by simp) rfl)
          have HV := (show Hid _ from hv)
          have HD := (show Hid _ from hb)
          clear hv hd ho hi h0 hb
          refine wpOpIn_step rfl fun K hK => ?_
          have HKK := (show Hid _ from hK)
          clear hK
          go_simp
          exact HKK.out _ _ ⟨by simp [hsz], fun j => if j = 15 then undef else t j, by simp [e14, e6], Rg.Vals.put HV.out 15 _ rfl, HD.out⟩
        · obtain rfl : _ = op := Option.some.inj (show some _ = some op from ho)
          have e6 : t 6 = .bool true := hv 6 (hd { on := 6, ground := .data } (by simp) rfl)
          have e15 : t 15 = undef := hv 15 (hd { on := 15, ground := .data } (by simp) rfl)
          have HV := (show Hid _ from hv)
          have HD := (show Hid _ from hb)
          clear hv hd ho hi h0 hb
          refine wpOpIn_step rfl fun K hK => ?_
          have HKK := (show Hid _ from hK)
          clear hK
          go_simp
          exact HKK.out _ _ ⟨by simp [hsz], fun j => if j = 16 then .bool true else t j, by simp [e6, e15], Rg.Vals.put HV.out 16 _ rfl, HD.out⟩
      case fin =>
        rintro l a' w' ⟨hsz, t, rfl, hv, hb⟩ hall
        have e16 : t 16 = .bool true := hv 16 (hall 16 (by simp))
        clear hv hall hsz
        have L1 := i1.below hb
        have r0 : ∀ j, w'.frozen? ⟨w.heap.size + 1, j, none⟩ = false := fun j => by simp [World.frozen?, L1.rc, chO]
        have r1 : w'.frozen? ⟨w.heap.size + 1 + 1, 0, none⟩ = false := by simp [World.frozen?, L1.ro]
        have u0 : w'.cell? ⟨w.heap.size + 1, 0, none⟩ = some (.pointer none) := by simp [World.cell?, L1.rc, chO]
        have u1 : w'.cell? ⟨w.heap.size + 1, 1, none⟩ = some (.pointer none) := by simp [World.cell?, L1.rc, chO]
        have u2 : w'.cell? ⟨w.heap.size + 1, 2, none⟩ = some (.int .i64 0) := by simp [World.cell?, L1.rc, chO]
        have u3 : w'.cell? ⟨w.heap.size + 1, 3, none⟩ = some (.int .i64 0) := by simp [World.cell?, L1.rc, chO]
        have u4 : w'.cell? ⟨w.heap.size + 1, 4, none⟩ = some (.string ⟨#[]⟩) := by simp [World.cell?, L1.rc, chO]
        have u5 : w'.cell? ⟨w.heap.size + 1 + 1, 0, none⟩ = some (.bool false) := by simp [World.cell?, L1.ro]
        have HL := (show Hid _ from L1)
        have HB := (show Hid _ from hb)
        clear L1 i1 hb
        gi_wp2
        simp only [e16]
        gi_wp2
        obtain ⟨la, lb⟩ := HL.out.reset Wl.heap.size
        exact ⟨(keeps_below HB.out).trans lb, rfl, la, pre, x, rfl, .inl hA⟩
    · have hlp : k < ps.length := by have := H2.out.1; have := HK0.out; omega
      have hkB : ¬ (k : Int) = (ps.length : Int) := by omega
      have hkB' : (k : Int) < (ps.length : Int) := by omega
      have hpk : ps[k]? = some ps[k] := List.getElem?_eq_getElem hlp
      rcases HRow.out with hnil | ⟨g, o, rfl, hat⟩
      · rw [hnil] at hlp; cases hlp
      obtain ⟨p0, p1⟩ := (hat k _ hpk).below (i1.bel)
      have hsm := hpk
      generalize ps[k] = p at hpk p0 p1
      obtain ⟨q, hq⟩ : ∃ q, partB x p = q := ⟨_, rfl⟩
      have lg : g < W.heap.size := blk p0
      have HP := (show Hid _ from hpk)
      clear hat hsm hpk i1 HRow
      have i1 := H1.out
      gi_wp2_with fail
      refine wpIn_region_any hmix ?_
      refine Rg.any_inv (I := fun l a' w' => l.size = 17 ∧ ∃ t : Nat → Value, a' = { tmps := #[(.agg #[.string s, .slice (some ⟨g, o, none⟩) ps.length cap]), .pointer (some ⟨w.heap.size, 0, none⟩), .pointer (some ⟨w.heap.size + 1, 0, none⟩), .pointer (some ⟨w.heap.size + 1 + 1, 0, none⟩), .pointer (some ⟨w.heap.size + 1 + 1 + 1, 0, none⟩), .pointer (some ⟨Bx, 0, none⟩), .pointer (some ⟨w.heap.size, 0, none⟩), .string s, .bool true, .bool false, undef, .pointer (some ⟨w.heap.size, 0, none⟩), .string s, .func (.func 149) #[] #[.pointer (some ⟨w.heap.size + 1 + 1 + 1 + 1, 0, none⟩)], pcV x, t 0, t 1, t 2, t 3, t 4, t 5, t 6, t 7, t 8, t 9, t 10, t 11, t 12, t 13, t 14, t 15, t 16, undef, undef, undef, undef, undef, undef, undef, undef, undef, undef, undef, undef, undef, undef, undef, undef], defers := [] } ∧ Rg.Vals l (fun j => [(.pointer (some ⟨w.heap.size + 1 + 1 + 1, 2, none⟩) : Value), .int .i64 (k : Nat), .pointer (some ⟨w.heap.size, 1, none⟩), .slice (some ⟨g, o, none⟩) ps.length cap, .int .i64 (ps.length : Nat), .bool false, .bool false, pcV x, .pointer (some ⟨w.heap.size, 1, none⟩), .slice (some ⟨g, o, none⟩) ps.length cap, .pointer (some ⟨w.heap.size + 1 + 1 + 1, 2, none⟩), .int .i64 (k : Nat), .pointer (some ⟨g, o + k * 2, none⟩), .agg #[.int .i64 p.1, .string p.2], .bool q, .bool (!q), .bool (!q)].getD j undef) t ∧ Below W.heap.size W w')
        ?sz ?low ?step ?fin _ _ _ _ ?start (Rg.left_all _)
      case sz => exact fun l a' w' h => h.1
      case start => exact ⟨by simp, fun _ => undef, rfl, Rg.vals_none _ _ _, (Below.refl _ W).drew⟩
      case low => exact Rg.low_of (by kernel_rfl)
      case step =>
        rintro l a' w' i ⟨hsz, t, rfl, hv, hb⟩ hi
        obtain ⟨h0, op, ho, hd⟩ := mem_ready.1 hi
        have hi7 : i < 17 := (Array.getElem?_eq_some_iff.1 ho).1
        have mC := (hb.cell (p := ⟨w.heap.size + 1 + 1 + 1, 2, none⟩) lC).trans cC
        have mS := (hb.cell (p := ⟨w.heap.size, 1, none⟩) lS).trans cS
        have m0 := (hb.cell (p := ⟨Bx, 0, none⟩) lB).trans x0
        have m1 := (hb.cell (p := ⟨Bx, 1, none⟩) lB).trans x1
        have m2 := (hb.cell (p := ⟨Bx, 2, none⟩) lB).trans x2
        have m3 := (hb.cell (p := ⟨Bx, 3, none⟩) lB).trans x3
        have mp0 := (hb.cell (p := ⟨g, o + k * 2, none⟩) lg).trans p0
        have mp1 := (hb.cell (p := ⟨g, o + k * 2 + 1, none⟩) lg).trans p1
        have hc : i = 0 ∨ i = 1 ∨ i = 2 ∨ i = 3 ∨ i = 4 ∨ i = 5 ∨ i = 6 ∨ i = 7 ∨ i = 8 ∨ i = 9 ∨ i = 10 ∨ i = 11 ∨ i = 12 ∨ i = 13 ∨ i = 14 ∨ i = 15 ∨ i = 16 := by omega
        rcases hc with rfl | rfl | rfl | rfl | rfl | rfl | rfl | rfl | rfl | rfl | rfl | rfl | rfl | rfl | rfl | rfl | rfl
        · obtain rfl : _ = op := Option.some.inj (show some _ = some op from ho)
          have HV := (show Hid _ from hv)
          have HD := (show Hid _ from hb)
          clear hv hd ho hi h0 hb
          refine wpOpIn_step rfl fun K hK => ?_
          have HKK := (show Hid _ from hK)
          clear hK
          go_simp
          exact HKK.out _ _ ⟨by simp [hsz], fun j => if j = 0 then .pointer (some ⟨w.heap.size + 1 + 1 + 1, 2, none⟩) else t j, by rfl, Rg.Vals.put HV.out 0 _ rfl, HD.out⟩
        · obtain rfl : _ = op := Option.some.inj (show some _ = some op from ho)
          have e0 : t 0 = .pointer (some ⟨w.heap.size + 1 + 1 + 1, 2, none⟩) := hv 0 (hd { on := 0, ground := .data } (by simp) rfl)
          have HV := (show Hid _ from hv)
          have HD := (show Hid _ from hb)
          clear hv hd ho hi h0 hb
          refine wpOpIn_step rfl fun K hK => ?_
          have HKK := (show Hid _ from hK)
          clear hK
          go_simp
          exact HKK.out _ _ ⟨by simp [hsz], fun j => if j = 1 then .int .i64 (k : Nat) else t j, by simp [e0], Rg.Vals.put HV.out 1 _ rfl, HD.out⟩
        · obtain rfl : _ = op := Option.some.inj (show some _ = some op from ho)
          have HV := (show Hid _ from hv)
          have HD := (show Hid _ from hb)
          clear hv hd ho hi h0 hb
          refine wpOpIn_step rfl fun K hK => ?_
          have HKK := (show Hid _ from hK)
          clear hK
          go_simp
          exact HKK.out _ _ ⟨by simp [hsz], fun j => if j = 2 then .pointer (some ⟨w.heap.size, 1, none⟩) else t j, by rfl, Rg.Vals.put HV.out 2 _ rfl, HD.out⟩
        · obtain rfl : _ = op := Option.some.inj (show some _ = some op from ho)
          have e2 : t 2 = .pointer (some ⟨w.heap.size, 1, none⟩) := hv 2 (hd { on := 2, ground := .data } (by simp) rfl)
          have HV := (show Hid _ from hv)
          have HD := (show Hid _ from hb)
          clear hv hd ho hi h0 hb
          refine wpOpIn_step rfl fun K hK => ?_
          have HKK := (show Hid _ from hK)
          clear hK
          go_simp
          exact HKK.out _ _ ⟨by simp [hsz], fun j => if j = 3 then .slice (some ⟨g, o, none⟩) ps.length cap else t j, by simp [e2], Rg.Vals.put HV.out 3 _ rfl, HD.out⟩
        · obtain rfl : _ = op := Option.some.inj (show some _ = some op from ho)
          have e3 : t 3 = .slice (some ⟨g, o, none⟩) ps.length cap := hv 3 (hd { on := 3, ground := .data } (by simp) rfl)
          have HV := (show Hid _ from hv)
          have HD := (show Hid _ from hb)
          clear hv hd ho hi h0 hb
          refine wpOpIn_step rfl fun K hK => ?_
          have HKK := (show Hid _ from hK)
          clear hK
          go_simp
          exact HKK.out _ _ ⟨by simp [hsz], fun j => if j = 4 then .int .i64 (ps.length : Nat) else t j, by simp [e3], Rg.Vals.put HV.out 4 _ rfl, HD.out⟩
        · obtain rfl : _ = op := Option.some.inj (show some _ = some op from ho)
          have e1 : t 1 = .int .i64 (k : Nat) := hv 1 (hd { on := 1, ground := .data } (by simp) rfl)
          have e4 : t 4 = .int .i64 (ps.length : Nat) := hv 4 (hd { on := 4, ground := .data } (by simp) rfl)
          have HV := (show Hid _ from hv)
          have HD := (show Hid _ from hb)
          clear hv hd ho hi h0 hb
          refine wpOpIn_step rfl fun K hK => ?_
          have HKK := (show Hid _ from hK)
          clear hK
          go_simp
          exact HKK.out _ _ ⟨by simp [hsz], fun j => if j = 5 then .bool false else t j, by simp [e1, e4, hkB], Rg.Vals.put HV.out 5 _ rfl, HD.out⟩
        · obtain rfl : _ = op := Option.some.inj (show some _ = some op from ho)
          have e5 : t 5 = .bool false := hv 5 (hd { on := 5, ground := .data } (by simp) rfl)
          have HV := (show Hid _ from hv)
          have HD := (show Hid _ from hb)
          clear hv hd ho hi h0 hb
          refine wpOpIn_step rfl fun K hK => ?_
          have HKK := (show Hid _ from hK)
          clear hK
          go_simp
          exact HKK.out _ _ ⟨by simp [hsz], fun j => if j = 6 then .bool false else t j, by simp [e5], Rg.Vals.put HV.out 6 _ rfl, HD.out⟩
        · obtain rfl : _ = op := Option.some.inj (show some _ = some op from ho)
          have e6 : t 6 = .bool false := hv 6 (hd { on := 6, ground := .guard } (by simp) rfl)
          have HV := (show Hid _ from hv)
          have HD := (show Hid _ from hb)
          clear hv hd ho hi h0 hb
          refine wpOpIn_step rfl fun K hK => ?_
          have HKK := (show Hid _ from hK)
          clear hK
          go_simp
          exact HKK.out _ _ ⟨by simp [hsz], fun j => if j = 7 then pcV x else t j, by simp [e6], Rg.Vals.put HV.out 7 _ rfl, HD.out⟩
        · obtain rfl : _ = op := Option.some.inj (show some _ = some op from ho)
          have e6 : t 6 = .bool false := hv 6 (hd { on := 6, ground := .guard } (by simp) rfl)
          have HV := (show Hid _ from hv)
          have HD := (show Hid _ from hb)
          clear hv hd ho hi h0 hb
          refine wpOpIn_step rfl fun K hK => ?_
          have HKK := (show Hid _ from hK)
          clear hK
          go_simp
          exact HKK.out _ _ ⟨by simp [hsz], fun j => if j = 8 then .pointer (some ⟨w.heap.size, 1, none⟩) else t j, by simp [e6], Rg.Vals.put HV.out 8 _ rfl, HD.out⟩
        · obtain rfl : _ = op := Option.some.inj (show some _ = some op from ho)
          have e8 : t 8 = .pointer (some ⟨w.heap.size, 1, none⟩) := hv 8 (hd { on := 8, ground := .data } (by simp) rfl)
          have e6 : t 6 = .bool false := hv 6 (hd { on := 6, ground := .guard } (by simp) rfl)
          have HV := (show Hid _ from hv)
          have HD := (show Hid _ from hb)
          clear hv hd ho hi h0 hb
          refine wpOpIn_step rfl fun K hK => ?_
          have HKK := (show Hid _ from hK)
          clear hK
          go_simp
          exact HKK.out _ _ ⟨by simp [hsz], fun j => if j = 9 then .slice (some ⟨g, o, none⟩) ps.length cap else t j, by simp [e8, e6], Rg.Vals.put HV.out 9 _ rfl, HD.out⟩
        · obtain rfl : _ = op := Option.some.inj (show some _ = some op from ho)
          have e6 : t 6 = .bool false := hv 6 (hd { on := 6, ground := .guard } (by simp) rfl)
          have HV := (show Hid _ from hv)
          have HD := (show Hid _ from hb)
          clear hv hd ho hi h0 hb
          refine wpOpIn_step rfl fun K hK => ?_
          have HKK := (show Hid _ from hK)
          clear hK
          go_simp
          exact HKK.out _ _ ⟨by simp [hsz], fun j => if j = 10 then .pointer (some ⟨w.heap.size + 1 + 1 + 1, 2, none⟩) else t j, by simp [e6], Rg.Vals.put HV.out 10 _ rfl, HD.out⟩
        · obtain rfl : _ = op := Option.some.inj (show some _ = some op from ho)
          have e10 : t 10 = .pointer (some ⟨w.heap.size + 1 + 1 + 1, 2, none⟩) := hv 10 (hd { on := 10, ground := .data } (by simp) rfl)
          have e6 : t 6 = .bool false := hv 6 (hd { on := 6, ground := .guard } (by simp) rfl)
          have HV := (show Hid _ from hv)
          have HD := (show Hid _ from hb)
          clear hv hd ho hi h0 hb
          refine wpOpIn_step rfl fun K hK => ?_
          have HKK := (show Hid _ from hK)
          clear hK
          go_simp
          exact HKK.out _ _ ⟨by simp [hsz], fun j => if j = 11 then .int .i64 (k : Nat) else t j, by simp [e10, e6], Rg.Vals.put HV.out 11 _ rfl, HD.out⟩
        · obtain rfl : _ = op := Option.some.inj (show some _ = some op from ho)
          have e9 : t 9 = .slice (some ⟨g, o, none⟩) ps.length cap := hv 9 (hd { on := 9, ground := .data } (by simp) rfl)
          have e11 : t 11 = .int .i64 (k : Nat) := hv 11 (hd { on := 11, ground := .data } (by simp) rfl)
          have e6 : t 6 = .bool false := hv 6 (hd { on := 6, ground := .guard } (by simp) rfl)
          have HV := (show Hid _ from hv)
          have HD := (show Hid _ from hb)
          clear hv hd ho hi h0 hb
          refine wpOpIn_step rfl fun K hK => ?_
          have HKK := (show Hid _ from hK)
          clear hK
          go_simp
          refine HKK.out _ _ ?_
          exact ⟨by simp [hsz], fun j => if j = 12 then .pointer (some ⟨g, o + k * 2, none⟩) else t j, by simp [e9, e11, e6], Rg.Vals.put HV.out 12 _ rfl, HD.out⟩
        · obtain rfl : _ = op := Option.some.inj (show some _ = some op from ho)
          have e12 : t 12 = .pointer (some ⟨g, o + k * 2, none⟩) := hv 12 (hd { on := 12, ground := .data } (by simp) rfl)
          have e6 : t 6 = .bool false := hv 6 (hd { on := 6, ground := .guard } (by simp) rfl)
          have HV := (show Hid _ from hv)
          have HD := (show Hid _ from hb)
          clear hv hd ho hi h0 hb
          refine wpOpIn_step rfl fun K hK => ?_
          have HKK := (show Hid _ from hK)
          clear hK
          go_simp
          refine HKK.out _ _ ?_
          exact ⟨by simp [hsz], fun j => if j = 13 then .agg #[.int .i64 p.1, .string p.2] else t j, by simp [e12, e6], Rg.Vals.put HV.out 13 _ rfl, HD.out⟩
        · obtain rfl : _ = op := Option.some.inj (show some _ = some op from ho)
          have e7 : t 7 = pcV x := hv 7 (hd { on := 7, ground := .data } (by simp) rfl)
          have e13 : t 13 = .agg #[.int .i64 p.1, .string p.2] := hv 13 (hd { on := 13, ground := .data } (by simp) rfl)
          have e6 : t 6 = .bool false := hv 6 (hd { on := 6, ground := .guard } (by simp) rfl)
          have HV := (show Hid _ from hv)
          have HD := (show Hid _ from hb)
          clear hv hd ho hi h0 hb
          refine wpOpIn_step rfl fun K hK => ?_
          have HKK := (show Hid _ from hK)
          clear hK
          go_simp
          refine ⟨trivial, (fun h => by cases h), ?_⟩
          refine (CallsIn.inRound _ (callsIn_wide.2 (partOf_any x p _))).mono ?_
          rintro e w2 ⟨rfl, kk⟩
          rw [hq]
          refine HKK.out _ _ ⟨by simp [hsz], fun j => if j = 14 then .bool q else t j, by simp [e7, e13, e6], Rg.Vals.put HV.out 14 _ rfl, HD.out.trans (kk.mono HD.out.size)⟩
        · obtain rfl : _ = op := Option.some.inj (show some _ = some op from ho)
          have e14 : t 14 = .bool q := hv 14 (hd { on := 14, ground := .data } (by simp) rfl)
          have e6 : t 6 = .bool false := hv 6 (hd { on := 6, ground := .guard } (by simp) rfl)
          have HV := (show Hid _ from hv)
          have HD := (show Hid _ from hb)
          clear hv hd ho hi h0 hb
          refine wpOpIn_step rfl fun K hK => ?_
          have HKK := (show Hid _ from hK)
          clear hK
          go_simp
          exact HKK.out _ _ ⟨by simp [hsz], fun j => if j = 15 then .bool (!q) else t j, by simp [e14, e6], Rg.Vals.put HV.out 15 _ rfl, HD.out⟩
        · obtain rfl : _ = op := Option.some.inj (show some _ = some op from ho)
          have e6 : t 6 = .bool false := hv 6 (hd { on := 6, ground := .data } (by simp) rfl)
          have e15 : t 15 = .bool (!q) := hv 15 (hd { on := 15, ground := .data } (by simp) rfl)
          have HV := (show Hid _ from hv)
          have HD := (show Hid _ from hb)
          clear hv hd ho hi h0 hb
          refine wpOpIn_step rfl fun K hK => ?_
          have HKK := (show Hid _ from hK)
          clear hK
          go_simp
          exact HKK.out _ _ ⟨by simp [hsz], fun j => if j = 16 then .bool (!q) else t j, by simp [e6, e15], Rg.Vals.put HV.out 16 _ rfl, HD.out⟩
      case fin =>
        rintro l a' w' ⟨hsz, t, rfl, hv, hb⟩ hall
        have e16 : t 16 = .bool (!q) := hv 16 (hall 16 (by simp))
        clear hv hall hsz
        have L1 := i1.below hb
        have r0 : ∀ j, w'.frozen? ⟨w.heap.size + 1, j, none⟩ = false := fun j => by simp [World.frozen?, L1.rc, chO]
        have r1 : w'.frozen? ⟨w.heap.size + 1 + 1, 0, none⟩ = false := by simp [World.frozen?, L1.ro]
        have u0 : w'.cell? ⟨w.heap.size + 1, 0, none⟩ = some (.pointer none) := by simp [World.cell?, L1.rc, chO]
        have u1 : w'.cell? ⟨w.heap.size + 1, 1, none⟩ = some (.pointer none) := by simp [World.cell?, L1.rc, chO]
        have u2 : w'.cell? ⟨w.heap.size + 1, 2, none⟩ = some (.int .i64 0) := by simp [World.cell?, L1.rc, chO]
        have u3 : w'.cell? ⟨w.heap.size + 1, 3, none⟩ = some (.int .i64 0) := by simp [World.cell?, L1.rc, chO]
        have u4 : w'.cell? ⟨w.heap.size + 1, 4, none⟩ = some (.string ⟨#[]⟩) := by simp [World.cell?, L1.rc, chO]
        have u5 : w'.cell? ⟨w.heap.size + 1 + 1, 0, none⟩ = some (.bool false) := by simp [World.cell?, L1.ro]
        have HL := (show Hid _ from L1)
        have HB := (show Hid _ from hb)
        clear L1 i1 hb
        cases q
        · simp only [Bool.not_false] at e16
          gi_wp2
          simp only [e16]
          gi_wp2
          obtain ⟨la, lb⟩ := HL.out.reset Wl.heap.size
          exact ⟨(keeps_below HB.out).trans lb, rfl, la, pre, x, rfl, .inr ⟨p, by rw [← HK0.out]; exact HP.out, hq⟩⟩
        · simp only [Bool.not_true] at e16
          have mC := (HB.out.cell (p := ⟨w.heap.size + 1 + 1 + 1, 2, none⟩) lC).trans cC
          have mS := (HB.out.cell (p := ⟨w.heap.size, 1, none⟩) lS).trans cS
          have mp0 := (HB.out.cell (p := ⟨g, o + k * 2, none⟩) lg).trans p0
          have mp1 := (HB.out.cell (p := ⟨g, o + k * 2 + 1, none⟩) lg).trans p1
          gi_wp2
          simp only [e16]
          gi_wp2_with fail
          first | refine ⟨trivial, (fun h => by cases h), ?_⟩ | refine ⟨trivial, ?_⟩
          have h3 := H3.out.below HB.out
          have h5 := H5.out
          have h2 := H2.out
          have hk0 := HK0.out
          have hps : p.2.size ≤ 6 := partB_small hq
          have htk : ps.take (pre ++ [x]).length = ps.take pre.length ++ [p] := by
            rw [List.length_append, List.length_singleton, List.take_add_one, ← hk0, HP.out]; rfl
          refine (CallsIn.inRound _ (callsIn_wide.2 (add_any (w.heap.size + 5) (w.heap.size + 1 + 1 + 1) bs _ p _ h3 (by rw [List.length_take]; omega) (by omega) (by omega)))).mono ?_
          rintro e w2 ⟨⟨v', rfl⟩, hadd⟩
          have hsB := HL.out.bel.size
          have q1 := (keeps_below (B := Wl.heap.size) HB.out).trans (hadd.keeps h3)
          have q2 : Kq (Xc (w.heap.size + 5) (w.heap.size + 1 + 1 + 1)) W w2 := (Kq.below HB.out).trans (hadd.kq h3 H4.out)
          have q3 := HL.out.added hadd H4.out
          have lst := HB.out.size
          have q4 : ∀ b ∈ bs ++ [w'.heap.size + 1], w.heap.size + 5 ≤ b := by
            intro b hb
            rcases List.mem_append.1 hb with hb | hb
            · exact H4.out b hb
            · simp at hb; omega
          have q5 := hadd.chain
          rw [← htk] at q5
          have q6 : (txW (ps.take (pre ++ [x]).length)).size ≤ 6 * (pre ++ [x]).length := by
            rw [htk, txW_snoc, ByteArray.size_append, List.length_append, List.length_singleton]; omega
          have q7 : Fits (pre ++ [x]) ps := by
            refine ⟨by rw [List.length_append, List.length_singleton]; omega, fun i y p' hy hp' => ?_⟩
            by_cases hi : i < pre.length
            · rw [List.getElem?_append_left hi] at hy
              exact h2.2 i y p' hy hp'
            · have hi' : i = pre.length := by
                have := (List.getElem?_eq_some_iff.1 hy).1
                simp at this; omega
              subst hi'
              rw [List.getElem?_append_right (Nat.le_refl _)] at hy
              simp at hy
              rw [← hk0, HP.out] at hp'
              cases hp'
              rw [← hy]; exact hq
          clear hadd h3 h5 h2 H1 H2 H3 H4 H5 HL HB mC mS mp0 mp1
          gi_wp2
          exact ⟨q1, q2, q3, q7, _, q5, q4, q6⟩
  case done =>
    rintro D ys W hD rfl ⟨i1, i2, bs, i3, i4, i5⟩ hK
    clear hBx0 heW hch0 hC0 lay0
    have hlt : (ps.take (pieL s.data.toList).length).length = (pieL s.data.toList).length := by rw [List.length_take]; have := i2.1; omega
    have hCb := i3.blk
    rw [hlt] at hCb
    have hst := stB_fit hok i2
    have cS : W.cell? ⟨w.heap.size, 1, none⟩ = some (.slice sa ps.length cap) := by simp [World.cell?, i1.st]
    have cC : W.cell? ⟨w.heap.size + 1 + 1 + 1, 2, none⟩ = some (.int .i64 ((pieL s.data.toList).length : Nat)) := by simp [World.cell?, hCb, chO]
    by_cases hE : (pieL s.data.toList).length = ps.length
    · have htk : ps.take (pieL s.data.toList).length = ps := by rw [hE, List.take_length]
      rw [htk] at i3
      have hCc := i3.blk
      have c0 : W.cell? ⟨w.heap.size + 1 + 1 + 1, 0, none⟩ = some (.pointer (bs.head?.map ad)) := by simp [World.cell?, hCc, chO]
      have c1 : W.cell? ⟨w.heap.size + 1 + 1 + 1, 1, none⟩ = some (.pointer (bs.getLast?.map ad)) := by simp [World.cell?, hCc, chO]
      have c3 : W.cell? ⟨w.heap.size + 1 + 1 + 1, 3, none⟩ = some (.int .i64 (szW ps)) := by simp [World.cell?, hCc, chO]
      have c4 : W.cell? ⟨w.heap.size + 1 + 1 + 1, 4, none⟩ = some (.string (txW ps)) := by simp [World.cell?, hCc, chO]
      rw [hE] at cC
      have r0 : ∀ j, W.frozen? ⟨w.heap.size + 1, j, none⟩ = false := fun j => by simp [World.frozen?, i1.rc, chO]
      have r1 : W.frozen? ⟨w.heap.size + 1 + 1, 0, none⟩ = false := by simp [World.frozen?, i1.ro]
      have u0 : W.cell? ⟨w.heap.size + 1, 0, none⟩ = some (.pointer none) := by simp [World.cell?, i1.rc, chO]
      have u1 : W.cell? ⟨w.heap.size + 1, 1, none⟩ = some (.pointer none) := by simp [World.cell?, i1.rc, chO]
      have u2 : W.cell? ⟨w.heap.size + 1, 2, none⟩ = some (.int .i64 0) := by simp [World.cell?, i1.rc, chO]
      have u3 : W.cell? ⟨w.heap.size + 1, 3, none⟩ = some (.int .i64 0) := by simp [World.cell?, i1.rc, chO]
      have u4 : W.cell? ⟨w.heap.size + 1, 4, none⟩ = some (.string ⟨#[]⟩) := by simp [World.cell?, i1.rc, chO]
      have u5 : W.cell? ⟨w.heap.size + 1 + 1, 0, none⟩ = some (.bool false) := by simp [World.cell?, i1.ro]
      have HI := (show Hid (Lay w s (.slice sa ps.length cap) W) from i1)
      have H3 := (show Hid (ChainAt W (w.heap.size + 1 + 1 + 1) bs ps) from i3)
      have H4 := (show Hid (∀ b ∈ bs, w.heap.size + 5 ≤ b) from i4)
      clear i1 i3 i4 i5 hCb hCc i2
      gi_wp2
      obtain ⟨g1, g2, g3, g4, g5⟩ := HI.out.give 0 (.pointer (bs.head?.map ad)) (.pointer (bs.getLast?.map ad)) (.int .i64 (ps.length : Nat)) (.int .i64 (szW ps)) (.string (txW ps)) (.bool true)
      have hKR := g4.same D _ (Nat.zero_le _) hK rfl
      refine ⟨by simp, .inl ⟨_, _, rfl, run_takeDeferred hKR, ?_⟩⟩
      have i4 := H4.out
      have hch := H3.out.same (fun b hb => g3 b (by rcases hb with rfl | hb <;> first | omega | (have := i4 b hb; omega)) (by rcases hb with rfl | hb <;> first | omega | (have := i4 b hb; omega)))
      have hrD := row_one (B := Wl.heap.size) hD hKR rfl
      have q1 := grown_cells (grownBy_putObj' _ D (.deferred none)) hrD g1
      have q2 := grown_cells (grownBy_putObj' _ D (.deferred none)) hrD g2
      have q3 := grown_chain (grownBy_putObj' _ D (.deferred none)) hrD hch
      have q4 := g5.grown (grownBy_putObj' _ D (.deferred none)) g5.size (fun k e => Nat.le_trans (by omega) (hrD k e).1)
      clear hKR hrD hch g1 g2 g3 g4 g5 HI H3 r0 r1 u0 u1 u2 u3 u4 u5
      generalize (World.putObj _ D (.deferred none)) = Z at q1 q2 q3 q4 ⊢
      have r0 : Z.cell? ⟨w.heap.size + 1, 0, none⟩ = some (.pointer (bs.head?.map ad)) := by simp [World.cell?, q1]
      have r1 : Z.cell? ⟨w.heap.size + 1, 1, none⟩ = some (.pointer (bs.getLast?.map ad)) := by simp [World.cell?, q1]
      have r2 : Z.cell? ⟨w.heap.size + 1, 2, none⟩ = some (.int .i64 (ps.length : Nat)) := by simp [World.cell?, q1]
      have r3 : Z.cell? ⟨w.heap.size + 1, 3, none⟩ = some (.int .i64 (szW ps)) := by simp [World.cell?, q1]
      have r4 : Z.cell? ⟨w.heap.size + 1, 4, none⟩ = some (.string (txW ps)) := by simp [World.cell?, q1]
      have r5 : Z.cell? ⟨w.heap.size + 1 + 1, 0, none⟩ = some (.bool true) := by simp [World.cell?, q2]
      refine ⟨.tuple #[chV (bs.head?.map ad) (bs.getLast?.map ad) (ps.length : Nat) (szW ps) (txW ps), .bool true], ?_, q4, .inr ⟨by rw [hst]; simp [hE], w.heap.size + 1 + 1 + 1, bs, q3, by omega, fun b hb => by have := H4.out b hb; omega, rfl⟩⟩
      simp [results, Tryz.results121, go_sem, r0, r1, r2, r3, r4, r5, chV]
      try rfl
    · have hE' : ¬ ((pieL s.data.toList).length : Int) = (ps.length : Int) := by omega
      have r0 : ∀ j, W.frozen? ⟨w.heap.size + 1, j, none⟩ = false := fun j => by simp [World.frozen?, i1.rc, chO]
      have r1 : W.frozen? ⟨w.heap.size + 1 + 1, 0, none⟩ = false := by simp [World.frozen?, i1.ro]
      have u0 : W.cell? ⟨w.heap.size + 1, 0, none⟩ = some (.pointer none) := by simp [World.cell?, i1.rc, chO]
      have u1 : W.cell? ⟨w.heap.size + 1, 1, none⟩ = some (.pointer none) := by simp [World.cell?, i1.rc, chO]
      have u2 : W.cell? ⟨w.heap.size + 1, 2, none⟩ = some (.int .i64 0) := by simp [World.cell?, i1.rc, chO]
      have u3 : W.cell? ⟨w.heap.size + 1, 3, none⟩ = some (.int .i64 0) := by simp [World.cell?, i1.rc, chO]
      have u4 : W.cell? ⟨w.heap.size + 1, 4, none⟩ = some (.string ⟨#[]⟩) := by simp [World.cell?, i1.rc, chO]
      have u5 : W.cell? ⟨w.heap.size + 1 + 1, 0, none⟩ = some (.bool false) := by simp [World.cell?, i1.ro]
      have HI := (show Hid (Lay w s (.slice sa ps.length cap) W) from i1)
      clear i1 i3 i4 i5 hCb
      gi_wp2
      obtain ⟨la, lb⟩ := HI.out.reset 0
      have hKR := lb.same D _ (Nat.zero_le _) hK rfl
      refine ⟨by simp, .inl ⟨_, _, rfl, run_takeDeferred hKR, ?_⟩⟩
      have lZ := la.grown (B := Wl.heap.size) (by omega) (grownBy_putObj' _ D (.deferred none)) (row_one hD hKR rfl)
      clear la lb hKR HI r0 r1 u0 u1 u2 u3 u4 u5
      generalize (World.putObj _ D (.deferred none)) = Z at lZ ⊢
      have r0 : Z.cell? ⟨w.heap.size + 1, 0, none⟩ = some (.pointer none) := by simp [World.cell?, lZ.rc, chO]
      have r1 : Z.cell? ⟨w.heap.size + 1, 1, none⟩ = some (.pointer none) := by simp [World.cell?, lZ.rc, chO]
      have r2 : Z.cell? ⟨w.heap.size + 1, 2, none⟩ = some (.int .i64 0) := by simp [World.cell?, lZ.rc, chO]
      have r3 : Z.cell? ⟨w.heap.size + 1, 3, none⟩ = some (.int .i64 0) := by simp [World.cell?, lZ.rc, chO]
      have r4 : Z.cell? ⟨w.heap.size + 1, 4, none⟩ = some (.string ⟨#[]⟩) := by simp [World.cell?, lZ.rc, chO]
      have r5 : Z.cell? ⟨w.heap.size + 1 + 1, 0, none⟩ = some (.bool false) := by simp [World.cell?, lZ.ro]
      refine ⟨.tuple #[chV none none 0 0 ByteArray.empty, .bool false], ?_, lZ.bel, .inl ⟨by rw [hst]; simp [hE], rfl⟩⟩
      simp [results, Tryz.results121, go_sem, r0, r1, r2, r3, r4, r5, chV]
      try rfl
  case stop =>
    rintro D c pre W hD hpre ⟨rfl, i2, i3⟩ hK
    gi_wp2
    refine ⟨by simp, .inl ⟨_, _, rfl, run_takeDeferred hK, ?_⟩⟩
    have lZ : Lay w s (.slice sa ps.length cap) (W.putObj D (.deferred none)) := i2.grown (B := Wl.heap.size) (by omega) (grownBy_putObj' W D _) (fun r e => by cases e; exact ⟨hD, _, hK, rfl⟩)
    generalize W.putObj D (.deferred none) = Z at lZ ⊢
    have r0 : Z.cell? ⟨w.heap.size + 1, 0, none⟩ = some (.pointer none) := by simp [World.cell?, lZ.rc, chO]
    have r1 : Z.cell? ⟨w.heap.size + 1, 1, none⟩ = some (.pointer none) := by simp [World.cell?, lZ.rc, chO]
    have r2 : Z.cell? ⟨w.heap.size + 1, 2, none⟩ = some (.int .i64 0) := by simp [World.cell?, lZ.rc, chO]
    have r3 : Z.cell? ⟨w.heap.size + 1, 3, none⟩ = some (.int .i64 0) := by simp [World.cell?, lZ.rc, chO]
    have r4 : Z.cell? ⟨w.heap.size + 1, 4, none⟩ = some (.string ⟨#[]⟩) := by simp [World.cell?, lZ.rc, chO]
    have r5 : Z.cell? ⟨w.heap.size + 1 + 1, 0, none⟩ = some (.bool false) := by simp [World.cell?, lZ.ro]
    refine ⟨.tuple #[chV none none 0 0 ByteArray.empty, .bool false], ?_, lZ.bel, .inl ⟨stB_not hpre i3, rfl⟩⟩
    simp [results, Tryz.results121, go_sem, r0, r1, r2, r3, r4, r5, chV]
    try rfl
end Go.Proofs.YtfmjhbdbgcgoiaaGreatDoor.St

/- Walks: the parts of a chain are listed, and gone across; the functions on streams that ask. -/
namespace Go.Proofs.YtfmjhbdbgcgoiaaGreatDoor.St
open Go.RowKit Go.Shelf Go.Proofs.YtfmjhbdbgcgoiaaGreatDoor.Kit Go.Proofs.YtfmjhbdbgcgoiaaGreatDoor.Tx Go.Proofs.YtfmjhbdbgcgoiaaGreatDoor.Nm Go.Proofs.YtfmjhbdbgcgoiaaGreatDoor.App
open Go.Proofs.YtfmjhbdbgcgoiaaGreatDoor.Pcs (two_at)
open Go.Proofs.YtfmjhbdbgcgoiaaGreatDoor.Read (Errs)
set_option linter.unusedSimpArgs false
set_option linter.unusedVariables false

/-- the chain of a stream, in all cases -/
theorem read_any (s : ByteArray) (v : Value) (ps : List (Int × ByteArray)) (w : World) (hT : IsT w v ps) (herr : Errs w) :
    Calls Tryz.prog 121 #[.agg #[.string s, v]] w fun e W' => Below w.heap.size w W' ∧
      ((stB s ps = false ∧ e = .returned (.tuple #[chV none none 0 0 ByteArray.empty, .bool false])) ∨
       (stB s ps = true ∧ ∃ C bs, ChainAt W' C bs ps ∧ w.heap.size ≤ C ∧ (∀ b ∈ bs, w.heap.size ≤ b) ∧ e = .returned (.tuple #[chV (bs.head?.map ad) (bs.getLast?.map ad) (ps.length : Nat) (szW ps) (txW ps), .bool true]))) := by
  cases hok : okB s.data.toList
  · refine (callsIn_wide.1 (chain_no 5 s v w hok)).mono ?_
    rintro e W' ⟨h1, h2⟩
    exact ⟨h2, .inl ⟨stB_ok hok, h1⟩⟩
  · exact callsIn_wide.1 (chain_in 5 (Nat.le_refl _) s v ps w hok hT herr)

/-- a chain's own block is written anew elsewhere -/
theorem ChainAt.move {W W' : World} {C C' : Nat} {bs : List Nat} {ps : List (Int × ByteArray)} (h : ChainAt W C bs ps) (hC : W'.heap[C']? = some (chO (bs.head?.map ad) (bs.getLast?.map ad) (ps.length : Nat) (szW ps) (txW ps))) (hb : ∀ b ∈ bs, W'.heap[b]? = W.heap[b]?) (ho : ∀ b ∈ bs, b ≠ C') : ChainAt W' C' bs ps :=
  ⟨hC, h.len, fun i p b hp hbi => (hb b (List.mem_of_getElem? hbi)).trans (h.lnk i p b hp hbi), ho, h.nd⟩
theorem ChainAt.at {W : World} {C : Nat} {bs : List Nat} {ps : List (Int × ByteArray)} (h : ChainAt W C bs ps) (k : Nat) (p : Int × ByteArray) (hp : ps[k]? = some p) : ∃ b, bs[k]? = some b ∧ W.heap[b]? = some (lkO p (bs[k + 1]?.map ad)) := by
  have hk := (List.getElem?_eq_some_iff.1 hp).1
  have hb : bs[k]? = some (bs[k]'(by rw [h.len]; exact hk)) := List.getElem?_eq_getElem _
  exact ⟨_, hb, h.lnk k p _ hp hb⟩
theorem ChainAt.end {W : World} {C : Nat} {bs : List Nat} {ps : List (Int × ByteArray)} (h : ChainAt W C bs ps) (k : Nat) (hk : ps.length ≤ k) : bs[k]? = none := List.getElem?_eq_none (by rw [h.len]; exact hk)
theorem takeT_snoc {ps : List (Int × ByteArray)} {k : Nat} {p : Int × ByteArray} (h : ps[k]? = some p) : ps.take (k + 1) = ps.take k ++ [p] := by rw [List.take_add_one, h]; rfl
/-- how long a slice is -/
def lenV : Value → Nat
  | .slice _ n _ => n
  | _ => 0
theorem grown_keep {wr w2 : World} {base b : Nat} {e : TypeId} {sz n : Nat} {v : Value} {xs : List Value} {o : Obj} (hg : (wr.alloc o).grownBy w2 v.ownBlock) (hrow : wr.ownsRow base e sz v n xs) (hb : b < base) (hl : b < wr.heap.size) : w2.heap[b]? = wr.heap[b]? := by
  refine (hg.block b (by simp; omega) fun q => ?_).trans (Below.heap_alloc _ _ _ (by omega))
  have := (hrow.lt b q.symm).1
  omega
theorem head0 (bs : List Nat) : bs.head? = bs[0]? := by cases bs <;> rfl

set_option maxRecDepth 8000 in
set_option maxHeartbeats 4000000 in
theorem list_any (W : World) (C : Nat) (bs : List Nat) (ps : List (Int × ByteArray)) (h : ChainAt W C bs ps) (hl : ps.length ≤ 900) :
    Calls Tryz.prog 152 #[.pointer (some ⟨C, 0, none⟩)] W fun r W' => ∃ v, r = .returned v ∧ W'.ownsRow W.heap.size 88 2 v ps.length (cellsT ps) ∧ Below W.heap.size W W' := by
  obtain ⟨i0, hi, hz0, hz1, hz2⟩ := info_parts infoT
  have hC0 : W.cell? ⟨C, 0, none⟩ = some (.pointer (bs[0]?.map ad)) := by rw [← head0]; simp [World.cell?, h.blk, chO]
  go_enter Tryz.func152, Tryz.ntmps152
  go_wp2
  go_loopw [3, 4] (fun o i wr => ∃ k : Nat, k ≤ ps.length ∧ i = .pointer (bs[k]?.map ad) ∧ wr.ownsRow W.heap.size 88 2 o k (cellsT (ps.take k)) ∧ Below W.heap.size W wr ∧ lenV o = k) (fun o i wr => ps.length - lenV o)
  case atStart => exact ⟨0, Nat.zero_le _, rfl, World.ownsRow_nil _ _ _ _, Below.refl _ _, rfl⟩
  case round =>
    obtain ⟨k, hk, rfl, hrow, hb, hlv⟩ := hrel
    by_cases hkl : k < ps.length
    · have hp : ps[k]? = some ps[k] := List.getElem?_eq_getElem hkl
      generalize ps[k] = p at hp
      obtain ⟨b, hbk, hlk0⟩ := h.at k p hp
      have hlt : b < W.heap.size := (Array.getElem?_eq_some_iff.1 hlk0).1
      have hlk := (hb.block b hlt).trans hlk0
      have hltr : b < wr.heap.size := Nat.lt_of_lt_of_le hlt hb.size
      have c0 : wr.cell? ⟨b, 0, none⟩ = some (.int .i64 p.1) := by simp [World.cell?, hlk, lkO]
      have c1 : wr.cell? ⟨b, 1, none⟩ = some (.string p.2) := by simp [World.cell?, hlk, lkO]
      have c2 : wr.cell? ⟨b, 2, none⟩ = some (.pointer (bs[k + 1]?.map ad)) := by simp [World.cell?, hlk, lkO]
      have HS := (show Hid (ps.take (k + 1) = ps.take k ++ [p]) from takeT_snoc hp)
      have hbs := hb.size
      rw [hbk]
      simp only [Option.map_some, ad]
      clear hlk hlk0 hp hC0
      go_wp2_with (at_builtin; (refine wpList_append_own_at _ rfl _ _ 52 rfl W.heap.size 88 i0 (.agg #[.int .i64 0, .string ByteArray.empty]) 2 24 Tryz.underlying52 hi hz0 hz1 hz2 rfl (by decide) _ _ _ rfl (hrow.alloc _) ⟨wr.heap.size, 0, none⟩ 1 1 [.int .i64 p.1, .string p.2] rfl rfl (two_at _ _ _ _ _ rfl) (by simp [Value.oneCell']) (by unfold maxLen; omega) (by omega) (by simp; omega) ?_; intro v' w2 hown' hgrow _ _; obtain ⟨g', cap', rfl⟩ := ownsRow_succ hown'; have d2 : w2.cell? ⟨b, 2, none⟩ = some (.pointer (bs[k + 1]?.map ad)) := (World.cell?_of_block (grown_keep hgrow hrow hlt hltr)).trans c2))
      go_roundw
      case rel =>
        refine ⟨k + 1, by omega, rfl, ?_, ?_, rfl⟩
        · rw [HS.out, cellsT_snoc]; exact hown'
        · exact ⟨hgrow.os.trans hb.os, hgrow.tape.trans hb.tape, hgrow.output.trans hb.output, by have := hgrow.size; have := hb.size; simp at *; omega, fun x hx => (grown_keep hgrow hrow hx (Nat.lt_of_lt_of_le hx hb.size)).trans (hb.block x hx)⟩
      case measure => first | (simp only [lenV] at hlv ⊢; omega) | (simp [lenV, hlv]; omega)
    · have hkn : k = ps.length := by omega
      rw [h.end k (by omega)]
      simp only [Option.map_none]
      have e2 : ps.take k = ps := List.take_of_length_le (by omega)
      rw [e2] at hrow
      subst hkn
      go_wp2
      go_ret
      exact ⟨_, rfl, hrow, hb⟩

/-- how long parts are, there, that are whole within so many bytes here -/
def acr (h t : (Int × ByteArray) → Int) : List (Int × ByteArray) → Int → Int
  | [], _ => 0
  | p :: ps, n => if h p ≤ n then t p + acr h t ps (n - h p) else 0
def inZ (p : Int × ByteArray) : Int := p.1
def outZ (p : Int × ByteArray) : Int := (p.2.size : Nat)
/-- parts as an ok stream has them -/
def Small (ps : List (Int × ByteArray)) : Prop := ps.length ≤ 40 ∧ ∀ p ∈ ps, (1 ≤ p.1 ∧ p.1 ≤ 6) ∧ 1 ≤ p.2.size ∧ p.2.size ≤ 6
def sideH : Bool → (Int × ByteArray) → Int
  | true => inZ
  | false => outZ
theorem side_small {ps : List (Int × ByteArray)} (h : Small ps) (d : Bool) (p : Int × ByteArray) (hp : p ∈ ps) : 1 ≤ sideH d p ∧ sideH d p ≤ 6 := by
  obtain ⟨h1, h2, h3⟩ := h.2 p hp
  cases d
  · show 1 ≤ ((p.2.size : Nat) : Int) ∧ ((p.2.size : Nat) : Int) ≤ 6; omega
  · exact h1

set_option maxHeartbeats 1000000 in
theorem partIn_any (p : Int × ByteArray) (w : World) : Calls Tryz.prog 147 #[.agg #[.int .i64 p.1, .string p.2]] w fun e w' => e = .returned (.int .i64 (sideH true p)) ∧ Below w.heap.size w w' := by
  go_enter Tryz.func147, Tryz.ntmps147
  go_wp2
  go_ret
  exact ⟨rfl, (Below.refl _ _).alloc (Nat.le_refl _) _⟩
set_option maxHeartbeats 1000000 in
theorem partOut_any (p : Int × ByteArray) (w : World) : Calls Tryz.prog 146 #[.agg #[.int .i64 p.1, .string p.2]] w fun e w' => e = .returned (.int .i64 (sideH false p)) ∧ Below w.heap.size w w' := by
  go_enter Tryz.func146, Tryz.ntmps146
  go_wp2
  go_ret
  exact ⟨rfl, (Below.refl _ _).alloc (Nat.le_refl _) _⟩
def sideF : Bool → Nat
  | true => 147
  | false => 146
set_option maxRecDepth 8000 in
set_option maxHeartbeats 4000000 in
theorem across_in (W : World) (C : Nat) (bs : List Nat) (ps : List (Int × ByteArray)) (n : Int) (h : ChainAt W C bs ps) (hs : Small ps) (hn : 0 ≤ n ∧ n ≤ 1000) :
    Calls Tryz.prog 145 #[.pointer (some ⟨C, 0, none⟩), .int .i64 n, .func (.func 147) #[] #[], .func (.func 146) #[] #[]] W fun r W' => r = .returned (.int .i64 (acr (sideH true) (sideH false) ps n)) ∧ Below W.heap.size W W' := by
  have hC0 : W.cell? ⟨C, 0, none⟩ = some (.pointer (bs[0]?.map ad)) := by rw [← head0]; simp [World.cell?, h.blk, chO]
  have hl40 := hs.1
  go_enter Tryz.func145, Tryz.ntmps145
  go_wp2
  go_loopw [1, 9, 10] (fun y t i wr => ∃ (k : Nat) (m q : Int), k ≤ ps.length ∧ y = .int .i64 m ∧ t = .int .i64 q ∧ i = .pointer (bs[k]?.map ad) ∧ 0 ≤ m ∧ m ≤ n ∧ 0 ≤ q ∧ q ≤ 6 * (k : Int) ∧ q + acr (sideH true) (sideH false) (ps.drop k) m = acr (sideH true) (sideH false) ps n ∧ Below W.heap.size W wr) (fun y t i wr => (intOf y).toNat)
  case atStart => exact ⟨0, n, 0, Nat.zero_le _, rfl, rfl, rfl, hn.1, Int.le_refl _, Int.le_refl _, by omega, by simp, Below.refl _ _⟩
  case round =>
    obtain ⟨k, m, q, hk, rfl, rfl, rfl, hm0, hmn, hq0, hq6, hac, hb⟩ := hrel
    by_cases hkl : k < ps.length
    · have hp : ps[k]? = some ps[k] := List.getElem?_eq_getElem hkl
      have hmem : ps[k] ∈ ps := List.getElem_mem hkl
      have hdr : ps.drop k = ps[k] :: ps.drop (k + 1) := List.drop_eq_getElem_cons hkl
      rw [hdr] at hac
      generalize ps[k] = p at hp hac hmem
      obtain ⟨s1, s6⟩ := side_small hs true p hmem
      obtain ⟨t1, t6⟩ := side_small hs false p hmem
      obtain ⟨b, hbk, hlk0⟩ := h.at k p hp
      have hlt : b < W.heap.size := (Array.getElem?_eq_some_iff.1 hlk0).1
      have hlk := (hb.block b hlt).trans hlk0
      have hltr : b < wr.heap.size := Nat.lt_of_lt_of_le hlt hb.size
      have c0 : wr.cell? ⟨b, 0, none⟩ = some (.int .i64 p.1) := by simp [World.cell?, hlk, lkO]
      have c1 : wr.cell? ⟨b, 1, none⟩ = some (.string p.2) := by simp [World.cell?, hlk, lkO]
      have c2 : wr.cell? ⟨b, 2, none⟩ = some (.pointer (bs[k + 1]?.map ad)) := by simp [World.cell?, hlk, lkO]
      rw [hbk]
      simp only [Option.map_some, ad]
      clear hlk hlk0 hp hC0 hdr
      have HA := (show Hid _ from hac)
      clear hac
      go_wp2_with fail
      first | refine (partIn_any p _).mono ?_ | refine (partOut_any p _).mono ?_
      rintro e w1 ⟨rfl, k1⟩
      have u0 := (k1.cell (p := ⟨b, 0, none⟩) hltr).trans c0
      have u1 := (k1.cell (p := ⟨b, 1, none⟩) hltr).trans c1
      have u2 := (k1.cell (p := ⟨b, 2, none⟩) hltr).trans c2
      have b1 := hb.trans (k1.mono hb.size)
      have l1 := Nat.lt_of_lt_of_le hltr k1.size
      clear c0 c1 c2 k1 hb
      by_cases hle : sideH true p ≤ m
      · have hac := HA.out
        rw [acr, if_pos hle] at hac
        have HA2 := (show Hid _ from hac)
        clear hac HA
        go_wp2_with fail
        first | refine (partIn_any p _).mono ?_ | refine (partOut_any p _).mono ?_
        rintro e w2 ⟨rfl, k2⟩
        have v0 := (k2.cell (p := ⟨b, 0, none⟩) l1).trans u0
        have v1 := (k2.cell (p := ⟨b, 1, none⟩) l1).trans u1
        have v2 := (k2.cell (p := ⟨b, 2, none⟩) l1).trans u2
        have b2 := b1.trans (k2.mono b1.size)
        have l2 := Nat.lt_of_lt_of_le l1 k2.size
        clear u0 u1 u2 k2
        go_wp2_with fail
        first | refine (partIn_any p _).mono ?_ | refine (partOut_any p _).mono ?_
        rintro e w3 ⟨rfl, k3⟩
        have x2 := (k3.cell (p := ⟨b, 2, none⟩) l2).trans v2
        have b3 := b2.trans (k3.mono b2.size)
        clear v0 v1 v2 k3
        go_wp2
        go_roundw
        case rel =>
          refine ⟨k + 1, m - sideH true p, q + sideH false p, by omega, rfl, rfl, rfl, by omega, by omega, by omega, by omega, ?_, b3⟩
          have := HA2.out
          omega
        case measure => simp [intOf]; omega
      · have hac := HA.out
        rw [acr, if_neg hle] at hac
        have hqe : q = acr (sideH true) (sideH false) ps n := by omega
        go_wp2
        go_ret
        exact ⟨by first | rfl | (rw [hqe]; rfl), b1⟩
    · have hnil : ps.drop k = [] := List.drop_of_length_le (by omega)
      rw [hnil, acr] at hac
      have hqe : q = acr (sideH true) (sideH false) ps n := by omega
      rw [h.end k (by omega)]
      simp only [Option.map_none]
      go_wp2
      go_ret
      exact ⟨by first | rfl | (rw [hqe]; rfl), hb⟩
set_option maxRecDepth 8000 in
set_option maxHeartbeats 4000000 in
theorem across_out (W : World) (C : Nat) (bs : List Nat) (ps : List (Int × ByteArray)) (n : Int) (h : ChainAt W C bs ps) (hs : Small ps) (hn : 0 ≤ n ∧ n ≤ 1000) :
    Calls Tryz.prog 145 #[.pointer (some ⟨C, 0, none⟩), .int .i64 n, .func (.func 146) #[] #[], .func (.func 147) #[] #[]] W fun r W' => r = .returned (.int .i64 (acr (sideH false) (sideH true) ps n)) ∧ Below W.heap.size W W' := by
  have hC0 : W.cell? ⟨C, 0, none⟩ = some (.pointer (bs[0]?.map ad)) := by rw [← head0]; simp [World.cell?, h.blk, chO]
  have hl40 := hs.1
  go_enter Tryz.func145, Tryz.ntmps145
  go_wp2
  go_loopw [1, 9, 10] (fun y t i wr => ∃ (k : Nat) (m q : Int), k ≤ ps.length ∧ y = .int .i64 m ∧ t = .int .i64 q ∧ i = .pointer (bs[k]?.map ad) ∧ 0 ≤ m ∧ m ≤ n ∧ 0 ≤ q ∧ q ≤ 6 * (k : Int) ∧ q + acr (sideH false) (sideH true) (ps.drop k) m = acr (sideH false) (sideH true) ps n ∧ Below W.heap.size W wr) (fun y t i wr => (intOf y).toNat)
  case atStart => exact ⟨0, n, 0, Nat.zero_le _, rfl, rfl, rfl, hn.1, Int.le_refl _, Int.le_refl _, by omega, by simp, Below.refl _ _⟩
  case round =>
    obtain ⟨k, m, q, hk, rfl, rfl, rfl, hm0, hmn, hq0, hq6, hac, hb⟩ := hrel
    by_cases hkl : k < ps.length
    · have hp : ps[k]? = some ps[k] := List.getElem?_eq_getElem hkl
      have hmem : ps[k] ∈ ps := List.getElem_mem hkl
      have hdr : ps.drop k = ps[k] :: ps.drop (k + 1) := List.drop_eq_getElem_cons hkl
      rw [hdr] at hac
      generalize ps[k] = p at hp hac hmem
      obtain ⟨s1, s6⟩ := side_small hs false p hmem
      obtain ⟨t1, t6⟩ := side_small hs true p hmem
      obtain ⟨b, hbk, hlk0⟩ := h.at k p hp
      have hlt : b < W.heap.size := (Array.getElem?_eq_some_iff.1 hlk0).1
      have hlk := (hb.block b hlt).trans hlk0
      have hltr : b < wr.heap.size := Nat.lt_of_lt_of_le hlt hb.size
      have c0 : wr.cell? ⟨b, 0, none⟩ = some (.int .i64 p.1) := by simp [World.cell?, hlk, lkO]
      have c1 : wr.cell? ⟨b, 1, none⟩ = some (.string p.2) := by simp [World.cell?, hlk, lkO]
      have c2 : wr.cell? ⟨b, 2, none⟩ = some (.pointer (bs[k + 1]?.map ad)) := by simp [World.cell?, hlk, lkO]
      rw [hbk]
      simp only [Option.map_some, ad]
      clear hlk hlk0 hp hC0 hdr
      have HA := (show Hid _ from hac)
      clear hac
      go_wp2_with fail
      first | refine (partIn_any p _).mono ?_ | refine (partOut_any p _).mono ?_
      rintro e w1 ⟨rfl, k1⟩
      have u0 := (k1.cell (p := ⟨b, 0, none⟩) hltr).trans c0
      have u1 := (k1.cell (p := ⟨b, 1, none⟩) hltr).trans c1
      have u2 := (k1.cell (p := ⟨b, 2, none⟩) hltr).trans c2
      have b1 := hb.trans (k1.mono hb.size)
      have l1 := Nat.lt_of_lt_of_le hltr k1.size
      clear c0 c1 c2 k1 hb
      by_cases hle : sideH false p ≤ m
      · have hac := HA.out
        rw [acr, if_pos hle] at hac
        have HA2 := (show Hid _ from hac)
        clear hac HA
        go_wp2_with fail
        first | refine (partIn_any p _).mono ?_ | refine (partOut_any p _).mono ?_
        rintro e w2 ⟨rfl, k2⟩
        have v0 := (k2.cell (p := ⟨b, 0, none⟩) l1).trans u0
        have v1 := (k2.cell (p := ⟨b, 1, none⟩) l1).trans u1
        have v2 := (k2.cell (p := ⟨b, 2, none⟩) l1).trans u2
        have b2 := b1.trans (k2.mono b1.size)
        have l2 := Nat.lt_of_lt_of_le l1 k2.size
        clear u0 u1 u2 k2
        go_wp2_with fail
        first | refine (partIn_any p _).mono ?_ | refine (partOut_any p _).mono ?_
        rintro e w3 ⟨rfl, k3⟩
        have x2 := (k3.cell (p := ⟨b, 2, none⟩) l2).trans v2
        have b3 := b2.trans (k3.mono b2.size)
        clear v0 v1 v2 k3
        go_wp2
        go_roundw
        case rel =>
          refine ⟨k + 1, m - sideH false p, q + sideH true p, by omega, rfl, rfl, rfl, by omega, by omega, by omega, by omega, ?_, b3⟩
          have := HA2.out
          omega
        case measure => simp [intOf]; omega
      · have hac := HA.out
        rw [acr, if_neg hle] at hac
        have hqe : q = acr (sideH false) (sideH true) ps n := by omega
        go_wp2
        go_ret
        exact ⟨by first | rfl | (rw [hqe]; rfl), b1⟩
    · have hnil : ps.drop k = [] := List.drop_of_length_le (by omega)
      rw [hnil, acr] at hac
      have hqe : q = acr (sideH false) (sideH true) ps n := by omega
      rw [h.end k (by omega)]
      simp only [Option.map_none]
      go_wp2
      go_ret
      exact ⟨by first | rfl | (rw [hqe]; rfl), hb⟩
end Go.Proofs.YtfmjhbdbgcgoiaaGreatDoor.St

/- Walks: StreamOk, StreamOut, StreamFor, StreamBack of the program. -/
namespace Go.Proofs.YtfmjhbdbgcgoiaaGreatDoor.St
open Go.RowKit Go.Shelf Go.Proofs.YtfmjhbdbgcgoiaaGreatDoor.Kit Go.Proofs.YtfmjhbdbgcgoiaaGreatDoor.Tx Go.Proofs.YtfmjhbdbgcgoiaaGreatDoor.Nm Go.Proofs.YtfmjhbdbgcgoiaaGreatDoor.App
open Go.Proofs.YtfmjhbdbgcgoiaaGreatDoor.Read (Errs)
set_option linter.unusedSimpArgs false
set_option linter.unusedVariables false

/-- parts of an ok stream are few and small -/
theorem stB_small {s : ByteArray} {ps : List (Int × ByteArray)} (h : stB s ps = true) : Small ps := by
  obtain ⟨hok, hlen, hall⟩ := stB_parts.1 h
  have h40 := (ok_parts _ hok).1
  rw [pie_ok _ hok] at hlen hall
  have hpos : ∀ l : List UInt8, (pcs l).length ≤ l.length ∧ ∀ x ∈ pcs l, 1 ≤ x.sz ∧ x.sz ≤ 6 := by
    intro l
    induction hn : l.length using Nat.strongRecOn generalizing l with
    | _ n ih =>
      by_cases ha : l = []
      · subst ha; rw [pcs_nil]; exact ⟨Nat.zero_le _, fun x hx => by cases hx⟩
      · have hl0 : 0 < l.length := List.length_pos_iff.2 ha
        cases q : nameO l with
        | none =>
          rw [pcs_none l ha q]
          obtain ⟨i1, i2⟩ := ih (l.drop 1).length (by rw [List.length_drop]; omega) _ rfl
          rw [List.length_drop] at i1
          refine ⟨by rw [List.length_cons]; omega, fun x hx => ?_⟩
          rcases List.mem_cons.1 hx with rfl | hx
          · exact ⟨Nat.le_refl _, by decide⟩
          · exact i2 x hx
        | some e =>
          rw [pcs_some l e q]
          have hp := nm_pos e
          have hside := ((nameO_some l e).1 q).1
          have hle : (nmL e).length ≤ 6 := by rw [nm_len e hside]; split <;> omega
          obtain ⟨i1, i2⟩ := ih (l.drop (nmL e).length).length (by rw [List.length_drop]; omega) _ rfl
          rw [List.length_drop] at i1
          refine ⟨by rw [List.length_cons]; omega, fun x hx => ?_⟩
          rcases List.mem_cons.1 hx with rfl | hx
          · exact ⟨hp, hle⟩
          · exact i2 x hx
  obtain ⟨p1, p2⟩ := hpos (bd s.data.toList)
  have hb := bd_len s.data.toList
  refine ⟨by omega, fun p hp => ?_⟩
  obtain ⟨i, hi, e⟩ := List.getElem_of_mem hp
  have hx : (pcs (bd s.data.toList))[i]? = some ((pcs (bd s.data.toList))[i]'(by omega)) := List.getElem?_eq_getElem _
  have hp' : ps[i]? = some p := by rw [List.getElem?_eq_getElem hi, e]
  have hb := hall i _ p hx hp'
  have hz := p2 _ (List.mem_of_getElem? hx)
  generalize (pcs (bd s.data.toList))[i]'(by omega) = x at hx hb hz
  unfold partB at hb
  simp only [Bool.and_eq_true, decide_eq_true_eq, Bool.not_eq_true'] at hb
  obtain ⟨⟨⟨b1, b2⟩, b3⟩, b4⟩ := hb
  refine ⟨by omega, ?_, b3⟩
  rcases Nat.eq_zero_or_pos p.2.size with h0 | h0
  · exfalso
    have : p.2 = ByteArray.empty := by
      apply ByteArray.ext
      exact Array.eq_empty_of_size_eq_zero h0
    rw [this] at b2
    simp at b2
  · exact h0
theorem txW_small {ps : List (Int × ByteArray)} (h : Small ps) : (txW ps).size ≤ 6 * ps.length := by
  have key : ∀ (qs : List (Int × ByteArray)) (a : ByteArray), (∀ p ∈ qs, p.2.size ≤ 6) → (qs.foldl (fun a p => a ++ p.2) a).size ≤ a.size + 6 * qs.length := by
    intro qs
    induction qs with
    | nil => intro a _; simp
    | cons q qs ih =>
      intro a hq
      have h1 := hq q (by simp)
      have h2 := ih (a ++ q.2) (fun p hp => hq p (by simp [hp]))
      rw [List.foldl_cons, List.length_cons]
      rw [ByteArray.size_append] at h2
      omega
  have := key ps ByteArray.empty (fun p hp => (h.2 p hp).2.2)
  have e : ByteArray.empty.size = 0 := rfl
  unfold txW; omega

set_option maxRecDepth 8000 in
set_option maxHeartbeats 4000000 in
theorem ok_stream (s : ByteArray) (v : Value) (ps : List (Int × ByteArray)) (w : World) (hT : IsT w v ps) (herr : Errs w) :
    Calls Tryz.prog 98 #[.agg #[.string s, v]] w fun e W' => e = .returned (.bool (stB s ps)) ∧ Below w.heap.size w W' := by
  have bA : Below w.heap.size w (w.alloc (.cells #[.string s, v] 54)) := (Below.refl _ _).alloc (Nat.le_refl _) _
  have hT1 := hT.below bA
  obtain ⟨a, cap, rfl, _⟩ := hT
  go_enter Tryz.func98, Tryz.ntmps98
  go_wp2_with fail
  refine (read_any s _ ps _ hT1 (herr.below bA)).mono ?_
  rintro e w1 ⟨k1, ⟨hst, rfl⟩ | ⟨hst, C, bs, hch, hC, hbs, rfl⟩⟩
  · have b1 := bA.trans (k1.mono (by simp))
    simp only [chV]
    go_wp2
    go_ret
    exact ⟨by first | rfl | (rw [hst]; rfl), b1.alloc b1.size _⟩
  · have b1 := bA.trans (k1.mono (by simp))
    simp only [chV]
    go_wp2
    go_ret
    exact ⟨by first | rfl | (rw [hst]; rfl), b1.alloc b1.size _⟩
/-- what StreamOut answers -/
noncomputable def outB (s : ByteArray) (ps : List (Int × ByteArray)) : ByteArray := if stB s ps = true then txW ps else ByteArray.empty
theorem outB_no {s : ByteArray} {ps : List (Int × ByteArray)} (h : stB s ps = false) : outB s ps = ByteArray.empty := if_neg (by rw [h]; exact Bool.false_ne_true)
theorem outB_ok {s : ByteArray} {ps : List (Int × ByteArray)} (h : stB s ps = true) : outB s ps = txW ps := if_pos h
set_option maxRecDepth 8000 in
set_option maxHeartbeats 4000000 in
theorem out_stream (s : ByteArray) (v : Value) (ps : List (Int × ByteArray)) (w : World) (hT : IsT w v ps) (herr : Errs w) :
    Calls Tryz.prog 144 #[.agg #[.string s, v]] w fun e W' => e = .returned (.string (outB s ps)) ∧ Below w.heap.size w W' := by
  have bA : Below w.heap.size w (w.alloc (.cells #[.string s, v] 54)) := (Below.refl _ _).alloc (Nat.le_refl _) _
  have hT1 := hT.below bA
  obtain ⟨a, cap, rfl, _⟩ := hT
  go_enter Tryz.func144, Tryz.ntmps144
  go_wp2_with fail
  refine (read_any s _ ps _ hT1 (herr.below bA)).mono ?_
  rintro e w1 ⟨k1, ⟨hst, rfl⟩ | ⟨hst, C, bs, hch, hC, hbs, rfl⟩⟩
  · have b1 := bA.trans (k1.mono (by simp))
    simp only [chV]
    go_wp2
    go_ret
    exact ⟨by rw [outB_no hst]; rfl, b1.alloc b1.size _⟩
  · have b1 := bA.trans (k1.mono (by simp))
    simp only [chV]
    go_wp2
    go_ret
    exact ⟨by rw [outB_ok hst]; rfl, b1.alloc b1.size _⟩
/-- what StreamFor and StreamBack answer -/
noncomputable def forZ (s : ByteArray) (ps : List (Int × ByteArray)) (n : Int) : Int := if stB s ps = true ∧ 0 ≤ n ∧ n ≤ (s.size : Int) then acr (sideH true) (sideH false) ps n else -1
noncomputable def backZ (s : ByteArray) (ps : List (Int × ByteArray)) (n : Int) : Int := if stB s ps = true ∧ 0 ≤ n ∧ n ≤ ((txW ps).size : Int) then acr (sideH false) (sideH true) ps n else -1
set_option maxRecDepth 8000 in
set_option maxHeartbeats 4000000 in
theorem for_stream (s : ByteArray) (v : Value) (ps : List (Int × ByteArray)) (n : Int) (w : World) (hT : IsT w v ps) (herr : Errs w) :
    Calls Tryz.prog 143 #[.agg #[.string s, v], .int .i64 n] w fun e W' => e = .returned (.int .i64 (forZ s ps n)) ∧ Below w.heap.size w W' := by
  have bA : Below w.heap.size w (w.alloc (.cells #[.string s, v] 54)) := (Below.refl _ _).alloc (Nat.le_refl _) _
  have hT1 := hT.below bA
  obtain ⟨a, cap, rfl, _⟩ := hT
  go_enter Tryz.func143, Tryz.ntmps143
  go_wp2_with fail
  refine (read_any s _ ps _ hT1 (herr.below bA)).mono ?_
  rintro e w1 ⟨k1, ⟨hst, rfl⟩ | ⟨hst, C, bs, hch, hC, hbs, rfl⟩⟩
  · have b1 := bA.trans (k1.mono (by simp))
    have hz : forZ s ps n = -1 := if_neg (fun h => by rw [hst] at h; exact Bool.false_ne_true h.1)
    simp only [chV]
    go_wp2
    go_ret
    exact ⟨by first | rfl | (rw [hz]; rfl), b1.alloc b1.size _⟩
  · have b1 := bA.trans (k1.mono (by simp))
    have c1 := keepc k1 w.heap.size (by simp)
    have e0 : w1.cell? ⟨w.heap.size, 0, none⟩ = some (.string s) := by rw [c1 0]; simp [go_sem]
    have z1 := k1.size
    simp at z1
    have hl1 : w.heap.size < w1.heap.size := by omega
    have hok := (stB_parts.1 hst).1
    have h40 := (ok_parts _ hok).1
    rw [lenL] at h40
    clear c1 k1
    simp only [chV]
    by_cases h0 : n < 0
    · have hz : forZ s ps n = -1 := if_neg (fun h => by omega)
      go_wp2
      go_ret
      exact ⟨by first | rfl | (rw [hz]; rfl), b1.alloc b1.size _⟩
    · by_cases h2 : (s.size : Int) < n
      · have hz : forZ s ps n = -1 := if_neg (fun h => by omega)
        go_wp2
        go_ret
        exact ⟨by first | rfl | (rw [hz]; rfl), b1.alloc b1.size _⟩
      · have hz : forZ s ps n = acr (sideH true) (sideH false) ps n := if_pos ⟨hst, by omega, by omega⟩
        have hch2 : ChainAt (w1.alloc (chO (bs.head?.map ad) (bs.getLast?.map ad) (ps.length : Nat) (szW ps) (txW ps))) w1.heap.size bs ps :=
          hch.move (World.alloc_heap_new _ _) (fun b hb => Below.heap_alloc _ _ _ (by have := hch.mem b (.inr hb); omega)) (fun b hb => by have := hch.mem b (.inr hb); omega)
        unfold chO at hch2
        go_wp2_with fail
        refine (across_in _ w1.heap.size bs ps n hch2 (stB_small hst) ⟨by omega, by omega⟩).mono ?_
        rintro e w2 ⟨rfl, k2⟩
        go_wp2
        go_ret
        exact ⟨by first | rfl | (rw [hz]; rfl), (b1.alloc b1.size _).trans (k2.mono (by simp; omega))⟩
set_option maxRecDepth 8000 in
set_option maxHeartbeats 4000000 in
theorem back_stream (s : ByteArray) (v : Value) (ps : List (Int × ByteArray)) (n : Int) (w : World) (hT : IsT w v ps) (herr : Errs w) :
    Calls Tryz.prog 128 #[.agg #[.string s, v], .int .i64 n] w fun e W' => e = .returned (.int .i64 (backZ s ps n)) ∧ Below w.heap.size w W' := by
  have bA : Below w.heap.size w (w.alloc (.cells #[.string s, v] 54)) := (Below.refl _ _).alloc (Nat.le_refl _) _
  have hT1 := hT.below bA
  obtain ⟨a, cap, rfl, _⟩ := hT
  go_enter Tryz.func128, Tryz.ntmps128
  go_wp2_with fail
  refine (read_any s _ ps _ hT1 (herr.below bA)).mono ?_
  rintro e w1 ⟨k1, ⟨hst, rfl⟩ | ⟨hst, C, bs, hch, hC, hbs, rfl⟩⟩
  · have b1 := bA.trans (k1.mono (by simp))
    have hz : backZ s ps n = -1 := if_neg (fun h => by rw [hst] at h; exact Bool.false_ne_true h.1)
    simp only [chV]
    go_wp2
    go_ret
    exact ⟨by first | rfl | (rw [hz]; rfl), b1.alloc b1.size _⟩
  · have b1 := bA.trans (k1.mono (by simp))
    have z1 := k1.size
    simp at z1
    have hsm := stB_small hst
    have htx := txW_small hsm
    have hl40 := hsm.1
    clear k1
    simp only [chV]
    by_cases h0 : n < 0
    · have hz : backZ s ps n = -1 := if_neg (fun h => by omega)
      go_wp2
      go_ret
      exact ⟨by first | rfl | (rw [hz]; rfl), b1.alloc b1.size _⟩
    · by_cases h2 : ((txW ps).size : Int) < n
      · have hz : backZ s ps n = -1 := if_neg (fun h => by omega)
        go_wp2
        go_ret
        exact ⟨by first | rfl | (rw [hz]; rfl), b1.alloc b1.size _⟩
      · have hz : backZ s ps n = acr (sideH false) (sideH true) ps n := if_pos ⟨hst, by omega, by omega⟩
        have hch2 : ChainAt (w1.alloc (chO (bs.head?.map ad) (bs.getLast?.map ad) (ps.length : Nat) (szW ps) (txW ps))) w1.heap.size bs ps :=
          hch.move (World.alloc_heap_new _ _) (fun b hb => Below.heap_alloc _ _ _ (by have := hch.mem b (.inr hb); omega)) (fun b hb => by have := hch.mem b (.inr hb); omega)
        unfold chO at hch2
        go_wp2_with fail
        refine (across_out _ w1.heap.size bs ps n hch2 hsm ⟨by omega, by omega⟩).mono ?_
        rintro e w2 ⟨rfl, k2⟩
        go_wp2
        go_ret
        exact ⟨by first | rfl | (rw [hz]; rfl), (b1.alloc b1.size _).trans (k2.mono (by simp; omega))⟩
end Go.Proofs.YtfmjhbdbgcgoiaaGreatDoor.St

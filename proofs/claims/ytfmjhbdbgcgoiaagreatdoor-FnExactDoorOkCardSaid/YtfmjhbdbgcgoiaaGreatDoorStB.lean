/- Walks: a part more behind a chain. -/
import Derived.Test.YtfmjhbdbgcgoiaaGreatDoorStA
namespace Go.Proofs.YtfmjhbdbgcgoiaaGreatDoor.St
open Go.RowKit Go.Shelf Go.Proofs.YtfmjhbdbgcgoiaaGreatDoor.Kit Go.Proofs.YtfmjhbdbgcgoiaaGreatDoor.Tx Go.Proofs.YtfmjhbdbgcgoiaaGreatDoor.Nm Go.Proofs.YtfmjhbdbgcgoiaaGreatDoor.App
set_option linter.unusedSimpArgs false
set_option linter.unusedVariables false

theorem setCell_obj {W : World} {b off : Nat} {cs : Array Value} {t : TypeId} {f : Nat × Nat} (h : W.heap[b]? = some (.cells cs t f)) (v : Value) : (W.setCell ⟨b, off, none⟩ v).heap[b]? = some (.cells (cs.setIfInBounds off v) t f) := by
  obtain ⟨hlt, hk⟩ := Array.getElem?_eq_some_iff.1 h
  show (W.heap.modify b _)[b]? = _
  rw [Array.getElem?_eq_getElem (by rw [Array.size_modify]; exact hlt), Array.getElem_modify_self, hk]
  rfl
/-- a chain, as it lies in its block -/
def chO (first last : Option Addr) (many size : Int) (text : ByteArray) : Obj := .cells #[.pointer first, .pointer last, .int .i64 many, .int .i64 size, .string text] 168 (0, 0)
/-- a link, as it lies in its block -/
def lkO (p : Int × ByteArray) (next : Option Addr) : Obj := .cells #[.int .i64 p.1, .string p.2, .pointer next] 205 (0, 0)

/-- two blocks come -/
theorem after {W w : World} (hs : W.heap.size = w.heap.size) (o1 o2 : Obj) :
    (((W.alloc o1).alloc o2).drew.drew).heap[w.heap.size + 1]? = some o2 ∧ (((W.alloc o1).alloc o2).drew.drew).heap.size = w.heap.size + 2 ∧ ∀ k, k < w.heap.size → (((W.alloc o1).alloc o2).drew.drew).heap[k]? = W.heap[k]? := by
  refine ⟨?_, ?_, fun k hk => ?_⟩
  · have := World.alloc_heap_new (W.alloc o1) o2
    rw [World.size_alloc, hs] at this
    exact this
  · show ((W.alloc o1).alloc o2).heap.size = _
    rw [World.size_alloc, World.size_alloc, hs]
  · exact (Below.heap_alloc _ _ _ (by rw [World.size_alloc]; omega)).trans (Below.heap_alloc _ _ _ (by omega))
theorem set_size (w : World) (p : Addr) (v : Value) : (w.setCell p v).heap.size = w.heap.size := by simp [World.setCell]
theorem set_os (w : World) (p : Addr) (v : Value) : (w.setCell p v).os = w.os ∧ (w.setCell p v).tape = w.tape ∧ (w.setCell p v).output = w.output := by simp [World.setCell]
theorem out_os (w : World) (o1 o2 : Obj) : (((w.alloc o1).alloc o2).drew.drew).os = w.os ∧ (((w.alloc o1).alloc o2).drew.drew).tape = w.tape ∧ (((w.alloc o1).alloc o2).drew.drew).output = w.output := ⟨rfl, rfl, rfl⟩
theorem os_trans {A B C : World} (h : A.os = B.os ∧ A.tape = B.tape ∧ A.output = B.output) (k : B.os = C.os ∧ B.tape = C.tape ∧ B.output = C.output) : A.os = C.os ∧ A.tape = C.tape ∧ A.output = C.output := ⟨h.1.trans k.1, h.2.1.trans k.2.1, h.2.2.trans k.2.2⟩
theorem arr4 (a0 a1 a2 a3 a4 v1 v2 v3 v4 : Value) : ((((#[a0, a1, a2, a3, a4] : Array Value).setIfInBounds 1 v1).setIfInBounds 2 v2).setIfInBounds 3 v3).setIfInBounds 4 v4 = #[a0, v1, v2, v3, v4] := by simp
theorem arr0 (a0 a1 a2 a3 a4 v0 : Value) : (#[a0, a1, a2, a3, a4] : Array Value).setIfInBounds 0 v0 = #[v0, a1, a2, a3, a4] := by simp
theorem arrL (a0 a1 a2 v : Value) : (#[a0, a1, a2] : Array Value).setIfInBounds 2 v = #[a0, a1, v] := by simp
/-- four cells of a block are stored -/
theorem four {w : World} {C : Nat} {a0 a1 a2 a3 a4 : Value} {t : TypeId} (hC : w.heap[C]? = some (.cells #[a0, a1, a2, a3, a4] t (0, 0))) (v1 v2 v3 v4 : Value) :
    ((((w.setCell ⟨C, 1, none⟩ v1).setCell ⟨C, 2, none⟩ v2).setCell ⟨C, 3, none⟩ v3).setCell ⟨C, 4, none⟩ v4).heap[C]? = some (.cells #[a0, v1, v2, v3, v4] t (0, 0)) ∧
    ((((w.setCell ⟨C, 1, none⟩ v1).setCell ⟨C, 2, none⟩ v2).setCell ⟨C, 3, none⟩ v3).setCell ⟨C, 4, none⟩ v4).heap.size = w.heap.size ∧
    ∀ k, k ≠ C → ((((w.setCell ⟨C, 1, none⟩ v1).setCell ⟨C, 2, none⟩ v2).setCell ⟨C, 3, none⟩ v3).setCell ⟨C, 4, none⟩ v4).heap[k]? = w.heap[k]? := by
  refine ⟨?_, ?_, fun k hk => ?_⟩
  · rw [setCell_obj (setCell_obj (setCell_obj (setCell_obj hC v1) v2) v3) v4, arr4]
  · rw [set_size, set_size, set_size, set_size]
  · exact (Below.heap_setCell _ _ _ _ hk).trans ((Below.heap_setCell _ _ _ _ hk).trans ((Below.heap_setCell _ _ _ _ hk).trans (Below.heap_setCell _ _ _ _ hk)))

set_option maxRecDepth 8000 in
set_option maxHeartbeats 8000000 in
theorem add_first (C : Nat) (many size : Int) (text : ByteArray) (p : Int × ByteArray) (w : World) (hC : w.heap[C]? = some (chO none none many size text)) (hm : 0 ≤ many ∧ many ≤ 1000) (ht : text.size ≤ 100000) (hT : p.2.size ≤ 100000) :
    Calls Tryz.prog 138 #[.pointer (some ⟨C, 0, none⟩), ptV p] w fun e w' => (∃ v, e = .returned v) ∧ w'.heap[C]? = some (chO (some ⟨w.heap.size + 1, 0, none⟩) (some ⟨w.heap.size + 1, 0, none⟩) (many + 1) (wrap64 (size + p.1)) (text ++ p.2)) ∧
      w'.heap[w.heap.size + 1]? = some (lkO p none) ∧ w'.heap.size = w.heap.size + 2 ∧ w'.os = w.os ∧ w'.tape = w.tape ∧ w'.output = w.output ∧ ∀ k, k < w.heap.size → k ≠ C → w'.heap[k]? = w.heap[k]? := by
  obtain ⟨n, T⟩ := p
  have hlt : C < w.heap.size := (Array.getElem?_eq_some_iff.1 hC).1
  have c0 : w.cell? ⟨C, 0, none⟩ = some (.pointer none) := by simp [World.cell?, hC, chO]
  have c1 : w.cell? ⟨C, 1, none⟩ = some (.pointer none) := by simp [World.cell?, hC, chO]
  have c2 : w.cell? ⟨C, 2, none⟩ = some (.int .i64 many) := by simp [World.cell?, hC, chO]
  have c3 : w.cell? ⟨C, 3, none⟩ = some (.int .i64 size) := by simp [World.cell?, hC, chO]
  have c4 : w.cell? ⟨C, 4, none⟩ = some (.string text) := by simp [World.cell?, hC, chO]
  have f0 : w.frozen? ⟨C, 0, none⟩ = false := by simp [World.frozen?, hC, chO]
  have f1 : w.frozen? ⟨C, 1, none⟩ = false := by simp [World.frozen?, hC, chO]
  have f2 : w.frozen? ⟨C, 2, none⟩ = false := by simp [World.frozen?, hC, chO]
  have f3 : w.frozen? ⟨C, 3, none⟩ = false := by simp [World.frozen?, hC, chO]
  have f4 : w.frozen? ⟨C, 4, none⟩ = false := by simp [World.frozen?, hC, chO]
  simp only at hT
  have HC := (show Hid _ from hC)
  clear hC
  go_enter Tryz.func138, Tryz.ntmps138
  simp only [ptV]
  go_wp2_with fail
  go_region
  all_goals go_wp2_with fail
  all_goals go_region
  all_goals go_wp2
  go_end0
  have u1 : (w.setCell ⟨C, 0, none⟩ (.pointer (some ⟨w.heap.size + 1, 0, none⟩))).heap[C]? = some (.cells #[.pointer (some ⟨w.heap.size + 1, 0, none⟩), .pointer none, .int .i64 many, .int .i64 size, .string text] 168 (0, 0)) := by
    rw [setCell_obj HC.out, arr0]
  obtain ⟨s1, s2, s3⟩ := four u1 (.pointer (some ⟨w.heap.size + 1, 0, none⟩)) (.int .i64 (many + 1)) (.int .i64 (wrap64 (size + n))) (.string (text ++ T))
  obtain ⟨t1, t2, t3⟩ := after (s2.trans (set_size _ _ _)) (.cells #[.int .i64 n, .string T] 88) (.cells #[.int .i64 n, .string T, .pointer none] 205)
  obtain ⟨e1, e2, e3⟩ := os_trans (out_os _ _ _) (os_trans (set_os _ _ _) (os_trans (set_os _ _ _) (os_trans (set_os _ _ _) (os_trans (set_os _ _ _) (set_os w _ _)))))
  exact ⟨⟨_, rfl⟩, (t3 C hlt).trans s1, t1, t2, e1, e2, e3, fun k hk hne => (t3 k hk).trans ((s3 k hne).trans (Below.heap_setCell _ _ _ _ hne))⟩

set_option maxRecDepth 8000 in
set_option maxHeartbeats 8000000 in
theorem add_next (C B : Nat) (many size : Int) (text : ByteArray) (p q : Int × ByteArray) (fa : Addr) (w : World) (hC : w.heap[C]? = some (chO (some fa) (some ⟨B, 0, none⟩) many size text)) (hB : w.heap[B]? = some (lkO q none)) (hBC : B ≠ C) (hm : 0 ≤ many ∧ many ≤ 1000) (ht : text.size ≤ 100000) (hT : p.2.size ≤ 100000) :
    Calls Tryz.prog 138 #[.pointer (some ⟨C, 0, none⟩), ptV p] w fun e w' => (∃ v, e = .returned v) ∧ w'.heap[C]? = some (chO (some fa) (some ⟨w.heap.size + 1, 0, none⟩) (many + 1) (wrap64 (size + p.1)) (text ++ p.2)) ∧
      w'.heap[w.heap.size + 1]? = some (lkO p none) ∧ w'.heap[B]? = some (lkO q (some ⟨w.heap.size + 1, 0, none⟩)) ∧ w'.heap.size = w.heap.size + 2 ∧ w'.os = w.os ∧ w'.tape = w.tape ∧ w'.output = w.output ∧ ∀ k, k < w.heap.size → k ≠ C → k ≠ B → w'.heap[k]? = w.heap[k]? := by
  obtain ⟨n, T⟩ := p
  have hlt : C < w.heap.size := (Array.getElem?_eq_some_iff.1 hC).1
  have c0 : w.cell? ⟨C, 0, none⟩ = some (.pointer (some fa)) := by simp [World.cell?, hC, chO]
  have c1 : w.cell? ⟨C, 1, none⟩ = some (.pointer (some ⟨B, 0, none⟩)) := by simp [World.cell?, hC, chO]
  have c2 : w.cell? ⟨C, 2, none⟩ = some (.int .i64 many) := by simp [World.cell?, hC, chO]
  have c3 : w.cell? ⟨C, 3, none⟩ = some (.int .i64 size) := by simp [World.cell?, hC, chO]
  have c4 : w.cell? ⟨C, 4, none⟩ = some (.string text) := by simp [World.cell?, hC, chO]
  have f0 : w.frozen? ⟨C, 0, none⟩ = false := by simp [World.frozen?, hC, chO]
  have f1 : w.frozen? ⟨C, 1, none⟩ = false := by simp [World.frozen?, hC, chO]
  have f2 : w.frozen? ⟨C, 2, none⟩ = false := by simp [World.frozen?, hC, chO]
  have f3 : w.frozen? ⟨C, 3, none⟩ = false := by simp [World.frozen?, hC, chO]
  have f4 : w.frozen? ⟨C, 4, none⟩ = false := by simp [World.frozen?, hC, chO]
  have d2 : w.cell? ⟨B, 2, none⟩ = some (.pointer none) := by simp [World.cell?, hB, lkO]
  have g2 : w.frozen? ⟨B, 2, none⟩ = false := by simp [World.frozen?, hB, lkO]
  have HB := (show Hid _ from hB)
  have hCB : ¬ C = B := fun e => hBC e.symm
  have hBC' : ¬ B = C := hBC
  have hltB : B < w.heap.size := (Array.getElem?_eq_some_iff.1 hB).1
  clear hB
  simp only at hT
  have HC := (show Hid _ from hC)
  clear hC
  go_enter Tryz.func138, Tryz.ntmps138
  simp only [ptV]
  go_wp2_with fail
  go_region
  all_goals go_wp2_with fail
  all_goals go_region
  all_goals go_wp2
  go_end0
  have u0 : (w.setCell ⟨B, 2, none⟩ (.pointer (some ⟨w.heap.size + 1, 0, none⟩))).heap[B]? = some (.cells #[.int .i64 q.1, .string q.2, .pointer (some ⟨w.heap.size + 1, 0, none⟩)] 205 (0, 0)) := by
    rw [setCell_obj HB.out, arrL]
  have u1 : (w.setCell ⟨B, 2, none⟩ (.pointer (some ⟨w.heap.size + 1, 0, none⟩))).heap[C]? = some (.cells #[.pointer (some fa), .pointer (some ⟨B, 0, none⟩), .int .i64 many, .int .i64 size, .string text] 168 (0, 0)) :=
    (Below.heap_setCell _ _ _ _ hCB).trans HC.out
  obtain ⟨s1, s2, s3⟩ := four u1 (.pointer (some ⟨w.heap.size + 1, 0, none⟩)) (.int .i64 (many + 1)) (.int .i64 (wrap64 (size + n))) (.string (text ++ T))
  obtain ⟨t1, t2, t3⟩ := after (s2.trans (set_size _ _ _)) (.cells #[.int .i64 n, .string T] 88) (.cells #[.int .i64 n, .string T, .pointer none] 205)
  obtain ⟨e1, e2, e3⟩ := os_trans (out_os _ _ _) (os_trans (set_os _ _ _) (os_trans (set_os _ _ _) (os_trans (set_os _ _ _) (os_trans (set_os _ _ _) (set_os w _ _)))))
  exact ⟨⟨_, rfl⟩, (t3 C hlt).trans s1, t1, (t3 B hltB).trans ((s3 B hBC).trans u0), t2, e1, e2, e3, fun k hk hne hnb => (t3 k hk).trans ((s3 k hne).trans (Below.heap_setCell _ _ _ _ hnb))⟩
end Go.Proofs.YtfmjhbdbgcgoiaaGreatDoor.St

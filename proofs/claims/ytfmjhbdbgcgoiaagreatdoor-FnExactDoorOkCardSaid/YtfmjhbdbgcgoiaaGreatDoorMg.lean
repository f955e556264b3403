/- Walks: the program's pairs: a port is given, asked for, and all are listed; pairs are read. -/
import Derived.Test.YtfmjhbdbgcgoiaaGreatDoorMjMk
import Derived.Laws.OwnMore
import Derived.OwnWalk
import Derived.Maps.AppendAt
namespace Go.Proofs.YtfmjhbdbgcgoiaaGreatDoor.Mg
open Go.RowKit Go.Proofs.YtfmjhbdbgcgoiaaGreatDoor.Kit Go.Proofs.YtfmjhbdbgcgoiaaGreatDoor.Mp Go.Proofs.YtfmjhbdbgcgoiaaGreatDoor.Mj Go.Proofs.YtfmjhbdbgcgoiaaGreatDoor.Mk
open Go.Proofs.YtfmjhbdbgcgoiaaGreatDoor.EndW (endV sideZ isB impl1)
open Go.ChangeMaps (setBlock)
set_option linter.unusedSimpArgs false
set_option linter.unusedVariables false

theorem But2.one {bt bb : Nat} {x y z : World} (h : Below x.heap.size x y) (k : But2 bt bb y z) : But2 bt bb x z := (But2.ofBelow h).trans k

set_option maxRecDepth 8000 in
set_option maxHeartbeats 4000000 in
theorem give_full (W : World) (bt bb : Nat) (es : List (Int × Int)) (h : Two W bt bb es) (hg : GoodE es) (hl : 8 ≤ es.length) (e : Int × Int) :
    Calls Tryz.prog 118 #[prtV bt bb, endV e.1 e.2] W fun r W' => r = .returned (.tuple #[.int .i64 0, .bool false]) ∧ Below W.heap.size W W' := by
  have hle := hg.len
  have hd : (17 : Int) < 10 + (es.length : Int) := by omega
  go_enter Tryz.func118, Tryz.ntmps118
  go_wp2_with fail
  refine (next_any _ bt bb es (h.below (((Below.refl _ _).alloc (Nat.le_refl _) _).alloc (by simp) _)) hle).mono ?_
  rintro r w1 ⟨rfl, k1⟩
  have b1 : Below W.heap.size W w1 := (((Below.refl _ _).alloc (Nat.le_refl _) _).alloc (by simp) _).trans (k1.mono (by simp; omega))
  go_wp2
  go_ret2
  exact ⟨rfl, b1⟩

set_option maxRecDepth 8000 in
set_option maxHeartbeats 4000000 in
theorem give_out (W : World) (bt bb : Nat) (es : List (Int × Int)) (h : Two W bt bb es) (hg : GoodE es) (hl : es.length < 8) (e : Int × Int) (hi : inB e = false) :
    Calls Tryz.prog 118 #[prtV bt bb, endV e.1 e.2] W fun r W' => r = .returned (.tuple #[.int .i64 0, .bool false]) ∧ Below W.heap.size W W' := by
  have hle := hg.len
  have hd : 10 + (es.length : Int) ≤ 17 := by omega
  go_enter Tryz.func118, Tryz.ntmps118
  go_wp2_with fail
  refine (next_any _ bt bb es (h.below (((Below.refl _ _).alloc (Nat.le_refl _) _).alloc (by simp) _)) hle).mono ?_
  rintro r w1 ⟨rfl, k1⟩
  have b1 : Below W.heap.size W w1 := (((Below.refl _ _).alloc (Nat.le_refl _) _).alloc (by simp) _).trans (k1.mono (by simp; omega))
  have z1 := k1.size
  have c1 := keepc k1 (W.heap.size + 1) (by simp)
  simp at z1
  go_wp2_with fail
  refine (impl1 e.1 e.2 _).mono ?_
  rintro r w2 ⟨rfl, k2⟩
  rw [isB_inB, hi]
  have b2 : Below W.heap.size W w2 := b1.trans (k2.mono (by omega))
  go_wp2
  go_ret2
  exact ⟨rfl, b2⟩

set_option maxRecDepth 8000 in
set_option maxHeartbeats 4000000 in
theorem give_has (W : World) (bt bb : Nat) (es : List (Int × Int)) (h : Two W bt bb es) (hg : GoodE es) (hl : es.length < 8) (e : Int × Int) (hi : inB e = true) (hn : e ∈ es) :
    Calls Tryz.prog 118 #[prtV bt bb, endV e.1 e.2] W fun r W' => r = .returned (.tuple #[.int .i64 0, .bool false]) ∧ Below W.heap.size W W' := by
  have hle := hg.len
  have hd : 10 + (es.length : Int) ≤ 17 := by omega
  go_enter Tryz.func118, Tryz.ntmps118
  go_wp2_with fail
  refine (next_any _ bt bb es (h.below (((Below.refl _ _).alloc (Nat.le_refl _) _).alloc (by simp) _)) hle).mono ?_
  rintro r w1 ⟨rfl, k1⟩
  have b1 : Below W.heap.size W w1 := (((Below.refl _ _).alloc (Nat.le_refl _) _).alloc (by simp) _).trans (k1.mono (by simp; omega))
  have z1 := k1.size
  have c1 := keepc k1 (W.heap.size + 1) (by simp)
  have d1 := keepc k1 W.heap.size (by simp; omega)
  simp at z1
  go_wp2_with fail
  refine (impl1 e.1 e.2 _).mono ?_
  rintro r w2 ⟨rfl, k2⟩
  rw [isB_inB, hi]
  have b2 : Below W.heap.size W w2 := b1.trans (k2.mono (by omega))
  have c2 := keepc k2 (W.heap.size + 1) (by omega)
  have d2 := keepc k2 W.heap.size (by omega)
  go_wp2_with fail
  refine (join_no _ bt bb es (h.below b2) hg hl e hi hn).mono ?_
  rintro r w3 ⟨rfl, k3⟩
  have b3 : Below W.heap.size W w3 := b2.trans (k3.mono b2.size)
  go_wp2
  go_ret2
  exact ⟨rfl, b3⟩

set_option maxRecDepth 8000 in
set_option maxHeartbeats 4000000 in
theorem give_new (W : World) (bt bb : Nat) (es : List (Int × Int)) (h : Two W bt bb es) (hg : GoodE es) (hl : es.length < 8) (e : Int × Int) (hi : inB e = true) (hn : e ∉ es) :
    Calls Tryz.prog 118 #[prtV bt bb, endV e.1 e.2] W fun r W' => r = .returned (.tuple #[.int .i64 (10 + (es.length : Int)), .bool true]) ∧ Two W' bt bb (es ++ [e]) ∧ But2 bt bb W W' := by
  have hle := hg.len
  have hd : 10 + (es.length : Int) ≤ 17 := by omega
  go_enter Tryz.func118, Tryz.ntmps118
  go_wp2_with fail
  refine (next_any _ bt bb es (h.below (((Below.refl _ _).alloc (Nat.le_refl _) _).alloc (by simp) _)) hle).mono ?_
  rintro r w1 ⟨rfl, k1⟩
  have b1 : Below W.heap.size W w1 := (((Below.refl _ _).alloc (Nat.le_refl _) _).alloc (by simp) _).trans (k1.mono (by simp; omega))
  have z1 := k1.size
  have c1 := keepc k1 (W.heap.size + 1) (by simp)
  have d1 := keepc k1 W.heap.size (by simp; omega)
  simp at z1
  go_wp2_with fail
  refine (impl1 e.1 e.2 _).mono ?_
  rintro r w2 ⟨rfl, k2⟩
  rw [isB_inB, hi]
  have b2 : Below W.heap.size W w2 := b1.trans (k2.mono (by omega))
  have c2 := keepc k2 (W.heap.size + 1) (by omega)
  have d2 := keepc k2 W.heap.size (by omega)
  go_wp2_with fail
  refine (join_yes _ bt bb es (h.below b2) hg hl e hi hn).mono ?_
  rintro r w3 ⟨rfl, t3, k3⟩
  go_wp2
  go_ret2
  exact ⟨rfl, t3, But2.one b2 k3⟩

set_option maxRecDepth 8000 in
set_option maxHeartbeats 4000000 in
theorem port_has (W : World) (bt bb : Nat) (es : List (Int × Int)) (h : Two W bt bb es) (hg : GoodE es) (e : Int × Int) (hi : inB e = true) (hn : e ∈ es) :
    Calls Tryz.prog 108 #[prtV bt bb, endV e.1 e.2] W fun r W' => r = .returned (.tuple #[.int .i64 (10 + (es.idxOf e : Int)), .bool true]) ∧ Below W.heap.size W W' := by
  have L : ∀ w, Below W.heap.size W w → (Instr.lookup 134 (.map (some bb)) (endV e.1 e.2) true).run Tryz.prog w = .ok (.tuple #[.int .i64 (10 + (es.idxOf e : Int)), .bool true]) w := fun w hb => look_bk_yes w bt bb es (h.below hb) hg e hi hn
  go_enter Tryz.func108, Tryz.ntmps108
  go_wp2_with (at_lookup; refine wpList_lookup_is _ rfl _ _ _ _ rfl _ _ _ rfl rfl (L _ (((Below.refl _ _).alloc (Nat.le_refl _) _).alloc (by simp) _)) ?_)
  go_ret2
  exact ⟨rfl, ((Below.refl _ _).alloc (Nat.le_refl _) _).alloc (by simp) _⟩

set_option maxRecDepth 8000 in
set_option maxHeartbeats 4000000 in
/-- an end inside asks for its port -/
theorem port_any (W : World) (bt bb : Nat) (es : List (Int × Int)) (h : Two W bt bb es) (hg : GoodE es) (e : Int × Int) (hi : inB e = true) :
    Calls Tryz.prog 108 #[prtV bt bb, endV e.1 e.2] W fun r W' => r = .returned (.tuple #[.int .i64 (outE es e).2.1, .bool (outE es e).2.2]) ∧ Two W' bt bb (outE es e).1 ∧ But2 bt bb W W' := by
  by_cases hn : e ∈ es
  · rw [outE_has es e hn]
    refine (port_has W bt bb es h hg e hi hn).mono ?_
    rintro r w1 ⟨rfl, k1⟩
    exact ⟨rfl, h.below k1, But2.ofBelow k1⟩
  · have L : ∀ w, Below W.heap.size W w → (Instr.lookup 134 (.map (some bb)) (endV e.1 e.2) true).run Tryz.prog w = .ok (.tuple #[.int .i64 0, .bool false]) w := fun w hb => look_bk_no w bt bb es (h.below hb) hg e hi hn
    have bA : Below W.heap.size W ((W.alloc (.cells #[.map (some bt), .map (some bb)] 138)).alloc (.cells #[.int .i64 e.1, .int .i64 e.2] 40)) := ((Below.refl _ _).alloc (Nat.le_refl _) _).alloc (by simp) _
    by_cases hl : es.length < 8
    · rw [outE_new es e hn hl]
      go_enter Tryz.func108, Tryz.ntmps108
      go_wp2_with (first | (at_lookup; refine wpList_lookup_is _ rfl _ _ _ _ rfl _ _ _ rfl rfl (L _ bA) ?_) | fail)
      refine (give_new _ bt bb es (h.below bA) hg hl e hi hn).mono ?_
      rintro r w1 ⟨rfl, t1, k1⟩
      go_wp2
      go_ret2
      exact ⟨rfl, t1, But2.one bA k1⟩
    · rw [outE_full es e hn (by omega)]
      go_enter Tryz.func108, Tryz.ntmps108
      go_wp2_with (first | (at_lookup; refine wpList_lookup_is _ rfl _ _ _ _ rfl _ _ _ rfl rfl (L _ bA) ?_) | fail)
      refine (give_full _ bt bb es (h.below bA) hg (by omega) e).mono ?_
      rintro r w1 ⟨rfl, k1⟩
      have b1 := bA.trans (k1.mono bA.size)
      go_wp2
      go_ret2
      exact ⟨rfl, h.below b1, But2.ofBelow b1⟩


set_option maxRecDepth 8000 in
set_option maxHeartbeats 4000000 in
theorem end_any (W : World) (bt bb : Nat) (es : List (Int × Int)) (h : Two W bt bb es) (hl : es.length ≤ 8) (port : Int) (hw : (Lit.int .i64 port).wf = true) :
    Calls Tryz.prog 111 #[prtV bt bb, .int .i64 port] W fun r W' => r = .returned (.tuple #[endV (inE es port).1.1 (inE es port).1.2, .bool (inE es port).2]) ∧ Below W.heap.size W W' := by
  have L : ∀ w, Below W.heap.size W w → (Instr.lookup 133 (.map (some bt)) (.int .i64 port) true).run Tryz.prog w = .ok (.tuple #[endV (inE es port).1.1 (inE es port).1.2, .bool (inE es port).2]) w := fun w hb => look_th w bt bb es (h.below hb) hl port hw true
  go_enter Tryz.func111, Tryz.ntmps111
  go_wp2_with (at_lookup; refine wpList_lookup_is _ rfl _ _ _ _ rfl _ _ _ rfl rfl (L _ (((Below.refl _ _).alloc (Nat.le_refl _) _).alloc (by simp) _)) ?_)
  refine bodyPost_ret (v := .tuple #[endV (inE es port).1.1 (inE es port).1.2, .bool (inE es port).2]) (by simp [results, Tryz.results111, go_sem]) rfl ⟨rfl, ?_⟩
  exact (((Below.refl _ _).alloc (Nat.le_refl _) _).alloc (by simp) _).alloc (by simp; omega) _
end Go.Proofs.YtfmjhbdbgcgoiaaGreatDoor.Mg

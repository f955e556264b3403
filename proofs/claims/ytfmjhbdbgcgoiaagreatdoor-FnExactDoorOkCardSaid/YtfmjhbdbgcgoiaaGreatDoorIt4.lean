/- Walks: the iterator of the program tells the pieces of its text, whatever is done with them that writes two blocks, and no other cells that there were. -/
import Derived.Test.YtfmjhbdbgcgoiaaGreatDoorIt
import Derived.Test.YtfmjhbdbgcgoiaaGreatDoorSqRg
namespace Go.Proofs.YtfmjhbdbgcgoiaaGreatDoor.It4
open Go.RowKit Go.Shelf Go.Proofs.YtfmjhbdbgcgoiaaGreatDoor.Kit Go.Proofs.YtfmjhbdbgcgoiaaGreatDoor.Tx Go.Proofs.YtfmjhbdbgcgoiaaGreatDoor.Nm Go.Proofs.YtfmjhbdbgcgoiaaGreatDoor.App Go.Proofs.YtfmjhbdbgcgoiaaGreatDoor.It Go.Proofs.YtfmjhbdbgcgoiaaGreatDoor.Sq
open Go.Proofs.YtfmjhbdbgcgoiaaGreatDoor.TxW (ok_any held_any)
open Go.Proofs.YtfmjhbdbgcgoiaaGreatDoor.Read (Errs ErrCell)
attribute [local go_sem] Oper.semAt_some
set_option linter.unusedSimpArgs false
set_option linter.unusedVariables false

/-- cells that there were are as they were, but in blocks that may turn; all blocks keep their type -/
structure Kq (X : Nat → TypeId → Prop) (W W' : World) : Prop where
  size : W.heap.size ≤ W'.heap.size
  typ : ∀ (b : Nat) (cs : Array Value) (t : TypeId) (f : Nat × Nat), W.heap[b]? = some (.cells cs t f) → ∃ cs' f', W'.heap[b]? = some (.cells cs' t f')
  keep : ∀ (b : Nat) (cs : Array Value) (t : TypeId) (f : Nat × Nat), W.heap[b]? = some (.cells cs t f) → ¬ X b t → W'.heap[b]? = some (.cells cs t f)
theorem cell_obj {W : World} {a : Addr} {u : Value} (h : W.cell? a = some u) : ∃ cs t f, W.heap[a.block]? = some (.cells cs t f) := by
  unfold World.cell? at h
  cases ho : W.heap[a.block]? with
  | none => simp [ho] at h
  | some o =>
    cases o with
    | cells cs t f => exact ⟨cs, t, f, rfl⟩
    | _ => simp [ho] at h
theorem Kq.cell {X : Nat → TypeId → Prop} {W W' : World} (h : Kq X W W') {a : Addr} {u : Value} (ha : W.cell? a = some u) (hX : ∀ cs t f, W.heap[a.block]? = some (.cells cs t f) → ¬ X a.block t) : W'.cell? a = some u := by
  obtain ⟨cs, t, f, hb⟩ := cell_obj ha
  exact (World.cell?_of_block ((h.keep _ _ _ _ hb (hX _ _ _ hb)).trans hb.symm)).trans ha
theorem Kq.trans {X : Nat → TypeId → Prop} {A B C : World} (h : Kq X A B) (k : Kq X B C) : Kq X A C := by
  refine ⟨Nat.le_trans h.size k.size, fun b cs t f hb => ?_, fun b cs t f hb hX => k.keep b cs t f (h.keep b cs t f hb hX) hX⟩
  obtain ⟨cs', f', h'⟩ := h.typ b cs t f hb
  exact k.typ b cs' t f' h'
theorem Kq.wider {X Y : Nat → TypeId → Prop} {A B : World} (h : Kq X A B) (hXY : ∀ b t, X b t → Y b t) : Kq Y A B :=
  ⟨h.size, h.typ, fun b cs t f hb hX => h.keep b cs t f hb fun q => hX (hXY _ _ q)⟩
theorem Kq.below {X : Nat → TypeId → Prop} {W W' : World} (k : Below W.heap.size W W') : Kq X W W' :=
  ⟨k.size, fun b cs t f hb => ⟨cs, f, (k.block b (Array.getElem?_eq_some_iff.1 hb).1).trans hb⟩, fun b cs t f hb _ => (k.block b (Array.getElem?_eq_some_iff.1 hb).1).trans hb⟩
theorem kq_putObj {X : Nat → TypeId → Prop} (W : World) (l : Nat) (o o' : Obj) (hl : W.heap[l]? = some o) (ho : o.isCells = false) : Kq X W (W.putObj l o') := by
  have key : ∀ (b : Nat) (cs : Array Value) (t : TypeId) (f : Nat × Nat), W.heap[b]? = some (.cells cs t f) → (W.putObj l o').heap[b]? = some (.cells cs t f) := by
    intro b cs t f hb
    refine (World.putObj_heap_other ?_).trans hb
    rintro rfl
    rw [hb] at hl; cases hl; cases ho
  exact ⟨by simp, fun b cs t f hb => ⟨cs, f, key b cs t f hb⟩, fun b cs t f hb _ => key b cs t f hb⟩
theorem kq_set {X : Nat → TypeId → Prop} {W : World} (p : Addr) (u : Value) (hp : ∀ cs t f, W.heap[p.block]? = some (.cells cs t f) → X p.block t) : Kq X W (W.setCell p u) := by
  refine ⟨by simp [World.setCell], fun b cs t f hb => ?_, fun b cs t f hb hX => ?_⟩
  · by_cases e : b = p.block
    · subst e
      obtain ⟨hlt, hk⟩ := Array.getElem?_eq_some_iff.1 hb
      refine ⟨if p.spot.isSome then cs else cs.setIfInBounds p.off u, f, ?_⟩
      show (W.heap.modify p.block _)[p.block]? = _
      rw [Array.getElem?_eq_getElem (by rw [Array.size_modify]; exact hlt), Array.getElem_modify_self, hk]
    · exact ⟨cs, f, (Below.heap_setCell _ _ _ _ e).trans hb⟩
  · refine (Below.heap_setCell _ _ _ _ ?_).trans hb
    rintro rfl
    exact hX (hp _ _ _ hb)
/-- variables of the errors' packages do not turn -/
def NoErrs (X : Nat → TypeId → Prop) : Prop := ∀ t, ¬ X 1 t ∧ ¬ X 2 t
theorem errs_kq {X : Nat → TypeId → Prop} {W W' : World} (h : Errs W) (k : Kq X W W') (hn : NoErrs X) : Errs W' := by
  obtain ⟨⟨e1, c1, d1⟩, ⟨e2, c2, d2⟩⟩ := h
  exact ⟨⟨e1, k.cell c1 fun _ t _ _ => (hn t).1, d1⟩, ⟨e2, k.cell c2 fun _ t _ _ => (hn t).2, d2⟩⟩

set_option maxHeartbeats 4000000 in
theorem tell (n l Bt : Nat) (X : Nat → TypeId → Prop) (s : ByteArray) (hok : okB s.data.toList = true) (J : List Pc → World → Prop)
    (W : World) (hJ : AbidesFrom W.heap.size J)
    (hY : ∀ pre x W1, pre ++ [x] <+: pcs (bd s.data.toList) → J pre W1 → YieldAt Fence.wide (n - 1) Tryz.prog l #[pcV x] W1 fun e W' => e = .returned (.bool true) ∧ J (pre ++ [x]) W' ∧ Kq X W1 W')
    (hBt0 : Boxed W Bt 9 (.string s)) (herr : Errs W) (hXt : ¬ X Bt 9) (hXn : ∀ b, W.heap.size ≤ b → ¬ X b 90) (hXe : NoErrs X) (h0 : J [] W) :
    CallsIn Fence.wide n Tryz.prog 149 #[.func (.yield l) #[] #[], .pointer (some ⟨Bt, 0, none⟩)] W fun e W' => (∃ v, e = .returned v) ∧ J (pcs (bd s.data.toList)) W' := by
  have hBt := hBt0.cell
  have hs := lenL s
  have hsz : s.size ≤ 40 := by have := (ok_parts _ hok).1; omega
  have hhl := heldN_len s.data.toList
  have hd := Tx.hd_ok _ hok
  refine callsIn_of_wp Tryz.func149 rfl trivial ?_ rfl
  simp only [Tryz.ntmps149, List.size_toArray, List.length_cons, List.length_nil, Nat.reduceAdd, Nat.reduceSub, Array.replicate_succ, Array.replicate_zero, List.push_toArray, List.append_toArray, List.nil_append, List.cons_append]
  gi_wp2_with fail
  refine ⟨trivial, (fun h => by cases h), ?_⟩
  refine (callsIn_wide.2 (ok_any s _)).mono ?_
  rintro e w1 ⟨rfl, rfl⟩
  rw [hok]
  gi_wp2_with fail
  have hmo : ((s.size : Int) - ((heldN s.data.toList : Nat) : Int)) = ((s.size - heldN s.data.toList : Nat) : Int) := by omega
  have hwr : IntKind.i64.wrap ((s.size - heldN s.data.toList : Nat) : Int) = ((s.size - heldN s.data.toList : Nat) : Int) := by simp [IntKind.wrap, IntKind.bits, IntKind.signed]; omega
  refine wpIn_wide.2 ?_
  have hbl := blk hBt
  go_region_with (go_at_call 150; refine (held_any s _).mono ?_; rintro e w2 ⟨rfl, k2⟩; rw [hd]; obtain ⟨kk, hb2⟩ : Below w1.heap.size w1 w2 ∧ w2.cell? ⟨Bt, 0, none⟩ = some (.string s) := (by
    first
    | exact ⟨k2, (k2.cell (p := ⟨Bt, 0, none⟩) hbl).trans hBt⟩
    | exact ⟨(Below.refl _ w1).drew.trans k2, (k2.cell (p := ⟨Bt, 0, none⟩) hbl).trans hBt⟩
    | exact ⟨(Below.refl _ w1).drew.drew.trans k2, (k2.cell (p := ⟨Bt, 0, none⟩) hbl).trans hBt⟩))
  all_goals
    simp [go_sem, hmo, hwr]
    gi_wp2
    gi_loopw [3] (fun i wr => ∃ (k : Nat) (pre : List Pc), k ≤ s.size - heldN s.data.toList ∧ i = .int .i64 k ∧ pcs (bd s.data.toList) = pre ++ pcs ((bd s.data.toList).drop k) ∧ J pre wr ∧ Boxed wr Bt 9 (.string s) ∧ Errs wr ∧ w1.heap.size ≤ wr.heap.size) (fun i wr => s.size - heldN s.data.toList - (intOf i).toNat)
    case atStart =>
      exact ⟨0, [], Nat.zero_le _, rfl, rfl, j_below hJ h0 kk, (kk.block Bt hbl).trans hBt0, herr.below kk, kk.size⟩
    case round =>
      obtain ⟨k, pre, hk, rfl, hpc, hJr, hbr0, herr', hsr⟩ := hrel
      have hbr := hbr0.cell
      by_cases hkl : k < s.size - heldN s.data.toList
      · have hkl' : (k : Int) < ((s.size - heldN s.data.toList : Nat) : Int) := by omega
        have hks : (k : Int) ≤ (s.size : Int) := by omega
        have hbl2 := bd_len s.data.toList
        have hne2' : (bd s.data.toList).drop k ≠ [] := by
          intro hz
          have := congrArg List.length hz
          rw [List.length_drop] at this; simp at this; omega
        have hx : pc1 (s.extract k s.size).data.toList = pc1 ((bd s.data.toList).drop k) := by
          rw [ext_from]; exact pc_same _ k (by omega)
        have hp1 := pc1_sz _ hne2'
        have hcons := pcs_cons _ hne2'
        rw [List.drop_drop] at hcons
        rw [List.length_drop] at hp1
        generalize pc1 ((bd s.data.toList).drop k) = P at hx hp1 hcons
        have hez : (s.extract k s.size).size ≤ 1073741824 := by rw [ByteArray.size_extract]; omega
        have hpx : pre ++ [P] <+: pcs (bd s.data.toList) := ⟨pcs ((bd s.data.toList).drop (k + P.sz)), by rw [hpc, hcons]; simp⟩
        gi_wp2_with fail
        refine ⟨trivial, (fun h => by cases h), ?_⟩
        refine (callsIn_wide.2 (piece_any (s.extract k s.size) _ hez herr')).mono ?_
        rintro e w5 ⟨rfl, k5⟩
        rw [hx]
        have z5 := k5.size
        have bA : Below w5.heap.size w5 (w5.alloc (.cells #[.int .i64 (P.sz : Nat), .bool P.nm, .int .i64 P.ad, .int .i64 P.po] 90)) := (Below.refl _ _).alloc (Nat.le_refl _) _
        obtain ⟨fn, tmps, assign, body, hy, hR⟩ := hY pre P (w5.alloc (.cells #[.int .i64 (P.sz : Nat), .bool P.nm, .int .i64 P.ad, .int .i64 P.po] 90)) hpx (j_below hJ (j_below hJ hJr k5) bA)
        gi_wp2_with fail
        refine ⟨(fun h => by cases h), ?_⟩
        refine hR.mono ?_
        clear hR hy hY
        rintro e W3 ⟨rfl, hJ3, hk3⟩
        have hsz3 : W3.cell? ⟨w5.heap.size, 0, none⟩ = some (.int .i64 (P.sz : Nat)) := hk3.cell (by simp) (fun cs t f hb => by
          rw [World.alloc_heap_new] at hb
          cases hb
          exact hXn _ (Nat.le_trans hsr z5))
        have hbt3 : Boxed W3 Bt 9 (.string s) := hk3.keep _ _ _ _ ((bA.block Bt (Nat.lt_of_lt_of_le (blk hbr) z5)).trans ((k5.block Bt (blk hbr)).trans hbr0)) hXt
        have herr3 : Errs W3 := errs_kq ((herr'.below k5).below bA) hk3 hXe
        have hs3 : w1.heap.size ≤ W3.heap.size := by
          have := hk3.size
          simp at this; omega
        clear hk3 bA k5
        gi_wp2
        go_roundw
        case rel =>
          refine ⟨k + P.sz, pre ++ [P], by omega, by go_num, ?_, hJ3, hbt3, herr3, hs3⟩
          rw [hpc, hcons]; simp
        case measure => simp [intOf]; omega
      · have hge : ((s.size - heldN s.data.toList : Nat) : Int) ≤ (k : Int) := by omega
        have hnil : pcs ((bd s.data.toList).drop k) = [] := by
          rw [List.drop_of_length_le (by rw [bd_len]; omega), pcs_nil]
        gi_wp2
        go_end0
        refine ⟨⟨_, rfl⟩, ?_⟩
        rw [hpc, hnil, List.append_nil]; exact hJr

/-- the iterator tells the pieces -/
theorem known (n Bt : Nat) (X : Nat → TypeId → Prop) (s : ByteArray) (w : World) (hBt : Boxed w Bt 9 (.string s)) (herr : Errs w) (hXt : ¬ X Bt 9) (hXn : ∀ b, w.heap.size ≤ b → ¬ X b 90) (hXe : NoErrs X) :
    SeqL n Tryz.prog 149 #[.pointer (some ⟨Bt, 0, none⟩)] (fun x : Pc => #[pcV x]) (Kq X) (pieL s.data.toList) w := by
  intro l J W hW hJ hY h0
  have hBt' : Boxed W Bt 9 (.string s) := (hW.block Bt hBt.lt).trans hBt
  cases hok : okB s.data.toList
  · refine (it_no n l Bt s hok W hBt'.cell).mono ?_
    rintro e W' ⟨he, rfl⟩
    rw [pie_no _ hok]
    exact ⟨he, h0⟩
  · rw [pie_ok _ hok] at hY ⊢
    exact tell n l Bt X s hok J W (ownFrom_abides (ownC_from hJ)) (fun pre x W1 hp hj => by
      obtain ⟨fn, tmps, assign, body, hy, hR⟩ := hY pre x W1 hp hj
      exact ⟨fn, tmps, assign, body, hy, hR.mono fun e W' h => ⟨h.1, h.2.1, h.2.2.1⟩⟩) hBt' (herr.below hW) hXt (fun b hb => hXn b (Nat.le_trans hW.size hb)) hXe h0
end Go.Proofs.YtfmjhbdbgcgoiaaGreatDoor.It4

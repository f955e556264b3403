/- Walks: the iterator of the program tells the pieces of its text, whatever is done with them that writes two blocks, and no other cells that there were. -/
import Derived.Test.YtcoengedikcneayDoorIt
import Derived.Test.YtcoengedikcneayDoorSq
namespace Go.Proofs.YtcoengedikcneayDoor.It4
open Go.RowKit Go.Shelf Go.Proofs.YtcoengedikcneayDoor.Kit Go.Proofs.YtcoengedikcneayDoor.Tx Go.Proofs.YtcoengedikcneayDoor.Nm Go.Proofs.YtcoengedikcneayDoor.App Go.Proofs.YtcoengedikcneayDoor.It Go.Proofs.YtcoengedikcneayDoor.Sq
open Go.Proofs.YtcoengedikcneayDoor.TxW (ok_any held_any)
open Go.Proofs.YtcoengedikcneayDoor.Read (Errs ErrCell)
attribute [local go_sem] Oper.semAt_some
set_option linter.unusedSimpArgs false
set_option linter.unusedVariables false

/-- cells that there were are as they were, but for two blocks -/
structure Kq (B1 B2 : Nat) (W W' : World) : Prop where
  size : W.heap.size ≤ W'.heap.size
  keep : ∀ (a : Addr) (u : Value), W.cell? a = some u → a.block ≠ B1 → a.block ≠ B2 → W'.cell? a = some u
theorem Kq.trans {B1 B2 : Nat} {A B C : World} (h : Kq B1 B2 A B) (k : Kq B1 B2 B C) : Kq B1 B2 A C :=
  ⟨Nat.le_trans h.size k.size, fun a u ha h1 h2 => k.keep a u (h.keep a u ha h1 h2) h1 h2⟩
theorem Kq.below {B1 B2 : Nat} {W W' : World} (k : Below W.heap.size W W') : Kq B1 B2 W W' :=
  ⟨k.size, fun a u ha _ _ => (k.cell (p := a) (World.block_lt_of_cell? _ _ ha)).trans ha⟩
theorem kq_putObj {B1 B2 : Nat} (W : World) (l : Nat) (o o' : Obj) (hl : W.heap[l]? = some o) (ho : o.isCells = false) : Kq B1 B2 W (W.putObj l o') := by
  have hoth : ∀ a : Addr, a.block ≠ l → (W.putObj l o').cell? a = W.cell? a := fun a h => World.cell?_of_block (World.putObj_heap_other (fun e => h e))
  refine ⟨by simp, fun a u ha _ _ => ?_⟩
  rw [hoth a]
  · exact ha
  · rintro rfl
    unfold World.cell? at ha
    rw [hl] at ha
    cases o <;> simp [Obj.isCells] at ho ha
theorem errs_kq {B1 B2 : Nat} {W W' : World} (h : Errs W) (k : Kq B1 B2 W W') (n1 : 2 ≠ B1) (n2 : 3 ≠ B1) (n3 : 2 ≠ B2) (n4 : 3 ≠ B2) : Errs W' := by
  obtain ⟨⟨e1, c1, d1⟩, ⟨e2, c2, d2⟩⟩ := h
  exact ⟨⟨e1, k.keep _ _ c1 n1 n3, d1⟩, ⟨e2, k.keep _ _ c2 n2 n4, d2⟩⟩

set_option maxHeartbeats 4000000 in
theorem tell (n l Bt B1 B2 : Nat) (s : ByteArray) (hok : okB s.data.toList = true) (J : List Pc → World → Prop)
    (W : World) (hJ : AbidesFrom W.heap.size J)
    (hY : ∀ pre x W1, pre ++ [x] <+: pcs (bd s.data.toList) → J pre W1 → YieldAt Fence.wide (n - 1) Tryd.prog l #[pcV x] W1 fun e W' => e = .returned (.bool true) ∧ J (pre ++ [x]) W' ∧ Kq B1 B2 W1 W')
    (hBt : W.cell? ⟨Bt, 0, none⟩ = some (.string s)) (herr : Errs W) (hB1 : B1 < W.heap.size) (hB2 : B2 < W.heap.size) (hne1 : Bt ≠ B1) (hne2 : Bt ≠ B2)
    (n1 : 2 ≠ B1) (n2 : 3 ≠ B1) (n3 : 2 ≠ B2) (n4 : 3 ≠ B2) (h0 : J [] W) :
    CallsIn Fence.wide n Tryd.prog 42 #[.func (.yield l) #[] #[], .pointer (some ⟨Bt, 0, none⟩)] W fun e W' => (∃ v, e = .returned v) ∧ J (pcs (bd s.data.toList)) W' := by
  have hs := lenL s
  have hsz : s.size ≤ 40 := by have := (ok_parts _ hok).1; omega
  have hhl := heldN_len s.data.toList
  have hd := Tx.hd_ok _ hok
  refine callsIn_of_wp Tryd.func42 rfl trivial ?_ rfl
  simp only [Tryd.ntmps42, List.size_toArray, List.length_cons, List.length_nil, Nat.reduceAdd, Nat.reduceSub, Array.replicate_succ, Array.replicate_zero, List.push_toArray, List.append_toArray, List.nil_append, List.cons_append]
  gi_wp2_with fail
  refine ⟨trivial, (fun h => by cases h), ?_⟩
  refine (callsIn_wide.2 (ok_any s _)).mono ?_
  rintro e w1 ⟨rfl, rfl⟩
  rw [hok]
  gi_wp2_with fail
  have hmo : ((s.size : Int) - ((heldN s.data.toList : Nat) : Int)) = ((s.size - heldN s.data.toList : Nat) : Int) := by omega
  have hwr : IntKind.i64.wrap ((s.size - heldN s.data.toList : Nat) : Int) = ((s.size - heldN s.data.toList : Nat) : Int) := by simp [IntKind.wrap, IntKind.bits, IntKind.signed]; omega
  refine wpIn_wide.2 ?_
  have hbl := blk hBt
  go_region_with (go_at_call 44; refine (held_any s _).mono ?_; rintro e w2 ⟨rfl, k2⟩; rw [hd]; obtain ⟨kk, hb2⟩ : Below w1.heap.size w1 w2 ∧ w2.cell? ⟨Bt, 0, none⟩ = some (.string s) := (by
    first
    | exact ⟨k2, (k2.cell (p := ⟨Bt, 0, none⟩) hbl).trans hBt⟩
    | exact ⟨(Below.refl _ w1).drew.trans k2, (k2.cell (p := ⟨Bt, 0, none⟩) hbl).trans hBt⟩
    | exact ⟨(Below.refl _ w1).drew.drew.trans k2, (k2.cell (p := ⟨Bt, 0, none⟩) hbl).trans hBt⟩))
  all_goals
    simp [go_sem, hmo, hwr]
    gi_wp2
    gi_loopw [3] (fun i wr => ∃ (k : Nat) (pre : List Pc), k ≤ s.size - heldN s.data.toList ∧ i = .int .i64 k ∧ pcs (bd s.data.toList) = pre ++ pcs ((bd s.data.toList).drop k) ∧ J pre wr ∧ wr.cell? ⟨Bt, 0, none⟩ = some (.string s) ∧ Errs wr ∧ w1.heap.size ≤ wr.heap.size) (fun i wr => s.size - heldN s.data.toList - (intOf i).toNat)
    case atStart =>
      exact ⟨0, [], Nat.zero_le _, rfl, rfl, j_below hJ h0 kk, hb2, herr.below kk, kk.size⟩
    case round =>
      obtain ⟨k, pre, hk, rfl, hpc, hJr, hbr, herr', hsr⟩ := hrel
      by_cases hkl : k < s.size - heldN s.data.toList
      · have hkl' : (k : Int) < ((s.size - heldN s.data.toList : Nat) : Int) := by omega
        have hks : (k : Int) ≤ (s.size : Int) := by omega
        have hbl2 := bd_len s.data.toList
        have hne2' : (bd s.data.toList).drop k ≠ [] := by
          intro hz
          have := congrArg List.length hz
          rw [List.length_drop] at this; simp at this; omega
        have hx : pc1 (s.extract k s.size).data.toList = pc1 ((bd s.data.toList).drop k) := by
          rw [ext_from]; exact pc_same _ k (by omega)
        have hp1 := pc1_sz _ hne2'
        have hcons := pcs_cons _ hne2'
        rw [List.drop_drop] at hcons
        rw [List.length_drop] at hp1
        generalize pc1 ((bd s.data.toList).drop k) = P at hx hp1 hcons
        have hez : (s.extract k s.size).size ≤ 1073741824 := by rw [ByteArray.size_extract]; omega
        have hpx : pre ++ [P] <+: pcs (bd s.data.toList) := ⟨pcs ((bd s.data.toList).drop (k + P.sz)), by rw [hpc, hcons]; simp⟩
        gi_wp2_with fail
        refine ⟨trivial, (fun h => by cases h), ?_⟩
        refine (callsIn_wide.2 (piece_any (s.extract k s.size) _ hez herr')).mono ?_
        rintro e w5 ⟨rfl, k5⟩
        rw [hx]
        have z5 := k5.size
        have bA : Below w5.heap.size w5 (w5.alloc (.cells #[.int .i64 (P.sz : Nat), .bool P.nm, .int .i64 P.ad, .int .i64 P.po] 37)) := (Below.refl _ _).alloc (Nat.le_refl _) _
        obtain ⟨fn, tmps, assign, body, hy, hR⟩ := hY pre P (w5.alloc (.cells #[.int .i64 (P.sz : Nat), .bool P.nm, .int .i64 P.ad, .int .i64 P.po] 37)) hpx (j_below hJ (j_below hJ hJr k5) bA)
        gi_wp2_with fail
        refine ⟨(fun h => by cases h), ?_⟩
        refine hR.mono ?_
        clear hR hy hY
        rintro e W3 ⟨rfl, hJ3, hk3⟩
        have hsz3 : W3.cell? ⟨w5.heap.size, 0, none⟩ = some (.int .i64 (P.sz : Nat)) := hk3.keep _ _ (by simp) (by simp; omega) (by simp; omega)
        have hbt5 : w5.cell? ⟨Bt, 0, none⟩ = some (.string s) := (k5.cell (p := ⟨Bt, 0, none⟩) (blk hbr)).trans hbr
        have hbt3 : W3.cell? ⟨Bt, 0, none⟩ = some (.string s) := hk3.keep _ _ ((bA.cell (p := ⟨Bt, 0, none⟩) (blk hbt5)).trans hbt5) hne1 hne2
        have herr3 : Errs W3 := errs_kq ((herr'.below k5).below bA) hk3 n1 n2 n3 n4
        have hs3 : w1.heap.size ≤ W3.heap.size := by
          have := hk3.size
          simp at this; omega
        clear hk3 bA k5
        gi_wp2
        go_roundw
        case rel =>
          refine ⟨k + P.sz, pre ++ [P], by omega, by go_num, ?_, hJ3, hbt3, herr3, hs3⟩
          rw [hpc, hcons]; simp
        case measure => simp [intOf]; omega
      · have hge : ((s.size - heldN s.data.toList : Nat) : Int) ≤ (k : Int) := by omega
        have hnil : pcs ((bd s.data.toList).drop k) = [] := by
          rw [List.drop_of_length_le (by rw [bd_len]; omega), pcs_nil]
        gi_wp2
        go_end0
        refine ⟨⟨_, rfl⟩, ?_⟩
        rw [hpc, hnil, List.append_nil]; exact hJr

/-- the iterator tells the pieces -/
theorem known (n Bt B1 B2 : Nat) (s : ByteArray) (w : World) (hBt : w.cell? ⟨Bt, 0, none⟩ = some (.string s)) (herr : Errs w) (hB1 : B1 < w.heap.size) (hB2 : B2 < w.heap.size) (hne1 : Bt ≠ B1) (hne2 : Bt ≠ B2)
    (n1 : 2 ≠ B1) (n2 : 3 ≠ B1) (n3 : 2 ≠ B2) (n4 : 3 ≠ B2) :
    SeqL n Tryd.prog 42 #[.pointer (some ⟨Bt, 0, none⟩)] (fun x : Pc => #[pcV x]) (Kq B1 B2) (pieL s.data.toList) w := by
  intro l J W hW hJ hY h0
  have hBt' : W.cell? ⟨Bt, 0, none⟩ = some (.string s) := (hW.cell (p := ⟨Bt, 0, none⟩) (blk hBt)).trans hBt
  cases hok : okB s.data.toList
  · refine (it_no n l Bt s hok W hBt').mono ?_
    rintro e W' ⟨he, rfl⟩
    rw [pie_no _ hok]
    exact ⟨he, h0⟩
  · rw [pie_ok _ hok] at hY ⊢
    exact tell n l Bt B1 B2 s hok J W hJ hY hBt' (herr.below hW) (Nat.lt_of_lt_of_le hB1 hW.size) (Nat.lt_of_lt_of_le hB2 hW.size) hne1 hne2 n1 n2 n3 n4 h0
end Go.Proofs.YtcoengedikcneayDoor.It4

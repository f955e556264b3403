/- Walks: the pieces of a text, told one by one, by the program. -/
import Derived.Test.YtfmjhbdbgcgoiaaGreatDoorNm2
import Derived.Test.YtfmjhbdbgcgoiaaGreatDoorTxPr
import Derived.Test.YtfmjhbdbgcgoiaaGreatDoorApp
import Derived.ControlIn
import Derived.Deep.RegionWith
namespace Go.Proofs.YtfmjhbdbgcgoiaaGreatDoor.It
open Go.RowKit Go.Shelf Go.Proofs.YtfmjhbdbgcgoiaaGreatDoor.Kit Go.Proofs.YtfmjhbdbgcgoiaaGreatDoor.Tx Go.Proofs.YtfmjhbdbgcgoiaaGreatDoor.Nm Go.Proofs.YtfmjhbdbgcgoiaaGreatDoor.App
open Go.Proofs.YtfmjhbdbgcgoiaaGreatDoor.TxW (ok_any held_any)
open Go.Proofs.YtfmjhbdbgcgoiaaGreatDoor.Read (Errs ErrCell)
attribute [local go_sem] Oper.semAt_some
set_option linter.unusedSimpArgs false

set_option maxHeartbeats 1000000 in
theorem of_in (n : Nat) (s : ByteArray) (w : World) :
    CallsIn Fence.wide n Tryz.prog 136 #[.string s] w fun e w' => e = .returned (.func (.func 149) #[] #[.pointer (some ⟨w.heap.size, 0, none⟩)]) ∧ w' = w.alloc (.cells #[.string s] 9) := by
  refine callsIn_of_wp Tryz.func136 rfl trivial ?_ rfl
  simp only [Tryz.ntmps136, List.size_toArray, List.length_cons, List.length_nil, Nat.reduceAdd, Nat.reduceSub, Array.replicate_succ, Array.replicate_zero, List.push_toArray, List.append_toArray, List.nil_append, List.cons_append]
  gi_wp2
  go_ret
  exact ⟨rfl, rfl⟩

set_option maxHeartbeats 4000000 in
theorem it_no (n l : Nat) (Bt : Nat) (s : ByteArray) (hok : okB s.data.toList = false) (W : World) (hB : W.cell? ⟨Bt, 0, none⟩ = some (.string s)) :
    CallsIn Fence.wide n Tryz.prog 149 #[.func (.yield l) #[] #[], .pointer (some ⟨Bt, 0, none⟩)] W fun e W' => (∃ v, e = .returned v) ∧ W' = W := by
  refine callsIn_of_wp Tryz.func149 rfl trivial ?_ rfl
  simp only [Tryz.ntmps149, List.size_toArray, List.length_cons, List.length_nil, Nat.reduceAdd, Nat.reduceSub, Array.replicate_succ, Array.replicate_zero, List.push_toArray, List.append_toArray, List.nil_append, List.cons_append]
  gi_wp2_with fail
  refine ⟨trivial, (fun h => by cases h), ?_⟩
  refine (callsIn_wide.2 (ok_any s _)).mono ?_
  rintro e w1 ⟨rfl, rfl⟩
  rw [hok]
  gi_wp2
  refine bodyPost_ret (results_none rfl _ _ _) rfl ?_
  exact ⟨⟨_, rfl⟩, rfl⟩

theorem errs_kp {base Bt Bo : Nat} {W W' : World} (h : Errs W) (k : Kp base Bt Bo W W') (hf : Fit base Bt Bo W) (h1 : 1 < base) (h2 : 2 < base) (n1 : 1 ≠ Bo) (n2 : 2 ≠ Bo) : Errs W' := by
  obtain ⟨⟨e1, c1, d1⟩, ⟨e2, c2, d2⟩⟩ := h
  refine ⟨⟨e1, k.keep hf _ _ c1 n1 fun v hv hj => ?_, d1⟩, ⟨e2, k.keep hf _ _ c2 n2 fun v hv hj => ?_, d2⟩⟩
  · have h := (hf v _ hv hj).1; exact absurd h (by simp; omega)
  · have h := (hf v _ hv hj).1; exact absurd h (by simp; omega)

theorem pc_same (l : List UInt8) (k : Nat) (h : k < l.length - heldN l) : pc1 (l.drop k) = pc1 ((bd l).drop k) := by
  have hl := bd_len l
  have hk : k ≤ (bd l).length := by omega
  have e : l.drop k = (bd l).drop k ++ hp l := by
    have := congrArg (List.drop k) (bd_hp l)
    rw [List.drop_append_of_le_length hk] at this
    exact this.symm
  have hne : (bd l).drop k ≠ [] := by
    intro h0
    have := congrArg List.length h0
    rw [List.length_drop] at this; simp at this; omega
  unfold pc1
  rw [e, nameO_app _ _ (nc_hp _ l) hne]
theorem pc1_sz (l : List UInt8) (h : l ≠ []) : 1 ≤ (pc1 l).sz ∧ (pc1 l).sz ≤ l.length := by
  unfold pc1
  cases q : nameO l with
  | none => exact ⟨Nat.le_refl _, List.length_pos_iff.2 h⟩
  | some e => exact ⟨nm_pos e, ((nameO_some l e).1 q).2.length_le⟩

theorem j_below {β : Type} {B : Nat} {J : β → World → Prop} (hJ : AbidesFrom B J) {pre : β} {W W' : World} (h : J pre W) (k : Below W.heap.size W W') : J pre W' :=
  hJ pre W W' none h ⟨k.os, k.tape, k.output, k.size, fun i hi _ => k.block i hi⟩ (fun r e => by cases e)

set_option maxHeartbeats 4000000 in
theorem it_in (n l Bt Bo base : Nat) (s : ByteArray) (hok : okB s.data.toList = true) (J Jx : List Pc → World → Prop)
    (W : World) (hJ : AbidesFrom W.heap.size J)
    (hY : ∀ pre x W1, J pre W1 → pre.length < 64 → YieldAt Fence.wide (n - 1) Tryz.prog l #[pcV x] W1 fun e W' => (e = .returned (.bool true) ∧ J (pre ++ [x]) W' ∧ Kp base Bt Bo W1 W') ∨ (e = .returned (.bool false) ∧ Jx (pre ++ [x]) W'))
    (hBt : W.cell? ⟨Bt, 0, none⟩ = some (.string s)) (herr : Errs W) (hfit : Fit base Bt Bo W) (hBo : Bo < W.heap.size) (hne : Bt ≠ Bo)
    (h1 : 1 < base) (h2 : 2 < base) (n1 : 1 ≠ Bo) (n2 : 2 ≠ Bo) (h0 : J [] W) :
    CallsIn Fence.wide n Tryz.prog 149 #[.func (.yield l) #[] #[], .pointer (some ⟨Bt, 0, none⟩)] W fun e W' => (∃ v, e = .returned v) ∧
      ((∃ xs, xs = pcs (bd s.data.toList) ∧ J xs W') ∨ (∃ pre, pre <+: pcs (bd s.data.toList) ∧ Jx pre W')) := by
  have hs := lenL s
  have hsz : s.size ≤ 40 := by have := (ok_parts _ hok).1; omega
  have hhl := heldN_len s.data.toList
  have hd := Tx.hd_ok _ hok
  refine callsIn_of_wp Tryz.func149 rfl trivial ?_ rfl
  simp only [Tryz.ntmps149, List.size_toArray, List.length_cons, List.length_nil, Nat.reduceAdd, Nat.reduceSub, Array.replicate_succ, Array.replicate_zero, List.push_toArray, List.append_toArray, List.nil_append, List.cons_append]
  gi_wp2_with fail
  refine ⟨trivial, (fun h => by cases h), ?_⟩
  refine (callsIn_wide.2 (ok_any s _)).mono ?_
  rintro e w1 ⟨rfl, rfl⟩
  rw [hok]
  gi_wp2_with fail
  have hmo : ((s.size : Int) - ((heldN s.data.toList : Nat) : Int)) = ((s.size - heldN s.data.toList : Nat) : Int) := by omega
  have hwr : IntKind.i64.wrap ((s.size - heldN s.data.toList : Nat) : Int) = ((s.size - heldN s.data.toList : Nat) : Int) := by simp [IntKind.wrap, IntKind.bits, IntKind.signed]; omega
  refine wpIn_wide.2 ?_
  have hbl := blk hBt
  go_region_with (go_at_call 150; refine (held_any s _).mono ?_; rintro e w2 ⟨rfl, k2⟩; rw [hd]; obtain ⟨kk, hb2⟩ : Below w1.heap.size w1 w2 ∧ w2.cell? ⟨Bt, 0, none⟩ = some (.string s) := (by
    first
    | exact ⟨k2, (k2.cell (p := ⟨Bt, 0, none⟩) hbl).trans hBt⟩
    | exact ⟨(Below.refl _ w1).drew.trans k2, (k2.cell (p := ⟨Bt, 0, none⟩) hbl).trans hBt⟩
    | exact ⟨(Below.refl _ w1).drew.drew.trans k2, (k2.cell (p := ⟨Bt, 0, none⟩) hbl).trans hBt⟩))
  all_goals
    simp [go_sem, hmo, hwr]
    gi_wp2
    gi_loopw [3] (fun i wr => ∃ (k : Nat) (pre : List Pc), k ≤ s.size - heldN s.data.toList ∧ i = .int .i64 k ∧ pcs (bd s.data.toList) = pre ++ pcs ((bd s.data.toList).drop k) ∧ pre.length ≤ k ∧ J pre wr ∧ wr.cell? ⟨Bt, 0, none⟩ = some (.string s) ∧ Errs wr ∧ Fit base Bt Bo wr ∧ Bo < wr.heap.size) (fun i wr => s.size - heldN s.data.toList - (intOf i).toNat)
    case atStart =>
      exact ⟨0, [], Nat.zero_le _, rfl, rfl, Nat.le_refl _, j_below hJ h0 kk, hb2, herr.below kk, fit_below hBo kk hfit, Nat.lt_of_lt_of_le hBo kk.size⟩
    case round =>
      obtain ⟨k, pre, hk, rfl, hpc, hpl, hJr, hbr, herr', hfr, hBr⟩ := hrel
      by_cases hkl : k < s.size - heldN s.data.toList
      · have hkl' : (k : Int) < ((s.size - heldN s.data.toList : Nat) : Int) := by omega
        have hks : (k : Int) ≤ (s.size : Int) := by omega
        have hbl2 := bd_len s.data.toList
        have hne2 : (bd s.data.toList).drop k ≠ [] := by
          intro hz
          have := congrArg List.length hz
          rw [List.length_drop] at this; simp at this; omega
        have hx : pc1 (s.extract k s.size).data.toList = pc1 ((bd s.data.toList).drop k) := by
          rw [ext_from]; exact pc_same _ k (by omega)
        have hp1 := pc1_sz _ hne2
        have hcons := pcs_cons _ hne2
        rw [List.drop_drop] at hcons
        rw [List.length_drop] at hp1
        generalize pc1 ((bd s.data.toList).drop k) = P at hx hp1 hcons
        have hez : (s.extract k s.size).size ≤ 1073741824 := by rw [ByteArray.size_extract]; omega
        gi_wp2_with fail
        refine ⟨trivial, (fun h => by cases h), ?_⟩
        refine (callsIn_wide.2 (piece_any (s.extract k s.size) _ hez herr')).mono ?_
        rintro e w5 ⟨rfl, k5⟩
        rw [hx]
        obtain ⟨fn, tmps, assign, body, hy, hR⟩ := hY pre P (w5.alloc (.cells #[.int .i64 (P.sz : Nat), .bool P.nm, .int .i64 P.ad, .int .i64 P.po] 90)) (j_below hJ (j_below hJ hJr k5) ((Below.refl _ _).alloc (Nat.le_refl _) _)) (by omega)
        gi_wp2_with fail
        refine ⟨(fun h => by cases h), ?_⟩
        refine hR.mono ?_
        clear hR hy hY
        rintro e W3 (⟨rfl, hJ3, hk3⟩ | ⟨rfl, hJx3⟩)
        · have hf5 := fit_below hBr k5 hfr
          have hB5 : Bo < w5.heap.size := Nat.lt_of_lt_of_le hBr k5.size
          have bA : Below w5.heap.size w5 (w5.alloc (.cells #[.int .i64 (P.sz : Nat), .bool P.nm, .int .i64 P.ad, .int .i64 P.po] 90)) := (Below.refl _ _).alloc (Nat.le_refl _) _
          have hf6 := fit_below hB5 bA hf5
          have cc : (w5.alloc (.cells #[.int .i64 (P.sz : Nat), .bool P.nm, .int .i64 P.ad, .int .i64 P.po] 90)).cell? ⟨Bo, 0, none⟩ = w5.cell? ⟨Bo, 0, none⟩ := bA.cell (p := ⟨Bo, 0, none⟩) hB5
          have hsz3 : W3.cell? ⟨w5.heap.size, 0, none⟩ = some (.int .i64 (P.sz : Nat)) := by
            refine hk3.keep hf6 _ _ (by simp) (by simp; omega) fun v hv hj => ?_
            rw [cc] at hv
            have := (hf5 v _ hv hj).2.2
            simp at this
          have hbt5 : w5.cell? ⟨Bt, 0, none⟩ = some (.string s) := (k5.cell (p := ⟨Bt, 0, none⟩) (blk hbr)).trans hbr
          have hbt3 : W3.cell? ⟨Bt, 0, none⟩ = some (.string s) := by
            refine hk3.keep hf6 _ _ ((bA.cell (p := ⟨Bt, 0, none⟩) (blk hbt5)).trans hbt5) hne fun v hv hj => ?_
            exact (hf6 v _ hv hj).2.1 rfl
          have herr3 : Errs W3 := errs_kp ((herr'.below k5).below bA) hk3 hf6 h1 h2 n1 n2
          have hB3 : Bo < W3.heap.size := by
            have := hk3.size
            simp at this; omega
          have hfit3 := hk3.fit hf6
          clear hk3 hf6 bA cc hf5 k5
          gi_wp2
          go_roundw
          case rel =>
            refine ⟨k + P.sz, pre ++ [P], by omega, by go_num, ?_, by simp; omega, hJ3, hbt3, herr3, hfit3, hB3⟩
            rw [hpc, hcons]; simp
          case measure => simp [intOf]; omega
        · gi_wp2
          refine bodyPost_ret (results_none rfl _ _ _) rfl ?_
          exact ⟨⟨_, rfl⟩, .inr ⟨pre ++ [P], ⟨pcs ((bd s.data.toList).drop (k + P.sz)), by rw [hpc, hcons]; simp⟩, hJx3⟩⟩
      · have hge : ((s.size - heldN s.data.toList : Nat) : Int) ≤ (k : Int) := by omega
        have hnil : pcs ((bd s.data.toList).drop k) = [] := by
          rw [List.drop_of_length_le (by rw [bd_len]; omega), pcs_nil]
        gi_wp2
        go_end0
        exact ⟨⟨_, rfl⟩, .inl ⟨pre, by rw [hpc, hnil, List.append_nil], hJr⟩⟩

/-- the iterator tells the pieces of its text, whatever is done with them that keeps its own memory -/
theorem stops (n Bt Bo base : Nat) (s : ByteArray) (w : World) (hBt : w.cell? ⟨Bt, 0, none⟩ = some (.string s)) (herr : Errs w) (hfit : Fit base Bt Bo w) (hBo : Bo < w.heap.size) (hne : Bt ≠ Bo)
    (h1 : 1 < base) (h2 : 2 < base) (n1 : 1 ≠ Bo) (n2 : 2 ≠ Bo) :
    SeqStopsK Fence.wide n Tryz.prog 149 #[.pointer (some ⟨Bt, 0, none⟩)] (fun x : Pc => #[pcV x]) (Kp base Bt Bo) (fun xs => xs = pieL s.data.toList) (fun pre => pre <+: pieL s.data.toList) 64 w := by
  intro l J Jx W hW hJ _ hY h0
  have hBt' : W.cell? ⟨Bt, 0, none⟩ = some (.string s) := (hW.cell (p := ⟨Bt, 0, none⟩) (blk hBt)).trans hBt
  cases hok : okB s.data.toList
  · refine (it_no n l Bt s hok W hBt').mono ?_
    rintro e W' ⟨he, rfl⟩
    exact ⟨he, .inl ⟨[], (pie_no _ hok).symm, h0⟩⟩
  · rw [pie_ok _ hok]
    exact it_in n l Bt Bo base s hok J Jx W hJ hY hBt' (herr.below hW) (fit_below hBo hW hfit) (Nat.lt_of_lt_of_le hBo hW.size) hne h1 h2 n1 n2 h0
end Go.Proofs.YtfmjhbdbgcgoiaaGreatDoor.It

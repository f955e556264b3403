/- Walks: a stream's parts are marked, and held against their marks. -/
import Derived.Test.YtdggchcapjidjabGreatDoorExT
import Derived.Test.YtdggchcapjidjabGreatDoorExM
import Derived.Test.YtdggchcapjidjabGreatDoorTxts
import Derived.Test.YtdggchcapjidjabGreatDoorMmOp
namespace Go.Proofs.YtdggchcapjidjabGreatDoor.ExY
open Go.RowKit Go.Shelf Go.Proofs.YtdggchcapjidjabGreatDoor.Kit Go.Proofs.YtdggchcapjidjabGreatDoor.Nm Go.Proofs.YtdggchcapjidjabGreatDoor.App Go.Proofs.YtdggchcapjidjabGreatDoor.St Go.Proofs.YtdggchcapjidjabGreatDoor.ExT
open Go.Proofs.YtdggchcapjidjabGreatDoor.Itoa (conv1 isU8_int oneS_int)
open Go.Proofs.YtdggchcapjidjabGreatDoor.ExM (Free free_of set_other)
open Go.Proofs.YtdggchcapjidjabGreatDoor.Ms (grown_of grown_trans)
set_option linter.unusedVariables false
set_option linter.unusedSimpArgs false

/-- a number's last figure -/
def dg (k : Nat) : ByteArray := ⟨#[48 + UInt8.ofNat (k % 10)]⟩
/-- a number's figures, ahead of others -/
def mt (k : Nat) (out : ByteArray) : ByteArray := if h : k = 0 then out else mt (k / 10) (dg k ++ out)
termination_by k
decreasing_by omega
theorem mt_zero (out : ByteArray) : mt 0 out = out := by rw [mt]; rfl
theorem mt_pos (k : Nat) (h : 0 < k) (out : ByteArray) : mt k out = mt (k / 10) (dg k ++ out) := by rw [mt, dif_neg (by omega)]
/-- the mark of a number -/
def mT (k : Nat) : ByteArray := ⟨#[109]⟩ ++ mt k ⟨#[]⟩
set_option maxRecDepth 100000 in
set_option maxHeartbeats 4000000 in
theorem markText_any (k : Nat) (h1 : 1 ≤ k) (h2 : k ≤ 10000000) (w : World) :
    Calls Tryz.prog 78 #[.int .i64 (k : Nat)] w fun e w' => e = .returned (.string (mT k)) ∧ Below w.heap.size w w' := by
  have hc := conv1
  have hu := isU8_int
  have ho := oneS_int
  have hk0 : ¬ (k : Int) ≤ 0 := by omega
  go_enter Tryz.func78, Tryz.ntmps78
  go_wp2
  go_loopw [0, 3] (fun n s wr => ∃ (j : Nat) (o : ByteArray), n = .int .i64 (j : Nat) ∧ s = .string o ∧ mt j o = mt k ⟨#[]⟩ ∧ o.size + j ≤ k ∧ Below w.heap.size w wr) (fun n s wr => (intOf n).toNat)
  case atStart => exact ⟨k, ⟨#[]⟩, rfl, rfl, rfl, by have : (⟨#[]⟩ : ByteArray).size = 0 := rfl; omega, Below.refl _ _⟩
  case round =>
    obtain ⟨j, o, rfl, rfl, hmt, hsz, hb⟩ := hrel
    by_cases hj : 0 < j
    · have hj' : (0 : Int) < (j : Int) := by omega
      have r0 : 0 ≤ (j : Int) % 10 := by omega
      have r1 : (j : Int) % 10 < 10 := by omega
      have r2 : (j : Int).tmod 10 = (j : Int) % 10 := Int.tmod_eq_emod_of_nonneg (by omega)
      have q2 : IntKind.i64.wrap ((j : Int).tdiv 10) = (j : Int) / 10 := by rw [Int.tdiv_eq_ediv_of_nonneg (by omega)]; simp [IntKind.wrap, IntKind.bits, IntKind.signed]; omega
      have q3 : IntKind.u8.wrap (48 + (j : Int) % 10) = 48 + (j : Int) % 10 := by simp [IntKind.wrap, IntKind.bits, IntKind.signed]; omega
      have q4 : IntKind.i64.wrap (48 + (j : Int) % 10) = 48 + (j : Int) % 10 := by simp [IntKind.wrap, IntKind.bits, IntKind.signed]; omega
      have HM := (show Hid (mt j o = mt k ⟨#[]⟩) from hmt)
      clear hmt
      go_wp2
      go_roundw
      case rel =>
        refine ⟨j / 10, dg j ++ o, by first | rfl | go_num, rfl, by rw [← HM.out, mt_pos j hj], ?_, hb.alloc hb.size _⟩
        rw [ByteArray.size_append]
        have : (dg j).size = 1 := rfl
        omega
      case measure => simp [intOf]; omega
    · have hj' : (j : Int) ≤ 0 := by omega
      have hmo : mT k = ⟨#[109]⟩ ++ o := by
        have e0 : j = 0 := by omega
        rw [e0, mt_zero] at hmt
        unfold mT; rw [hmt]
      clear hmt
      go_wp2
      go_ret
      exact ⟨by rw [hmo]; rfl, hb⟩

theorem Free.below {W W' : World} {g n : Nat} (h : Free W g n) (k : Below W.heap.size W W') : Free W' g n := by
  intro j hj
  obtain ⟨h1, h2⟩ := h j hj
  obtain ⟨u, hu⟩ := Option.isSome_iff_exists.1 h1
  have hl := blk hu
  exact ⟨by rw [k.cell (p := ⟨g, j, none⟩) hl]; exact h1, by rw [k.frozen (p := ⟨g, j, none⟩) hl]; exact h2⟩
theorem grown_set (W : World) (g j : Nat) (v : Value) : W.grownBy (W.setCell ⟨g, j, none⟩ v) (some g) :=
  ⟨rfl, rfl, rfl, by simp [World.setCell], fun k _ hk => Below.heap_setCell _ _ _ _ (fun q => hk (by rw [q]))⟩
/-- what was marked of parts -/
def MarksP (w : World) (g n k0 : Nat) : Prop := ∀ i : Nat, i < n → w.cell? ⟨g, i * 2, none⟩ = some (.int .i64 ((k0 + i * 2 : Nat) : Int)) ∧ w.cell? ⟨g, i * 2 + 1, none⟩ = some (.string (mT (k0 + i * 2 + 1)))
theorem MarksP.below {W W' : World} {g n k0 : Nat} (h : MarksP W g n k0) (k : Below W.heap.size W W') : MarksP W' g n k0 := fun i hi =>
  ⟨(k.cell (p := ⟨g, i * 2, none⟩) (blk (h i hi).1)).trans (h i hi).1, (k.cell (p := ⟨g, i * 2 + 1, none⟩) (blk (h i hi).2)).trans (h i hi).2⟩
theorem free_parts {W : World} {g cap n : Nat} {cur : Array Value} {e : TypeId} (hg : W.heap[g]? = some (.cells cur e (0, 0))) (hnc : n ≤ cap) (hcs : cur.size = cap * 2) : Free W g (n * 2) := by
  intro j hj
  have hlt : j < cur.size := by rw [hcs]; omega
  constructor
  · simp [World.cell?, hg, Array.getElem?_eq_getElem hlt]
  · simp [World.frozen?, hg]
set_option maxHeartbeats 1000000 in
theorem markP_nil (w : World) (a : Option Addr) (c : Nat) (k0 : Nat) :
    Calls Tryz.prog 51 #[.slice a 0 c, .int .i64 (k0 : Nat)] w fun e w' => e = .returned (.int .i64 (k0 : Nat)) ∧ w' = w := by
  go_enter Tryz.func51, Tryz.ntmps51
  go_wp2
  refine wp_loop_rounds 1 ?_
  rw [rounds_succ]
  go_wp2
  go_ret
  exact ⟨rfl, rfl⟩
set_option maxHeartbeats 1000000 in
theorem heldP_nil (w : World) (a : Option Addr) (c : Nat) (k0 : Nat) :
    Calls Tryz.prog 52 #[.slice a 0 c, .int .i64 (k0 : Nat)] w fun e w' => e = .returned (.int .i64 (k0 : Nat)) ∧ w' = w := by
  go_enter Tryz.func52, Tryz.ntmps52
  go_wp2
  refine wp_loop_rounds 1 ?_
  rw [rounds_succ]
  go_wp2
  go_ret
  exact ⟨rfl, rfl⟩
set_option maxRecDepth 8000 in
set_option maxHeartbeats 4000000 in
theorem markP_row (w : World) (g n c k0 : Nat) (hn : n ≤ 1048576) (h1 : 1 ≤ k0) (h2 : k0 ≤ 4000000) (hf : Free w g (n * 2)) :
    Calls Tryz.prog 51 #[.slice (some ⟨g, 0, none⟩) n c, .int .i64 (k0 : Nat)] w fun e w' => e = .returned (.int .i64 ((k0 + n * 2 : Nat) : Int)) ∧ w.grownBy w' (some g) ∧ MarksP w' g n k0 := by
  go_enter Tryz.func51, Tryz.ntmps51
  go_wp2
  go_loopw [1, 5] (fun q i wr => ∃ k : Nat, k ≤ n ∧ i = .int .i64 k ∧ q = .int .i64 ((k0 + k * 2 : Nat) : Int) ∧ w.grownBy wr (some g) ∧ Free wr g (n * 2) ∧ MarksP wr g k k0) (fun q i wr => n - (intOf i).toNat)
  case atStart => exact ⟨0, Nat.zero_le _, rfl, rfl, ⟨rfl, rfl, rfl, Nat.le_refl _, fun _ _ _ => rfl⟩, hf, fun j hj => absurd hj (by omega)⟩
  case round =>
    obtain ⟨k, hk, rfl, rfl, hb, hfr, hmk⟩ := hrel
    by_cases hlt : k < n
    · have hlt' : (k : Int) < (n : Int) := by omega
      obtain ⟨c0, f0⟩ := hfr (k * 2) (by omega)
      obtain ⟨M, hM⟩ : ∃ M : Nat, k0 + k * 2 = M := ⟨_, rfl⟩
      obtain ⟨N, hN⟩ : ∃ N : Nat, M + 1 = N := ⟨_, rfl⟩
      have HMM := (show Hid (k0 + k * 2 = M) from hM)
      have HNN := (show Hid (M + 1 = N) from hN)
      rw [hM]
      have hN' : (M : Int) + 1 = (N : Int) := by omega
      have hNw : IntKind.i64.wrap (N : Int) = (N : Int) := by simp [IntKind.wrap, IntKind.bits, IntKind.signed]; omega
      have hNb : 1 ≤ N ∧ N ≤ 10000000 := by omega
      have HF : Hid (Free wr g (n * 2)) := hfr
      have HM : Hid (MarksP wr g k k0) := hmk
      have HB : Hid (w.grownBy wr (some g)) := hb
      obtain ⟨u0, e0⟩ := Option.isSome_iff_exists.1 c0
      have hgl := blk e0
      clear hfr hmk hf c0 hM hN hb
      go_wp2_with fail
      have F1 := HF.out.set (k * 2) (.int .i64 (M : Nat))
      refine (markText_any N hNb.1 hNb.2 _).mono ?_
      rintro e w9 ⟨rfl, k9⟩
      have F2 := Free.below F1 k9
      obtain ⟨d1, f1⟩ := F2 (k * 2 + 1) (by omega)
      obtain ⟨u1, e1⟩ := Option.isSome_iff_exists.1 d1
      have HF1 := (show Hid (Free (wr.setCell ⟨g, k * 2, none⟩ (.int .i64 (M : Nat))) g (n * 2)) from F1)
      have HF2 := (show Hid (Free w9 g (n * 2)) from F2)
      have HK := (show Hid (Below (wr.setCell ⟨g, k * 2, none⟩ (.int .i64 (M : Nat))).heap.size (wr.setCell ⟨g, k * 2, none⟩ (.int .i64 (M : Nat))) w9) from k9)
      clear F1 F2 d1 k9
      go_wp2
      go_roundw
      case rel =>
        have hMM := HMM.out
        have hNN := HNN.out
        have hgb : g < (wr.setCell ⟨g, k * 2, none⟩ (.int .i64 (M : Nat))).heap.size := by simpa [World.setCell] using hgl
        refine ⟨k + 1, by omega, by go_num, congrArg (Value.int IntKind.i64) (by omega), ?_, HF2.out.set _ _, fun i hi => ?_⟩
        · exact grown_trans HB.out (grown_trans (grown_set _ _ _ _) (grown_trans (grown_of HK.out _) (grown_set _ _ _ _)))
        · by_cases hik : i = k
          · subst hik
            constructor
            · rw [set_other (by omega), HK.out.cell (p := ⟨g, i * 2, none⟩) hgb, World.cell?_setCell_same' _ _ _ (HF.out _ (by omega)).1, hMM]
            · rw [World.cell?_setCell_same' _ _ _ (HF2.out _ (by omega)).1, show k0 + i * 2 + 1 = N by omega]
          · have q := HM.out i (by omega)
            constructor
            · rw [set_other (by omega), HK.out.cell (p := ⟨g, i * 2, none⟩) hgb, set_other (by omega)]; exact q.1
            · rw [set_other (by omega), HK.out.cell (p := ⟨g, i * 2 + 1, none⟩) hgb, set_other (by omega)]; exact q.2
      case measure => simp [intOf]; omega
    · have hge : (n : Int) ≤ (k : Int) := by omega
      obtain rfl : k = n := by omega
      go_wp2
      go_ret
      exact ⟨rfl, hb, hmk⟩
set_option maxRecDepth 8000 in
set_option maxHeartbeats 4000000 in
theorem heldP_row (w : World) (g n c k0 : Nat) (hn : n ≤ 1048576) (h1 : 1 ≤ k0) (h2 : k0 ≤ 4000000) (hm : MarksP w g n k0) :
    Calls Tryz.prog 52 #[.slice (some ⟨g, 0, none⟩) n c, .int .i64 (k0 : Nat)] w fun e w' => e = .returned (.int .i64 ((k0 + n * 2 : Nat) : Int)) ∧ Below w.heap.size w w' := by
  go_enter Tryz.func52, Tryz.ntmps52
  go_wp2
  go_loopw [1, 5] (fun q i wr => ∃ k : Nat, k ≤ n ∧ i = .int .i64 k ∧ q = .int .i64 ((k0 + k * 2 : Nat) : Int) ∧ Below w.heap.size w wr) (fun q i wr => n - (intOf i).toNat)
  case atStart => exact ⟨0, Nat.zero_le _, rfl, rfl, Below.refl _ _⟩
  case round =>
    obtain ⟨k, hk, rfl, rfl, hb⟩ := hrel
    by_cases hlt : k < n
    · have hlt' : (k : Int) < (n : Int) := by omega
      obtain ⟨c0, c1⟩ := (hm.below hb) k hlt
      obtain ⟨M, hM⟩ : ∃ M : Nat, k0 + k * 2 = M := ⟨_, rfl⟩
      obtain ⟨N, hN⟩ : ∃ N : Nat, M + 1 = N := ⟨_, rfl⟩
      have HMM := (show Hid (k0 + k * 2 = M) from hM)
      have HNN := (show Hid (M + 1 = N) from hN)
      rw [hM, hN] at c1
      rw [hM] at c0 ⊢
      have hN' : (M : Int) + 1 = (N : Int) := by omega
      have hNw : IntKind.i64.wrap (N : Int) = (N : Int) := by simp [IntKind.wrap, IntKind.bits, IntKind.signed]; omega
      have hNb : 1 ≤ N ∧ N ≤ 10000000 := by omega
      have HB : Hid (Below w.heap.size w wr) := hb
      have HMK := (show Hid (MarksP w g n k0) from hm)
      have hl := blk c1
      clear hM hN hb hm
      go_wp2
      go_region_with (go_at_call 78; refine (markText_any N hNb.1 hNb.2 _).mono ?_; rintro e w9 ⟨rfl, k9⟩; obtain ⟨kb, d1⟩ : Below wr.heap.size wr w9 ∧ w9.cell? ⟨g, k * 2 + 1, none⟩ = some (.string (mT N)) := ⟨⟨k9.os, k9.tape, k9.output, k9.size, k9.block⟩, (k9.cell (p := ⟨g, k * 2 + 1, none⟩) hl).trans c1⟩)
      all_goals
        go_wp2
        go_roundw
        case rel =>
          have hMM := HMM.out
          have hNN := HNN.out
          exact ⟨k + 1, by omega, by go_num, congrArg (Value.int IntKind.i64) (by omega), HB.out.trans (kb.mono HB.out.size)⟩
        case measure => simp [intOf]; omega
    · have hge : (n : Int) ≤ (k : Int) := by omega
      obtain rfl : k = n := by omega
      go_wp2
      go_ret
      exact ⟨rfl, hb⟩
/-- what was marked of a stream -/
def MarksS (w : World) (v : Value) (n k0 : Nat) : Prop := (∃ a c, v = .slice a n c) ∧ (n = 0 ∨ ∃ g c, v = .slice (some ⟨g, 0, none⟩) n c ∧ MarksP w g n k0)
theorem MarksS.below {W W' : World} {v : Value} {n k0 : Nat} (h : MarksS W v n k0) (k : Below W.heap.size W W') : MarksS W' v n k0 := by
  refine ⟨h.1, ?_⟩
  rcases h.2 with h0 | ⟨g, c, e, hm⟩
  · exact .inl h0
  · exact .inr ⟨g, c, e, hm.below k⟩
theorem markPS_any (w : World) (base : Nat) (e : TypeId) (v : Value) (n : Nat) (xs : List Value) (hr : w.ownsRow base e 2 v n xs) (hn : n ≤ 1048576) (k0 : Nat) (h1 : 1 ≤ k0) (h2 : k0 ≤ 4000000) :
    Calls Tryz.prog 51 #[v, .int .i64 (k0 : Nat)] w fun e w' => e = .returned (.int .i64 ((k0 + n * 2 : Nat) : Int)) ∧ w.grownBy w' v.ownBlock ∧ MarksS w' v n k0 := by
  rcases hr.2 with ⟨rfl, h0⟩ | ⟨g, cap, cur, rfl, hbg, hg, hnc, _, hcs, _⟩
  · subst h0
    refine (markP_nil w none 0 k0).mono ?_
    rintro e w' ⟨rfl, rfl⟩
    exact ⟨rfl, ⟨rfl, rfl, rfl, Nat.le_refl _, fun _ _ _ => rfl⟩, ⟨_, _, rfl⟩, .inl rfl⟩
  · refine (markP_row w g n cap k0 hn h1 h2 (free_parts hg hnc hcs)).mono ?_
    rintro e w' ⟨rfl, kb, hmk⟩
    exact ⟨rfl, kb, ⟨_, _, rfl⟩, .inr ⟨g, cap, rfl, hmk⟩⟩
theorem heldPS_any (w : World) (v : Value) (n : Nat) (hn : n ≤ 1048576) (k0 : Nat) (h1 : 1 ≤ k0) (h2 : k0 ≤ 4000000) (h : MarksS w v n k0) :
    Calls Tryz.prog 52 #[v, .int .i64 (k0 : Nat)] w fun e w' => e = .returned (.int .i64 ((k0 + n * 2 : Nat) : Int)) ∧ Below w.heap.size w w' := by
  obtain ⟨⟨a, c, rfl⟩, h0 | ⟨g, c', e, hm⟩⟩ := h
  · subst h0
    refine (heldP_nil w a c k0).mono ?_
    rintro e w' ⟨rfl, rfl⟩
    exact ⟨rfl, Below.refl _ _⟩
  · rw [e]
    exact heldP_row w g n c' k0 hn h1 h2 hm
set_option maxRecDepth 8000 in
set_option maxHeartbeats 4000000 in
theorem markS_any (w : World) (base : Nat) (e : TypeId) (s : ByteArray) (a : Option Addr) (n c : Nat) (xs : List Value) (hr : w.ownsRow base e 2 (.slice a n c) n xs) (hn : n ≤ 1048576) (k0 : Nat) (h1 : 1 ≤ k0) (h2 : k0 ≤ 4000000) :
    Calls Tryz.prog 22 #[.agg #[.string s, .slice a n c], .int .i64 (k0 : Nat)] w fun e w' => e = .returned (.int .i64 ((k0 + n * 2 : Nat) : Int)) ∧ w.grownBy w' (Value.slice a n c).ownBlock ∧ MarksS w' (.slice a n c) n k0 := by
  have bA : Below w.heap.size w (w.alloc (.cells #[.string s, .slice a n c] 26)) := (Below.refl _ _).alloc (Nat.le_refl _) _
  go_enter Tryz.func22, Tryz.ntmps22
  go_wp2_with fail
  refine (markPS_any _ base e (.slice a n c) n xs (row_below hr bA) hn k0 h1 h2).mono ?_
  rintro e w1 ⟨rfl, g1, hm⟩
  obtain ⟨M, hM⟩ : ∃ M : Nat, k0 + n * 2 = M := ⟨_, rfl⟩
  have HMH := (show Hid (k0 + n * 2 = M) from hM)
  rw [hM]
  clear hM
  go_wp2
  go_ret
  exact ⟨by rw [HMH.out]; rfl, grown_trans (grown_of bA _) g1, hm⟩
set_option maxRecDepth 8000 in
set_option maxHeartbeats 4000000 in
theorem heldS_any (w : World) (s : ByteArray) (a : Option Addr) (n c : Nat) (hn : n ≤ 1048576) (k0 : Nat) (h1 : 1 ≤ k0) (h2 : k0 ≤ 4000000) (h : MarksS w (.slice a n c) n k0) :
    Calls Tryz.prog 24 #[.agg #[.string s, .slice a n c], .int .i64 (k0 : Nat)] w fun e w' => e = .returned (.int .i64 ((k0 + n * 2 : Nat) : Int)) ∧ Below w.heap.size w w' := by
  have bA : Below w.heap.size w (w.alloc (.cells #[.string s, .slice a n c] 26)) := (Below.refl _ _).alloc (Nat.le_refl _) _
  go_enter Tryz.func24, Tryz.ntmps24
  go_wp2_with fail
  refine (heldPS_any _ (.slice a n c) n hn k0 h1 h2 (h.below bA)).mono ?_
  rintro e w1 ⟨rfl, k1⟩
  obtain ⟨M, hM⟩ : ∃ M : Nat, k0 + n * 2 = M := ⟨_, rfl⟩
  have HMH := (show Hid (k0 + n * 2 = M) from hM)
  rw [hM]
  have hM0 : ¬ (M : Int) < 0 := by omega
  clear hM
  go_wp2
  go_ret
  exact ⟨by rw [HMH.out]; rfl, bA.trans (k1.mono bA.size)⟩
end Go.Proofs.YtdggchcapjidjabGreatDoor.ExY

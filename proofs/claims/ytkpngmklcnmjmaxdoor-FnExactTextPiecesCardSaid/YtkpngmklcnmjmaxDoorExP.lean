/- Walks: the exact laws' own comparison, marks and looks, on lists of pieces. -/
import Derived.Test.YtkpngmklcnmjmaxDoorExE
namespace Go.Proofs.YtkpngmklcnmjmaxDoor.ExP
open Go.RowKit Go.Proofs.YtkpngmklcnmjmaxDoor.Kit Go.Proofs.YtkpngmklcnmjmaxDoor.Tx Go.Proofs.YtkpngmklcnmjmaxDoor.Nm Go.Proofs.YtkpngmklcnmjmaxDoor.Lz Go.Proofs.YtkpngmklcnmjmaxDoor.ExE
open Go.Proofs.YtkpngmklcnmjmaxDoor.EndW (endV)
set_option linter.unusedSimpArgs false
set_option linter.unusedVariables false

set_option maxHeartbeats 1000000 in
theorem eqPiece_true (p : Pc) (w : World) :
    Calls Tryd.prog 19 #[pcV p, pcV p] w fun e w' => e = .returned (.bool true) ∧ Below w.heap.size w w' := by
  obtain ⟨sz, nm, ad, po⟩ := p
  go_enter Tryd.func19, Tryd.ntmps19
  cases nm
  all_goals
    go_wp2_with fail
    refine (eqEnd_true _ _ _).mono ?_
    rintro e w2 ⟨rfl, k2⟩
    go_wp2
    go_ret
    exact ⟨rfl, (((Below.refl _ _).alloc (Nat.le_refl _) _).alloc (by simp) _).trans (k2.mono (by first | omega | (simp; done) | (simp; omega)))⟩

set_option maxHeartbeats 4000000 in
theorem eqP_nil (w : World) (c0 c1 : Nat) (a0 a1 : Option Addr) :
    Calls Tryd.prog 7 #[.slice a0 0 c0, .slice a1 0 c1] w fun e w' => e = .returned (.bool true) ∧ Below w.heap.size w w' := by
  go_enter Tryd.func7, Tryd.ntmps7
  go_wp2
  refine wp_loop_rounds 1 ?_
  rw [rounds_succ]
  go_wp2
  go_ret
  exact ⟨rfl, Below.refl _ _⟩

set_option maxRecDepth 8000 in
set_option maxHeartbeats 4000000 in
theorem eqP_row (w : World) (ps : List Pc) (hm : ps.length ≤ 1000) (g0 o0 c0 g1 o1 c1 : Nat) (h0 : ∀ (i : Nat) (p : Pc), ps[i]? = some p → At4 w g0 (o0 + i * 4) p) (h1 : ∀ (i : Nat) (p : Pc), ps[i]? = some p → At4 w g1 (o1 + i * 4) p) :
    Calls Tryd.prog 7 #[.slice (some ⟨g0, o0, none⟩) ps.length c0, .slice (some ⟨g1, o1, none⟩) ps.length c1] w fun e w' => e = .returned (.bool true) ∧ Below w.heap.size w w' := by
  go_enter Tryd.func7, Tryd.ntmps7
  go_wp2
  go_loopw [5] (fun i wr => ∃ k : Nat, k ≤ ps.length ∧ i = .int .i64 k ∧ Below w.heap.size w wr) (fun i wr => ps.length - (intOf i).toNat)
  case atStart => exact ⟨0, Nat.zero_le _, rfl, Below.refl _ _⟩
  case round =>
    obtain ⟨k, hk, rfl, hb⟩ := hrel
    by_cases hlt : k < ps.length
    · have hlt' : (k : Int) < (ps.length : Int) := by omega
      obtain ⟨x0, x1, x2, x3⟩ := (h0 k _ (List.getElem?_eq_getElem hlt)).below (W' := wr) (hb.mono (Nat.le_refl _))
      obtain ⟨y0, y1, y2, y3⟩ := (h1 k _ (List.getElem?_eq_getElem hlt)).below (W' := wr) (hb.mono (Nat.le_refl _))
      generalize ps[k] = P at x0 x1 x2 x3 y0 y1 y2 y3
      clear h0 h1
      go_wp2_with fail
      go_region_with (go_at_call 19; refine (eqPiece_true P _).mono ?_; rintro e w2 ⟨rfl, k2⟩; have bb : Below wr.heap.size wr w2 := (by first | exact k2 | exact (Below.refl _ wr).drew.trans k2 | exact (Below.refl _ wr).drew.drew.trans k2 | exact (Below.refl _ wr).drew.drew.drew.trans k2))
      all_goals
        go_wp2
        go_roundw
        case rel =>
          have b9 := hb.trans (bb.mono hb.size)
          first | exact ⟨k + 1, by omega, by go_num, b9⟩ | exact ⟨k + 1, by omega, by go_num, b9.drew⟩ | exact ⟨k + 1, by omega, by go_num, b9.drew.drew⟩
        case measure => simp [intOf]; omega
    · have hge : (ps.length : Int) ≤ (k : Int) := by omega
      go_wp2
      go_ret
      exact ⟨rfl, hb⟩
theorem eqP_true (w : World) (ps : List Pc) (hm : ps.length ≤ 1000) (a b : Value) (h0 : IsP w a ps) (h1 : IsP w b ps) :
    Calls Tryd.prog 7 #[a, b] w fun e w' => e = .returned (.bool true) ∧ Below w.heap.size w w' := by
  rcases h0 with ⟨rfl, rfl⟩ | ⟨g0, o0, c0, rfl, _, _, h0⟩
  · rcases h1 with ⟨rfl, _⟩ | ⟨g1, o1, c1, rfl, _, _, h1⟩
    · exact eqP_nil w 0 0 none none
    · exact eqP_nil w 0 c1 none _
  · rcases h1 with ⟨rfl, rfl⟩ | ⟨g1, o1, c1, rfl, _, _, h1⟩
    · exact eqP_nil w c0 0 _ none
    · exact eqP_row w ps hm g0 o0 c0 g1 o1 c1 h0 h1

/-- the marks -/
def mkP (j : Nat) : Value := if j % 4 = 1 then .bool (((j + 1 : Nat) : Int) % 3 == 0) else .int .i64 ((j + 1 : Nat) : Int)
def MarksP (w : World) (g n : Nat) : Prop := ∀ j : Nat, j < n → w.cell? ⟨g, j, none⟩ = some (mkP j)
theorem mk0 (k : Nat) : mkP (k * 4) = .int .i64 (1 + (k : Int) * 4) := by
  unfold mkP; rw [if_neg (by omega)]; exact congrArg (Value.int IntKind.i64) (by omega)
theorem mk1 (k : Nat) : mkP (k * 4 + 1) = .bool ((1 + (k : Int) * 4 + 1) % 3 == 0) := by
  unfold mkP; rw [if_pos (by omega), show ((k * 4 + 1 + 1 : Nat) : Int) = 1 + (k : Int) * 4 + 1 by omega]
theorem mk2 (k : Nat) : mkP (k * 4 + 2) = .int .i64 (1 + (k : Int) * 4 + 1 + 1) := by
  unfold mkP; rw [if_neg (by omega)]; exact congrArg (Value.int IntKind.i64) (by omega)
theorem mk3 (k : Nat) : mkP (k * 4 + 3) = .int .i64 (1 + (k : Int) * 4 + 1 + 1 + 1) := by
  unfold mkP; rw [if_neg (by omega)]; exact congrArg (Value.int IntKind.i64) (by omega)

set_option maxHeartbeats 1000000 in
theorem mark_nil (w : World) (a : Option Addr) (c : Nat) :
    Calls Tryd.prog 8 #[.slice a 0 c, .int .i64 1] w fun e w' => e = .returned (.int .i64 1) ∧ w' = w := by
  go_enter Tryd.func8, Tryd.ntmps8
  go_wp2
  refine wp_loop_rounds 1 ?_
  rw [rounds_succ]
  go_wp2
  go_ret
  exact ⟨rfl, rfl⟩
set_option maxHeartbeats 1000000 in
theorem held_nil (w : World) (a : Option Addr) (c : Nat) :
    Calls Tryd.prog 9 #[.slice a 0 c, .int .i64 1] w fun e w' => e = .returned (.int .i64 1) ∧ w' = w := by
  go_enter Tryd.func9, Tryd.ntmps9
  go_wp2
  refine wp_loop_rounds 1 ?_
  rw [rounds_succ]
  go_wp2
  go_ret
  exact ⟨rfl, rfl⟩

set_option maxRecDepth 8000 in
set_option maxHeartbeats 4000000 in
theorem mark_row (w : World) (g n c : Nat) (hn : n ≤ 1000) (hf : Free w g (n * 4)) :
    Calls Tryd.prog 8 #[.slice (some ⟨g, 0, none⟩) n c, .int .i64 1] w fun e w' => e = .returned (.int .i64 ((1 + n * 4 : Nat) : Int)) ∧ But g w w' ∧ MarksP w' g (n * 4) := by
  go_enter Tryd.func8, Tryd.ntmps8
  go_wp2
  go_loopw [1, 5] (fun q i wr => ∃ k : Nat, k ≤ n ∧ i = .int .i64 k ∧ q = .int .i64 ((1 + k * 4 : Nat) : Int) ∧ But g w wr ∧ Free wr g (n * 4) ∧ MarksP wr g (k * 4)) (fun q i wr => n - (intOf i).toNat)
  case atStart => exact ⟨0, Nat.zero_le _, rfl, rfl, But.refl _ _, hf, fun j hj => absurd hj (by omega)⟩
  case round =>
    obtain ⟨k, hk, rfl, rfl, hb, hfr, hmk⟩ := hrel
    by_cases hlt : k < n
    · have hlt' : (k : Int) < (n : Int) := by omega
      obtain ⟨c0, f0⟩ := hfr (k * 4) (by omega)
      obtain ⟨c1, f1⟩ := hfr (k * 4 + 1) (by omega)
      obtain ⟨c2, f2⟩ := hfr (k * 4 + 2) (by omega)
      obtain ⟨c3, f3⟩ := hfr (k * 4 + 3) (by omega)
      have HF : Hid (Free wr g (n * 4)) := hfr
      have HM : Hid (MarksP wr g (k * 4)) := hmk
      obtain ⟨u0, e0⟩ := Option.isSome_iff_exists.1 c0
      obtain ⟨u1, e1⟩ := Option.isSome_iff_exists.1 c1
      obtain ⟨u2, e2⟩ := Option.isSome_iff_exists.1 c2
      obtain ⟨u3, e3⟩ := Option.isSome_iff_exists.1 c3
      clear hfr hmk hf c0 c1 c2 c3
      go_wp2
      go_roundw
      case rel =>
        have F1 := HF.out.set (k * 4) (.int .i64 (1 + (k : Int) * 4))
        have F2 := F1.set (k * 4 + 1) (.bool ((1 + (k : Int) * 4 + 1) % 3 == 0))
        have F3 := F2.set (k * 4 + 2) (.int .i64 (1 + (k : Int) * 4 + 1 + 1))
        refine ⟨k + 1, by omega, by go_num, congrArg (Value.int IntKind.i64) (by omega), (((hb.setCell rfl _).setCell rfl _).setCell rfl _).setCell rfl _, F3.set _ _, fun j hj => ?_⟩
        by_cases j3 : j = k * 4 + 2 + 1
        · subst j3
          rw [World.cell?_setCell_same' _ _ _ (F3 _ (by omega)).1]
          exact congrArg some (mk3 k).symm
        · rw [set_other (fun e => j3 e.symm)]
          by_cases j2 : j = k * 4 + 2
          · subst j2
            rw [World.cell?_setCell_same' _ _ _ (F2 _ (by omega)).1]
            exact congrArg some (mk2 k).symm
          · rw [set_other (fun e => j2 e.symm)]
            by_cases j1 : j = k * 4 + 1
            · subst j1
              rw [World.cell?_setCell_same' _ _ _ (F1 _ (by omega)).1]
              exact congrArg some (mk1 k).symm
            · rw [set_other (fun e => j1 e.symm)]
              by_cases j0 : j = k * 4
              · subst j0
                rw [World.cell?_setCell_same' _ _ _ (HF.out _ (by omega)).1]
                exact congrArg some (mk0 k).symm
              · rw [set_other (fun e => j0 e.symm)]
                exact HM.out j (by omega)
      case measure => simp [intOf]; omega
    · have hge : (n : Int) ≤ (k : Int) := by omega
      obtain rfl : k = n := by omega
      go_wp2
      go_ret
      exact ⟨rfl, hb, hmk⟩

set_option maxRecDepth 8000 in
set_option maxHeartbeats 4000000 in
theorem held_row (w : World) (g n c : Nat) (hn : n ≤ 1000) (hm : MarksP w g (n * 4)) :
    Calls Tryd.prog 9 #[.slice (some ⟨g, 0, none⟩) n c, .int .i64 1] w fun e w' => e = .returned (.int .i64 ((1 + n * 4 : Nat) : Int)) ∧ w' = w := by
  go_enter Tryd.func9, Tryd.ntmps9
  go_wp2
  go_loop [1, 5] (fun q i => ∃ k : Nat, k ≤ n ∧ i = .int .i64 k ∧ q = .int .i64 ((1 + k * 4 : Nat) : Int)) (fun q i => n - (intOf i).toNat)
  case atStart => exact ⟨0, Nat.zero_le _, rfl, rfl⟩
  case round =>
    obtain ⟨k, hk, rfl, rfl⟩ := hrel
    by_cases hlt : k < n
    · have hlt' : (k : Int) < (n : Int) := by omega
      have c0 := (hm (k * 4) (by omega)).trans (congrArg some (mk0 k))
      have c1 := (hm (k * 4 + 1) (by omega)).trans (congrArg some (mk1 k))
      have c2 := (hm (k * 4 + 2) (by omega)).trans (congrArg some (mk2 k))
      have c3 := (hm (k * 4 + 3) (by omega)).trans (congrArg some (mk3 k))
      clear hm
      go_wp2
      all_goals
        go_round
        case rel => exact ⟨k + 1, by omega, by go_num, congrArg (Value.int IntKind.i64) (by omega)⟩
        case measure => simp [intOf]; omega
    · have hge : (n : Int) ≤ (k : Int) := by omega
      obtain rfl : k = n := by omega
      go_wp2
      go_ret
      exact ⟨rfl, rfl⟩
end Go.Proofs.YtkpngmklcnmjmaxDoor.ExP

/- Walks: the exact laws' own comparison, marks and looks, on lists of ends. -/
import Derived.Test.YtkpngmklcnmjmaxDoorLzE
import Derived.Deep.RegionWith
namespace Go.Proofs.YtkpngmklcnmjmaxDoor.ExE
open Go.RowKit Go.Proofs.YtkpngmklcnmjmaxDoor.Kit Go.Proofs.YtkpngmklcnmjmaxDoor.LzE Go.Proofs.YtkpngmklcnmjmaxDoor.Nas
open Go.Proofs.YtkpngmklcnmjmaxDoor.EndW (endV)
set_option linter.unusedSimpArgs false
set_option linter.unusedVariables false

set_option maxHeartbeats 1000000 in
theorem eqEnd_true (x y : Int) (w : World) :
    Calls Tryd.prog 20 #[endV x y, endV x y] w fun e w' => e = .returned (.bool true) ∧ Below w.heap.size w w' := by
  go_enter Tryd.func20, Tryd.ntmps20
  go_wp2
  go_ret
  exact ⟨rfl, ((Below.refl _ _).alloc (Nat.le_refl _) _).alloc (by simp) _⟩

set_option maxHeartbeats 4000000 in
theorem eqE_nil (w : World) (c0 c1 : Nat) (a0 a1 : Option Addr) :
    Calls Tryd.prog 12 #[.slice a0 0 c0, .slice a1 0 c1] w fun e w' => e = .returned (.bool true) ∧ Below w.heap.size w w' := by
  go_enter Tryd.func12, Tryd.ntmps12
  go_wp2
  refine wp_loop_rounds 1 ?_
  rw [rounds_succ]
  go_wp2
  go_ret
  exact ⟨rfl, Below.refl _ _⟩

set_option maxRecDepth 8000 in
set_option maxHeartbeats 4000000 in
theorem eqE_row (w : World) (ps : List (Int × Int)) (hm : ps.length ≤ 1000) (g0 c0 g1 c1 : Nat) (h0 : ∀ (i : Nat) (p : Int × Int), ps[i]? = some p → At2 w g0 (i * 2) p) (h1 : ∀ (i : Nat) (p : Int × Int), ps[i]? = some p → At2 w g1 (i * 2) p) :
    Calls Tryd.prog 12 #[.slice (some ⟨g0, 0, none⟩) ps.length c0, .slice (some ⟨g1, 0, none⟩) ps.length c1] w fun e w' => e = .returned (.bool true) ∧ Below w.heap.size w w' := by
  go_enter Tryd.func12, Tryd.ntmps12
  go_wp2
  go_loopw [5] (fun i wr => ∃ k : Nat, k ≤ ps.length ∧ i = .int .i64 k ∧ Below w.heap.size w wr) (fun i wr => ps.length - (intOf i).toNat)
  case atStart => exact ⟨0, Nat.zero_le _, rfl, Below.refl _ _⟩
  case round =>
    obtain ⟨k, hk, rfl, hb⟩ := hrel
    by_cases hlt : k < ps.length
    · have hlt' : (k : Int) < (ps.length : Int) := by omega
      obtain ⟨x0, x1⟩ := (h0 k _ (List.getElem?_eq_getElem hlt)).below (W' := wr) (hb.mono (Nat.le_refl _))
      obtain ⟨y0, y1⟩ := (h1 k _ (List.getElem?_eq_getElem hlt)).below (W' := wr) (hb.mono (Nat.le_refl _))
      generalize ps[k] = P at x0 x1 y0 y1
      obtain ⟨ad, po⟩ := P
      simp only at x0 x1 y0 y1
      clear h0 h1
      go_wp2_with fail
      go_region_with (go_at_call 20; refine (eqEnd_true _ _ _).mono ?_; rintro e w2 ⟨rfl, k2⟩; have bb : Below wr.heap.size wr w2 := (by first | exact k2 | exact (Below.refl _ wr).drew.trans k2 | exact (Below.refl _ wr).drew.drew.trans k2 | exact (Below.refl _ wr).drew.drew.drew.trans k2))
      all_goals
        go_wp2
        go_roundw
        case rel =>
          have b9 := hb.trans (bb.mono hb.size)
          first | exact ⟨k + 1, by omega, by go_num, b9⟩ | exact ⟨k + 1, by omega, by go_num, b9.drew⟩ | exact ⟨k + 1, by omega, by go_num, b9.drew.drew⟩
        case measure => simp [intOf]; omega
    · have hge : (ps.length : Int) ≤ (k : Int) := by omega
      go_wp2
      go_ret
      exact ⟨rfl, hb⟩
theorem eqE_true (w : World) (ps : List (Int × Int)) (hm : ps.length ≤ 1000) (a b : Value) (h0 : IsE w a ps) (h1 : IsE w b ps) :
    Calls Tryd.prog 12 #[a, b] w fun e w' => e = .returned (.bool true) ∧ Below w.heap.size w w' := by
  rcases h0 with ⟨rfl, rfl⟩ | ⟨g0, c0, rfl, _, _, h0⟩
  · rcases h1 with ⟨rfl, _⟩ | ⟨g1, c1, rfl, _, _, h1⟩
    · exact eqE_nil w 0 0 none none
    · exact eqE_nil w 0 c1 none _
  · rcases h1 with ⟨rfl, rfl⟩ | ⟨g1, c1, rfl, _, _, h1⟩
    · exact eqE_nil w c0 0 _ none
    · exact eqE_row w ps hm g0 c0 g1 c1 h0 h1

/-- the first n cells of a block are there, and may be written -/
def Free (w : World) (g n : Nat) : Prop := ∀ j, j < n → (w.cell? ⟨g, j, none⟩).isSome = true ∧ w.frozen? ⟨g, j, none⟩ = false
theorem Free.set {w : World} {g n : Nat} (h : Free w g n) (i : Nat) (v : Value) : Free (w.setCell ⟨g, i, none⟩ v) g n := by
  intro j hj
  refine ⟨?_, by rw [World.frozen?_setCell]; exact (h j hj).2⟩
  by_cases e : i = j
  · subst e
    rw [World.cell?_setCell_same' _ _ _ (h i hj).1]; rfl
  · have ne : (⟨g, i, none⟩ : Addr) ≠ ⟨g, j, none⟩ := fun q => e (by injection q)
    have : (w.setCell ⟨g, i, none⟩ v).cell? ⟨g, j, none⟩ = w.cell? ⟨g, j, none⟩ := by
      first | exact World.cell?_setCell_other _ _ _ ne | exact World.cell?_setCell_other _ _ _ _ ne | exact World.cell?_setCell_other _ _ ne
    rw [this]; exact (h j hj).1
/-- a mark that was set stays where other cells are written -/
theorem set_other {w : World} {g i j : Nat} {v : Value} (h : i ≠ j) : (w.setCell ⟨g, i, none⟩ v).cell? ⟨g, j, none⟩ = w.cell? ⟨g, j, none⟩ := by
  have ne : (⟨g, i, none⟩ : Addr) ≠ ⟨g, j, none⟩ := fun q => h (by injection q)
  first | exact World.cell?_setCell_other _ _ _ ne | exact World.cell?_setCell_other _ _ _ _ ne | exact World.cell?_setCell_other _ _ ne
/-- the marks -/
def Marks (w : World) (g n : Nat) : Prop := ∀ j : Nat, j < n → w.cell? ⟨g, j, none⟩ = some (.int .i64 (((j + 1 : Nat)) : Int))

set_option maxHeartbeats 1000000 in
theorem mark_nil (w : World) (a : Option Addr) (c : Nat) :
    Calls Tryd.prog 13 #[.slice a 0 c, .int .i64 1] w fun e w' => e = .returned (.int .i64 1) ∧ w' = w := by
  go_enter Tryd.func13, Tryd.ntmps13
  go_wp2
  refine wp_loop_rounds 1 ?_
  rw [rounds_succ]
  go_wp2
  go_ret
  exact ⟨rfl, rfl⟩
set_option maxHeartbeats 1000000 in
theorem held_nil (w : World) (a : Option Addr) (c : Nat) :
    Calls Tryd.prog 14 #[.slice a 0 c, .int .i64 1] w fun e w' => e = .returned (.int .i64 1) ∧ w' = w := by
  go_enter Tryd.func14, Tryd.ntmps14
  go_wp2
  refine wp_loop_rounds 1 ?_
  rw [rounds_succ]
  go_wp2
  go_ret
  exact ⟨rfl, rfl⟩

set_option maxRecDepth 8000 in
set_option maxHeartbeats 4000000 in
theorem mark_row (w : World) (g n c : Nat) (hn : n ≤ 1000) (hf : Free w g (n * 2)) :
    Calls Tryd.prog 13 #[.slice (some ⟨g, 0, none⟩) n c, .int .i64 1] w fun e w' => e = .returned (.int .i64 ((1 + n * 2 : Nat) : Int)) ∧ But g w w' ∧ Marks w' g (n * 2) := by
  go_enter Tryd.func13, Tryd.ntmps13
  go_wp2
  go_loopw [1, 5] (fun q i wr => ∃ k : Nat, k ≤ n ∧ i = .int .i64 k ∧ q = .int .i64 ((1 + k * 2 : Nat) : Int) ∧ But g w wr ∧ Free wr g (n * 2) ∧ Marks wr g (k * 2)) (fun q i wr => n - (intOf i).toNat)
  case atStart => exact ⟨0, Nat.zero_le _, rfl, rfl, But.refl _ _, hf, fun j hj => absurd hj (by omega)⟩
  case round =>
    obtain ⟨k, hk, rfl, rfl, hb, hfr, hmk⟩ := hrel
    by_cases hlt : k < n
    · have hlt' : (k : Int) < (n : Int) := by omega
      obtain ⟨c0, f0⟩ := hfr (k * 2) (by omega)
      obtain ⟨c1, f1⟩ := hfr (k * 2 + 1) (by omega)
      have HF : Hid (Free wr g (n * 2)) := hfr
      have HM : Hid (Marks wr g (k * 2)) := hmk
      obtain ⟨u0, e0⟩ := Option.isSome_iff_exists.1 c0
      obtain ⟨u1, e1⟩ := Option.isSome_iff_exists.1 c1
      clear hfr hmk hf c0 c1
      go_wp2
      go_roundw
      case rel =>
        have F1 := HF.out.set (k * 2) (.int .i64 (1 + (k : Int) * 2))
        refine ⟨k + 1, by omega, by go_num, congrArg (Value.int IntKind.i64) (by omega), (hb.setCell rfl _).setCell rfl _, F1.set _ _, fun j hj => ?_⟩
        by_cases j1 : j = k * 2 + 1
        · subst j1
          rw [World.cell?_setCell_same' _ _ _ (F1 _ (by omega)).1]
          exact congrArg (fun z => some (Value.int IntKind.i64 z)) (by omega)
        · rw [set_other (fun e => j1 e.symm)]
          by_cases j0 : j = k * 2
          · subst j0
            rw [World.cell?_setCell_same' _ _ _ (HF.out _ (by omega)).1]
            exact congrArg (fun z => some (Value.int IntKind.i64 z)) (by omega)
          · rw [set_other (fun e => j0 e.symm)]
            exact HM.out j (by omega)
      case measure => simp [intOf]; omega
    · have hge : (n : Int) ≤ (k : Int) := by omega
      obtain rfl : k = n := by omega
      go_wp2
      go_ret
      exact ⟨rfl, hb, hmk⟩

set_option maxRecDepth 8000 in
set_option maxHeartbeats 4000000 in
theorem held_row (w : World) (g n c : Nat) (hn : n ≤ 1000) (hm : Marks w g (n * 2)) :
    Calls Tryd.prog 14 #[.slice (some ⟨g, 0, none⟩) n c, .int .i64 1] w fun e w' => e = .returned (.int .i64 ((1 + n * 2 : Nat) : Int)) ∧ w' = w := by
  go_enter Tryd.func14, Tryd.ntmps14
  go_wp2
  go_loop [1, 5] (fun q i => ∃ k : Nat, k ≤ n ∧ i = .int .i64 k ∧ q = .int .i64 ((1 + k * 2 : Nat) : Int)) (fun q i => n - (intOf i).toNat)
  case atStart => exact ⟨0, Nat.zero_le _, rfl, rfl⟩
  case round =>
    obtain ⟨k, hk, rfl, rfl⟩ := hrel
    by_cases hlt : k < n
    · have hlt' : (k : Int) < (n : Int) := by omega
      have c0 := hm (k * 2) (by omega)
      have c1 := hm (k * 2 + 1) (by omega)
      rw [show ((k * 2 + 1 : Nat) : Int) = 1 + (k : Int) * 2 by omega] at c0
      rw [show ((k * 2 + 1 + 1 : Nat) : Int) = 1 + (k : Int) * 2 + 1 by omega] at c1
      clear hm
      go_wp2
      go_round
      case rel => exact ⟨k + 1, by omega, by go_num, congrArg (Value.int IntKind.i64) (by omega)⟩
      case measure => simp [intOf]; omega
    · have hge : (n : Int) ≤ (k : Int) := by omega
      obtain rfl : k = n := by omega
      go_wp2
      go_ret
      exact ⟨rfl, rfl⟩
end Go.Proofs.YtkpngmklcnmjmaxDoor.ExE

/- Walks: which end a text names at its beginning, by the program; the piece that it begins with. -/
import Derived.Test.YtfmjhbdbgcgoiaaGreatDoorNm
namespace Go.Proofs.YtfmjhbdbgcgoiaaGreatDoor.Nm
open Go.RowKit Go.Proofs.YtfmjhbdbgcgoiaaGreatDoor.Kit Go.Proofs.YtfmjhbdbgcgoiaaGreatDoor.Tx
open Go.Proofs.YtfmjhbdbgcgoiaaGreatDoor.EndW (sideZ endV)
open Go.Proofs.YtfmjhbdbgcgoiaaGreatDoor.Text (txt txtL txt_list implText side_bd txt_len)
open Go.Proofs.YtfmjhbdbgcgoiaaGreatDoor.Read (Errs read_any bdn)

theorem idx (l : List UInt8) (c : UInt8) : Lib.indexByte l c = -1 ∨ ∃ i : Nat, Lib.indexByte l c = (i : Int) ∧ i < l.length := by
  have hge := Lib.indexByte_ge l c
  by_cases h : Lib.indexByte l c = -1
  · exact .inl h
  · obtain ⟨i, hi⟩ := Int.eq_ofNat_of_zero_le (show 0 ≤ Lib.indexByte l c by omega)
    refine .inr ⟨i, hi, ?_⟩
    have hsm := (Lib.indexByte_some hi).1
    rcases Nat.lt_or_ge i l.length with h | h
    · exact h
    · rw [List.getElem?_eq_none h] at hsm; cases hsm

theorem at_no (s : ByteArray) (h : atB s = false) : nameO s.data.toList = none := by
  refine nmd_noat _ fun t e => ?_
  unfold atB at h
  rw [e] at h; simp at h
theorem at_yes (s : ByteArray) (h : atB s = true) : s.data.toList = 64 :: s.data.toList.drop 1 ∧ 0 < s.size := by
  unfold atB at h
  rw [← lenL]
  cases q : s.data.toList with
  | nil => rw [q] at h; simp at h
  | cons x t =>
    rw [q] at h
    simp at h
    subst h
    exact ⟨rfl, by simp⟩

set_option maxHeartbeats 2000000 in
theorem name_at_no (s : ByteArray) (w : World) (hs : s.size ≤ 1073741824) (h : atB s = false) :
    Calls Tryz.prog 156 #[.string s] w fun e w' => e = .returned (.tuple #[endV 0 0, .bool false]) ∧ Below w.heap.size w w' := by
  rcases idx s.data.toList 59 with hi | ⟨i, hi, hl⟩
  · go_enter Tryz.func156, Tryz.ntmps156
    go_wp2_with fail
    refine (scutp_no s _ h).mono ?_
    rintro e w1 ⟨rfl, rfl⟩
    go_wp2_with fail
    refine (sncut_no s _ hi).mono ?_
    rintro e w2 ⟨rfl, rfl⟩
    go_wp2
    refine bodyPost_ret (v := .tuple #[endV 0 0, .bool false]) ?_ rfl ?_
    · simp [results, Tryz.results156, go_sem]
    · exact ⟨rfl, by first | exact (Below.refl _ _).alloc (Nat.le_refl _) _ | exact (((Below.refl _ _).alloc (Nat.le_refl _) _).setCell (Nat.le_refl _) _).setCell (Nat.le_refl _) _⟩
  · have hl' : (i : Int) < (s.size : Int) := by rw [lenL] at hl; omega
    go_enter Tryz.func156, Tryz.ntmps156
    go_wp2_with fail
    refine (scutp_no s _ h).mono ?_
    rintro e w1 ⟨rfl, rfl⟩
    go_wp2_with fail
    refine (sncut_yes s i _ (by omega) hi hl').mono ?_
    rintro e w2 ⟨rfl, n, rfl⟩
    go_wp2
    refine bodyPost_ret (v := .tuple #[endV 0 0, .bool false]) ?_ rfl ?_
    · simp [results, Tryz.results156, go_sem]
    · exact ⟨rfl, by first | exact ((Below.refl _ _).alloc (Nat.le_refl _) _).trans (bdn _ _ _) | exact ((((Below.refl _ _).alloc (Nat.le_refl _) _).trans (bdn _ _ _)).setCell (Nat.le_refl _) _).setCell (Nat.le_refl _) _⟩

set_option maxHeartbeats 2000000 in
theorem name_no59 (s : ByteArray) (w : World) (h : atB s = true) (h1 : 1 ≤ (s.size : Int)) (hi : Lib.indexByte (s.extract 1 s.size).data.toList 59 = -1) :
    Calls Tryz.prog 156 #[.string s] w fun e w' => e = .returned (.tuple #[endV 0 0, .bool false]) ∧ Below w.heap.size w w' := by
  go_enter Tryz.func156, Tryz.ntmps156
  go_wp2_with fail
  refine (scutp_yes s _ h h1).mono ?_
  rintro e w1 ⟨rfl, rfl⟩
  go_wp2_with fail
  refine (sncut_no _ _ hi).mono ?_
  rintro e w2 ⟨rfl, rfl⟩
  go_wp2
  refine bodyPost_ret (v := .tuple #[endV 0 0, .bool false]) ?_ rfl ?_
  · simp [results, Tryz.results156, go_sem]
  · exact ⟨rfl, by first | exact (Below.refl _ _).alloc (Nat.le_refl _) _ | exact (((Below.refl _ _).alloc (Nat.le_refl _) _).setCell (Nat.le_refl _) _).setCell (Nat.le_refl _) _⟩

set_option maxHeartbeats 2000000 in
theorem name_yes (s b A : ByteArray) (w : World) (h : atB s = true) (h1 : 1 ≤ (s.size : Int)) (hb : s.extract 1 s.size = b) (hbs : (b.size : Int) ≤ 1073741824) (i : Nat) (hi : Lib.indexByte b.data.toList 59 = (i : Int)) (hl : (i : Int) < (b.size : Int)) (hA : b.extract 0 i = A) (la : A.size ≤ 1073741824) (herr : Errs w) :
    Calls Tryz.prog 156 #[.string s] w fun e w' => ∃ x y t, e = .returned (.tuple #[endV x y, .bool t]) ∧ Below w.heap.size w w' ∧ Read.Told A x y t := by
  have e1 : Errs (w.alloc (.cells #[.int .i64 0, .int .i64 0] 40)) := herr.below ((Below.refl _ _).alloc (Nat.le_refl _) _)
  go_enter Tryz.func156, Tryz.ntmps156
  go_wp2_with fail
  refine (scutp_yes s _ h h1).mono ?_
  rintro e w1 ⟨rfl, rfl⟩
  rw [hb]
  go_wp2_with fail
  refine (sncut_yes b i _ hbs hi hl).mono ?_
  rintro e w2 ⟨rfl, n, rfl⟩
  clear hi
  rw [hA]
  have e2 : Errs ((w.alloc (.cells #[.int .i64 0, .int .i64 0] 40)).drewN n) := e1.below (bdn _ _ _)
  have bel2 : Below w.heap.size w ((w.alloc (.cells #[.int .i64 0, .int .i64 0] 40)).drewN n) := ((Below.refl _ _).alloc (Nat.le_refl _) _).trans (bdn _ _ _)
  generalize b.extract (i + 1) b.size = B at *
  go_wp2_with fail
  refine (read_any A _ la e2).mono ?_
  rintro e w3 ⟨x, y, t, rfl, k3, ht⟩
  have z3 := k3.size
  simp at z3
  have c3 := keepc k3 w.heap.size (by first | omega | (simp; done) | (simp; omega))
  have f3 := keepf k3 w.heap.size (by first | omega | (simp; done) | (simp; omega))
  have bel3 := bel2.trans (k3.mono (by first | omega | (simp; done) | (simp; omega)))
  clear k3 bel2 e2 e1
  go_wp2
  refine bodyPost_ret (v := .tuple #[endV x y, .bool t]) ?_ rfl ?_
  · simp [results, Tryz.results156, go_sem, c3]
  · exact ⟨x, y, t, rfl, (bel3.setCell (Nat.le_refl _) _).setCell (Nat.le_refl _) _, ht⟩

/-- nameAt answers the end whose name the text begins with -/
theorem name_any (s : ByteArray) (w : World) (hs : s.size ≤ 1073741824) (herr : Errs w) :
    Calls Tryz.prog 156 #[.string s] w fun e w' => ∃ x y t, e = .returned (.tuple #[endV x y, .bool t]) ∧ Below w.heap.size w w' ∧ Nmd s.data.toList x y t := by
  cases h : atB s
  · refine (name_at_no s w hs h).mono ?_
    rintro e w' ⟨rfl, k⟩
    exact ⟨0, 0, false, rfl, k, .inr ⟨rfl, rfl, rfl, at_no s h⟩⟩
  · obtain ⟨h0, h1⟩ := at_yes s h
    have hx := ext_from s 1
    have hz : (s.extract 1 s.size).size ≤ 1073741824 := by rw [ByteArray.size_extract]; omega
    rcases idx (s.extract 1 s.size).data.toList 59 with hi | ⟨i, hi, hl⟩
    · refine (name_no59 s w h (by omega) hi).mono ?_
      rintro e w' ⟨rfl, k⟩
      refine ⟨0, 0, false, rfl, k, .inr ⟨rfl, rfl, rfl, ?_⟩⟩
      rw [h0]
      refine nmd_no59 _ fun k => ?_
      have := Lib.indexByte_none hi k
      rw [hx] at this; exact this
    · refine (name_yes s _ _ w h (by omega) rfl (by omega) i hi (by rw [lenL] at hl; omega) rfl (by rw [ByteArray.size_extract]; omega) herr).mono ?_
      rintro e w' ⟨x, y, t, rfl, k, ht⟩
      refine ⟨x, y, t, rfl, k, ?_⟩
      have hsm := Lib.indexByte_some hi
      rw [hx] at hsm
      rw [h0]
      refine nmd_yes _ i _ x y t hsm.1 hsm.2 ?_ ht
      rw [ext_to, hx]; rfl

theorem txt_small (x y : Int) : (txt x y).size ≤ 4 := by
  by_cases h : sideZ x y = 0
  · have : txt x y = ⟨#[]⟩ := by unfold txt; rw [if_pos h]
    rw [this]; decide
  · rw [txt_len x y h]; split <;> omega

set_option maxHeartbeats 1000000 in
theorem nameOf_any (x y : Int) (w : World) :
    Calls Tryz.prog 157 #[endV x y] w fun e w' => e = .returned (.string (⟨#[64]⟩ ++ txt x y ++ ⟨#[59]⟩)) ∧ Below w.heap.size w w' := by
  have hz := txt_small x y
  go_enter Tryz.func157, Tryz.ntmps157
  go_wp2_with fail
  refine (implText _ _ _).mono ?_
  rintro e w2 ⟨rfl, k2⟩
  go_wp2
  go_ret
  exact ⟨rfl, ((Below.refl _ _).alloc (Nat.le_refl _) _).trans (k2.mono (by simp))⟩

theorem name_size (x y : Int) (h : sideZ x y ≠ 0) : ((⟨#[64]⟩ ++ txt x y ++ ⟨#[59]⟩ : ByteArray)).size = (nmL (x, y)).length := by
  have e := txt_len x y h
  have e2 := nm_len (x, y) h
  rw [ByteArray.size_append, ByteArray.size_append, e2, e]
  show 1 + (if y < 10 then 3 else 4) + 1 = if y < 10 then 5 else 6
  split <;> rfl

/-- a piece, as a value -/
abbrev pcV (p : Pc) : Value := .agg #[.int .i64 (p.sz : Nat), .bool p.nm, .int .i64 p.ad, .int .i64 p.po]
/-- the piece that a text begins with -/
noncomputable def pc1 (l : List UInt8) : Pc := match nameO l with
  | some e => ⟨(nmL e).length, true, e.1, e.2⟩
  | none => ⟨1, false, 0, 0⟩
theorem pcs_cons (l : List UInt8) (h : l ≠ []) : pcs l = pc1 l :: pcs (l.drop (pc1 l).sz) := by
  cases q : nameO l with
  | none => rw [pcs_none l h q]; unfold pc1; rw [q]
  | some e => rw [pcs_some l e q]; unfold pc1; rw [q]

/-- four cells of a block, written one behind the other -/
theorem set4 (w : World) (b : Nat) (v0 v1 v2 v3 u0 u1 u2 u3 : Value) (h0 : w.cell? ⟨b, 0, none⟩ = some u0) (h1 : w.cell? ⟨b, 1, none⟩ = some u1) (h2 : w.cell? ⟨b, 2, none⟩ = some u2) (h3 : w.cell? ⟨b, 3, none⟩ = some u3) :
    (w.setCell ⟨b, 0, none⟩ v0).cell? ⟨b, 0, none⟩ = some v0 ∧ ((w.setCell ⟨b, 0, none⟩ v0).setCell ⟨b, 1, none⟩ v1).cell? ⟨b, 1, none⟩ = some v1 ∧
    (((w.setCell ⟨b, 0, none⟩ v0).setCell ⟨b, 1, none⟩ v1).setCell ⟨b, 2, none⟩ v2).cell? ⟨b, 2, none⟩ = some v2 ∧
    ((((w.setCell ⟨b, 0, none⟩ v0).setCell ⟨b, 1, none⟩ v1).setCell ⟨b, 2, none⟩ v2).setCell ⟨b, 3, none⟩ v3).cell? ⟨b, 3, none⟩ = some v3 := by
  have ne : ∀ i j : Nat, i ≠ j → (⟨b, i, none⟩ : Addr) ≠ ⟨b, j, none⟩ := fun i j h e => h (by injection e)
  have oth : ∀ (W : World) (i j : Nat) (v : Value), i ≠ j → (W.setCell ⟨b, i, none⟩ v).cell? ⟨b, j, none⟩ = W.cell? ⟨b, j, none⟩ := fun W i j v h => by
    first | exact World.cell?_setCell_other _ _ _ (ne i j h) | exact World.cell?_setCell_other _ _ _ _ (ne i j h) | exact World.cell?_setCell_other _ _ (ne i j h)
  have same : ∀ (W : World) (i : Nat) (v u : Value), W.cell? ⟨b, i, none⟩ = some u → (W.setCell ⟨b, i, none⟩ v).cell? ⟨b, i, none⟩ = some v := fun W i v u h => by
    first | exact World.cell?_setCell_same _ _ _ h | exact World.cell?_setCell_same _ _ h | exact World.cell?_setCell_same _ h
  refine ⟨same _ _ _ u0 h0, same _ _ _ u1 ?_, same _ _ _ u2 ?_, same _ _ _ u3 ?_⟩
  · rw [oth _ _ _ _ (by decide)]; exact h1
  · rw [oth _ _ _ _ (by decide), oth _ _ _ _ (by decide)]; exact h2
  · rw [oth _ _ _ _ (by decide), oth _ _ _ _ (by decide), oth _ _ _ _ (by decide)]; exact h3

set_option maxHeartbeats 2000000 in
theorem piece_any (s : ByteArray) (w : World) (hs : s.size ≤ 1073741824) (herr : Errs w) :
    Calls Tryz.prog 151 #[.string s] w fun e w' => e = .returned (pcV (pc1 s.data.toList)) ∧ Below w.heap.size w w' := by
  have e1 : Errs (w.alloc (.cells #[.int .i64 0, .bool false, .int .i64 0, .int .i64 0] 90)) := herr.below ((Below.refl _ _).alloc (Nat.le_refl _) _)
  go_enter Tryz.func151, Tryz.ntmps151
  go_wp2_with fail
  refine (name_any s _ hs e1).mono ?_
  rintro e w3 ⟨x, y, t, rfl, k3, ht⟩
  have z3 := k3.size
  simp at z3
  have c3 := keepc k3 w.heap.size (by first | omega | (simp; done) | (simp; omega))
  have f3 := keepf k3 w.heap.size (by first | omega | (simp; done) | (simp; omega))
  have bel3 := ((Below.refl w.heap.size w).alloc (Nat.le_refl _) (.cells #[.int .i64 0, .bool false, .int .i64 0, .int .i64 0] 90)).trans (k3.mono (by first | omega | (simp; done) | (simp; omega)))
  clear k3 e1
  have hlt : w.heap.size < w3.heap.size := by omega
  have y0 : w3.cell? ⟨w.heap.size, 0, none⟩ = some (.int .i64 0) := by rw [c3]; simp
  have y1 : w3.cell? ⟨w.heap.size, 1, none⟩ = some (.bool false) := by rw [c3]; simp
  have y2 : w3.cell? ⟨w.heap.size, 2, none⟩ = some (.int .i64 0) := by rw [c3]; simp
  have y3 : w3.cell? ⟨w.heap.size, 3, none⟩ = some (.int .i64 0) := by rw [c3]; simp
  rcases ht with ⟨rfl, hn⟩ | ⟨rfl, rfl, rfl, hn⟩
  · have hp : pc1 s.data.toList = ⟨(nmL (x, y)).length, true, x, y⟩ := by unfold pc1; rw [hn]
    have hsd := ((nameO_some _ _).1 hn).1
    have hz := name_size x y hsd
    have bel3a := bel3.alloc (o := .cells #[.int .i64 x, .int .i64 y] 40) (by omega)
    go_wp2_with fail
    go_region_with (go_at_call 157; refine (nameOf_any _ _ _).mono ?_; rintro e w4 ⟨rfl, k4⟩; have z4 := k4.size; (try simp at z4); have c4 := keepc k4 w.heap.size (by first | omega | (simp; done) | (simp; omega)); have f4 := keepf k4 w.heap.size (by first | omega | (simp; done) | (simp; omega)); have d4 := keepc k4 w3.heap.size (by first | omega | (simp; done) | (simp; omega)); obtain ⟨bb, g4⟩ : Below w.heap.size w w4 ∧ ∀ j, w4.cell? ⟨w.heap.size, j, none⟩ = w3.cell? ⟨w.heap.size, j, none⟩ := (by
      first
      | exact ⟨bel3.trans ((((Below.refl w3.heap.size w3).alloc (Nat.le_refl _) _).mono (by omega)).trans (k4.mono (by first | omega | (simp; done) | (simp; omega)))), fun j => (c4 j).trans (((Below.refl w3.heap.size w3).alloc (Nat.le_refl _) _).cell (p := ⟨w.heap.size, j, none⟩) hlt)⟩
      | exact ⟨bel3.trans ((((Below.refl w3.heap.size w3).alloc (Nat.le_refl _) _).drew.mono (by omega)).trans (k4.mono (by first | omega | (simp; done) | (simp; omega)))), fun j => (c4 j).trans (((Below.refl w3.heap.size w3).alloc (Nat.le_refl _) _).drew.cell (p := ⟨w.heap.size, j, none⟩) hlt)⟩
      | exact ⟨bel3.trans ((((Below.refl w3.heap.size w3).alloc (Nat.le_refl _) _).drew.drew.mono (by omega)).trans (k4.mono (by first | omega | (simp; done) | (simp; omega)))), fun j => (c4 j).trans (((Below.refl w3.heap.size w3).alloc (Nat.le_refl _) _).drew.drew.cell (p := ⟨w.heap.size, j, none⟩) hlt)⟩))
    all_goals
      go_wp2
      refine bodyPost_ret (v := pcV ⟨(nmL (x, y)).length, true, x, y⟩) ?_ rfl ?_
      · obtain ⟨q0, q1, q2, q3⟩ := set4 w4 w.heap.size (.int .i64 ((nmL (x, y)).length : Nat)) (.bool true) (.int .i64 x) (.int .i64 y) _ _ _ _ ((g4 0).trans y0) ((g4 1).trans y1) ((g4 2).trans y2) ((g4 3).trans y3)
        simp [results, Tryz.results151, go_sem, q0, q1, q2, q3]
      · exact ⟨by rw [hp], (((bb.setCell (Nat.le_refl _) _).setCell (Nat.le_refl _) _).setCell (Nat.le_refl _) _).setCell (Nat.le_refl _) _⟩
  · have hp : pc1 s.data.toList = ⟨1, false, 0, 0⟩ := by unfold pc1; rw [hn]
    go_wp2
    refine bodyPost_ret (v := pcV ⟨1, false, 0, 0⟩) ?_ rfl ?_
    · obtain ⟨q0, q1, q2, q3⟩ := set4 w3 w.heap.size (.int .i64 1) (.bool false) (.int .i64 0) (.int .i64 0) _ _ _ _ y0 y1 y2 y3
      have a0 : ∀ (W : World) (o : Obj) (j : Nat), w.heap.size < W.heap.size → (W.alloc o).cell? ⟨w.heap.size, j, none⟩ = W.cell? ⟨w.heap.size, j, none⟩ := fun W o j h => ((Below.refl W.heap.size W).alloc (Nat.le_refl _) o).cell (p := ⟨w.heap.size, j, none⟩) h
      simp [results, Tryz.results151, go_sem, a0, hlt, q0, q1, q2, q3]
    · exact ⟨by rw [hp], ((((bel3.setCell (Nat.le_refl _) _).setCell (Nat.le_refl _) _).setCell (Nat.le_refl _) _).setCell (Nat.le_refl _) _).alloc (by simp; omega) _⟩
end Go.Proofs.YtfmjhbdbgcgoiaaGreatDoor.Nm

/- Walks: an end is read from its text, by the program. -/
import Derived.Test.YtfmjhbdbgcgoiaaGreatDoorShelf
import Derived.Test.YtfmjhbdbgcgoiaaGreatDoorTxts
import Derived.Lib.AtoiErrMem
import Derived.Lib.IndexLaws
import Derived.BigQuiet
import Derived.Deep.QuietTactic
namespace Go.Proofs.YtfmjhbdbgcgoiaaGreatDoor.Read
open Go.RowKit Go.Proofs.YtfmjhbdbgcgoiaaGreatDoor.Kit
open Go.Proofs.YtfmjhbdbgcgoiaaGreatDoor.EndW (sideZ endV)
open Go.Proofs.YtfmjhbdbgcgoiaaGreatDoor.Text (txt txtL txt_list fig implText side_bd txt_len txtL_inj emp)

theorem bdn (B : Nat) (w : World) (n : Nat) : Below B w (w.drewN n) := ⟨rfl, rfl, rfl, Nat.le_refl _, fun _ _ => rfl⟩

/-- a variable of an error's type holds nil, or something of some type -/
def ErrCell (w : World) (g : Nat) : Prop := ∃ ev, w.cell? ⟨g, 0, none⟩ = some ev ∧ (ev = .nilIface ∨ ∃ te pe, ev = .iface te pe)

theorem ErrCell.below {w w' : World} {g : Nat} (h : ErrCell w g) (k : Below w.heap.size w w') : ErrCell w' g := by
  obtain ⟨ev, hc, he⟩ := h
  exact ⟨ev, by rw [k.cell (p := ⟨g, 0, none⟩) (blk hc)]; exact hc, he⟩

/-- the two error variables of the library -/
def Errs (w : World) : Prop := ErrCell w 1 ∧ ErrCell w 2
theorem Errs.below {w w' : World} (h : Errs w) (k : Below w.heap.size w w') : Errs w' := ⟨h.1.below k, h.2.below k⟩

theorem atoi_any (s : ByteArray) (hs : s.size ≤ 1073741824) (w : World) (h : Errs w) :
    Calls Tryz.prog 168 #[.string s] w fun e w' => ∃ v ev, e = .returned (.tuple #[.int .i64 v, ev]) ∧ Below w.heap.size w w' ∧
      ((ev = .nilIface ∧ Lib.atoiAll s.data.toList = .ok v) ∨ ((∃ N, ev = .iface 236 (.pointer (some ⟨N, 0, none⟩))) ∧ ∀ u, Lib.atoiAll s.data.toList ≠ .ok u)) := by
  cases hr : Lib.atoiAll s.data.toList with
  | ok v =>
    refine (Tryz.strconv_Atoi_ok s (by omega) v hr w).mono ?_
    rintro e w' ⟨rfl, hw⟩
    refine ⟨v, _, rfl, ?_, .inl ⟨rfl, rfl⟩⟩
    rcases hw with rfl | ⟨t, rfl⟩
    · exact Below.refl _ _
    · exact Lib.bytesWorld_below _ _ _
  | «syntax» =>
    obtain ⟨ev, hc, he⟩ := h.1
    refine (Tryz.strconv_Atoi_syntax s (by omega) hr ev w hc he).mono ?_
    rintro e w' ⟨N, rfl, _, _, k⟩
    exact ⟨_, _, rfl, k, .inr ⟨⟨N, rfl⟩, fun u => by simp⟩⟩
  | range =>
    obtain ⟨ev, hc, he⟩ := h.2
    refine (Tryz.strconv_Atoi_range s (by omega) hr ev w hc he).mono ?_
    rintro e w' ⟨N, rfl, _, _, k⟩
    exact ⟨_, _, rfl, k, .inr ⟨⟨N, rfl⟩, fun u => by simp⟩⟩

set_option maxHeartbeats 1000000 in
theorem cut_no (s : ByteArray) (w : World) (hi : Lib.indexByte s.data.toList 58 = -1) :
    Calls Tryz.prog 167 #[.string s, .string ⟨#[58]⟩] w fun e w' => e = .returned (.tuple #[.string s, .string ⟨#[]⟩, .bool false]) ∧ w' = w := by
  go_enter Tryz.func167, Tryz.ntmps167
  go_wp2_with (go_at_call 171; refine (Tryz.stringslite_Index_one _ _ _).mono ?_; rintro e w1 ⟨rfl, rfl⟩)
  go_ret3
  exact ⟨rfl, rfl⟩

set_option maxHeartbeats 1000000 in
theorem cut_yes (s : ByteArray) (i : Nat) (w : World) (hs : (s.size : Int) ≤ 1073741824) (hi : Lib.indexByte s.data.toList 58 = (i : Int)) (hl : (i : Int) < (s.size : Int)) :
    Calls Tryz.prog 167 #[.string s, .string ⟨#[58]⟩] w fun e w' => e = .returned (.tuple #[.string (s.extract 0 i), .string (s.extract (i + 1) s.size), .bool true]) ∧ ∃ n, w' = w.drewN n := by
  go_enter Tryz.func167, Tryz.ntmps167
  go_wp2_with (go_at_call 171; refine (Tryz.stringslite_Index_one _ _ _).mono ?_; rintro e w1 ⟨rfl, rfl⟩)
  go_quiet (fail)
  go_wp2
  go_ret3
  exact ⟨rfl, _, rfl⟩

set_option maxHeartbeats 1000000 in
theorem scut_no (s : ByteArray) (w : World) (hi : Lib.indexByte s.data.toList 58 = -1) :
    Calls Tryz.prog 162 #[.string s, .string ⟨#[58]⟩] w fun e w' => e = .returned (.tuple #[.string s, .string ⟨#[]⟩, .bool false]) ∧ w' = w := by
  go_enter Tryz.func162, Tryz.ntmps162
  go_wp2_with (go_at_call 167; refine (cut_no _ _ hi).mono ?_; rintro e w1 ⟨rfl, rfl⟩)
  go_ret3
  exact ⟨rfl, rfl⟩

set_option maxHeartbeats 1000000 in
theorem scut_yes (s : ByteArray) (i : Nat) (w : World) (hs : (s.size : Int) ≤ 1073741824) (hi : Lib.indexByte s.data.toList 58 = (i : Int)) (hl : (i : Int) < (s.size : Int)) :
    Calls Tryz.prog 162 #[.string s, .string ⟨#[58]⟩] w fun e w' => e = .returned (.tuple #[.string (s.extract 0 i), .string (s.extract (i + 1) s.size), .bool true]) ∧ ∃ n, w' = w.drewN n := by
  go_enter Tryz.func162, Tryz.ntmps162
  go_wp2_with (go_at_call 167; refine (cut_yes _ i _ hs hi hl).mono ?_; rintro e w1 ⟨rfl, n, rfl⟩)
  go_ret3
  exact ⟨rfl, n, rfl⟩

/-- what EndRead answers -/
def Told (s : ByteArray) (x y : Int) (b : Bool) : Prop :=
  (b = true ∧ sideZ x y ≠ 0 ∧ s.toList = txtL x y) ∨ (b = false ∧ x = 0 ∧ y = 0 ∧ ∀ u v, sideZ u v ≠ 0 → s.toList ≠ txtL u v)

theorem parse_all : ∀ a : Fin 10, ∀ b : Fin 18, 1 ≤ a.val → 1 ≤ b.val → Lib.indexByte (txtL a.val b.val) 58 = 1 ∧ Lib.atoiAll ((txtL a.val b.val).take 1) = .ok (a.val : Int) ∧ Lib.atoiAll ((txtL a.val b.val).drop 2) = .ok (b.val : Int) := by decide +kernel

theorem parse_ok (x y : Int) (h : sideZ x y ≠ 0) : Lib.indexByte (txtL x y) 58 = 1 ∧ Lib.atoiAll ((txtL x y).take 1) = .ok x ∧ Lib.atoiAll ((txtL x y).drop 2) = .ok y := by
  have hb := side_bd x y h
  obtain ⟨a, rfl⟩ := Int.eq_ofNat_of_zero_le (show 0 ≤ x by omega)
  obtain ⟨b, rfl⟩ := Int.eq_ofNat_of_zero_le (show 0 ≤ y by omega)
  exact parse_all ⟨a, by omega⟩ ⟨b, by omega⟩ (by simp; omega) (by simp; omega)

theorem parts (s : ByteArray) (i : Nat) (u v : Int) (h : sideZ u v ≠ 0) (e : s.toList = txtL u v) (hi : Lib.indexByte s.data.toList 58 = (i : Int)) :
    Lib.atoiAll (s.extract 0 i).data.toList = .ok u ∧ Lib.atoiAll (s.extract (i + 1) s.size).data.toList = .ok v := by
  have e2 : s.data.toList = txtL u v := by rw [← ByteArray.toList_eq]; exact e
  have hp := parse_ok u v h
  rw [e2, hp.1] at hi
  obtain rfl : i = 1 := by omega
  have hz : s.size = (txtL u v).length := by rw [← e2]; rfl
  rw [Lib.extract_data, Lib.extract_data, e2]
  refine ⟨by simpa using hp.2.1, ?_⟩
  rw [List.take_of_length_le (by rw [List.length_drop]; omega)]
  exact hp.2.2

theorem told_false {s : ByteArray} (h : ∀ u v, sideZ u v ≠ 0 → s.toList ≠ txtL u v) : Told s 0 0 false := .inr ⟨rfl, rfl, rfl, h⟩

set_option maxHeartbeats 1000000 in
theorem read_none (s : ByteArray) (w : World) (hi : Lib.indexByte s.data.toList 58 = -1) :
    Calls Tryz.prog 163 #[.string s] w fun e w' => e = .returned (.tuple #[endV 0 0, .bool false]) ∧ Below w.heap.size w w' := by
  go_enter Tryz.func163, Tryz.ntmps163
  go_wp2_with (go_at_call 162; refine (scut_no _ _ hi).mono ?_; rintro e w1 ⟨rfl, rfl⟩)
  refine bodyPost_ret (v := .tuple #[endV 0 0, .bool false]) ?_ rfl ?_
  · simp [results, Tryz.results163, go_sem]
  · exact ⟨rfl, (Below.refl _ _).alloc (Nat.le_refl _) _⟩

set_option maxHeartbeats 2000000 in
theorem read_some (s : ByteArray) (i : Nat) (w : World) (hs : (s.size : Int) ≤ 1073741824) (hi : Lib.indexByte s.data.toList 58 = (i : Int)) (hl : (i : Int) < (s.size : Int)) (herr : Errs w) :
    Calls Tryz.prog 163 #[.string s] w fun e w' => ∃ x y b, e = .returned (.tuple #[endV x y, .bool b]) ∧ Below w.heap.size w w' ∧ Told s x y b := by
  have e1 : Errs (w.alloc (.cells #[.int .i64 0, .int .i64 0] 40)) := herr.below ((Below.refl _ _).alloc (Nat.le_refl _) _)
  have HI : Hid (Lib.indexByte s.data.toList 58 = (i : Int)) := hi
  go_enter Tryz.func163, Tryz.ntmps163
  go_wp2_with fail
  refine (scut_yes s i _ hs hi hl).mono ?_
  rintro e w1 ⟨rfl, n, rfl⟩
  clear hi
  have la : (s.extract 0 i).size ≤ 1073741824 := by rw [ByteArray.size_extract]; omega
  have lb : (s.extract (i + 1) s.size).size ≤ 1073741824 := by rw [ByteArray.size_extract]; omega
  have e2 : Errs ((w.alloc (.cells #[.int .i64 0, .int .i64 0] 40)).drewN n) := e1.below (bdn _ _ _)
  have bel2 : Below w.heap.size w ((w.alloc (.cells #[.int .i64 0, .int .i64 0] 40)).drewN n) := ((Below.refl _ _).alloc (Nat.le_refl _) _).trans (bdn _ _ _)
  have HP : Hid (∀ u v, sideZ u v ≠ 0 → s.toList = txtL u v → Lib.atoiAll (s.extract 0 i).data.toList = .ok u ∧ Lib.atoiAll (s.extract (i + 1) s.size).data.toList = .ok v) := fun u v h e => parts s i u v h e HI.out
  clear HI
  go_wp2_with fail
  generalize s.extract 0 i = A at *
  generalize s.extract (i + 1) s.size = B at *
  refine (atoi_any A la _ e2).mono ?_
  rintro e w3 ⟨va, ea, rfl, k3, ha⟩
  have e3 := e2.below k3
  have z3 := k3.size
  simp at z3
  have c3 := keepc k3 w.heap.size (by first | omega | (simp; done) | (simp; omega))
  have f3 := keepf k3 w.heap.size (by first | omega | (simp; done) | (simp; omega))
  have bel3 := bel2.trans (k3.mono (by first | omega | (simp; done) | (simp; omega)))
  clear k3 bel2 e2 e1
  rcases ha with ⟨rfl, ha⟩ | ⟨⟨N, rfl⟩, ha⟩
  · have HA : Hid (Lib.atoiAll A.data.toList = .ok va) := ha
    clear ha
    go_wp2_with fail
    refine (atoi_any B lb _ e3).mono ?_
    rintro e w4 ⟨vb, eb, rfl, k4, hb⟩
    have z4 := k4.size
    have c4 := fun j => (keepc k4 w.heap.size (by first | omega | (simp; done) | (simp; omega)) j).trans (c3 j)
    have f4 := fun j => (keepf k4 w.heap.size (by first | omega | (simp; done) | (simp; omega)) j).trans (f3 j)
    have bel4 := bel3.trans (k4.mono (by first | omega | (simp; done) | (simp; omega)))
    clear k4 bel3 e3 c3 f3
    rcases hb with ⟨rfl, hb⟩ | ⟨⟨N, rfl⟩, hb⟩
    · have HB : Hid (Lib.atoiAll B.data.toList = .ok vb) := hb
      clear hb
      have hlt : w.heap.size < w4.heap.size := by omega
      go_wp2_with fail
      refine (implText _ _ _).mono ?_
      rintro e w5 ⟨rfl, k5⟩
      have z5 := k5.size
      simp at z5
      have c5 := keepc k5 w.heap.size (by first | omega | (simp; done) | (simp; omega))
      have f5 := keepf k5 w.heap.size (by first | omega | (simp; done) | (simp; omega))
      have d5 := keepc k5 w4.heap.size (by first | omega | (simp; done) | (simp; omega))
      have bel5 := (bel4.alloc (o := .cells #[.int .i64 va, .int .i64 vb] 40) (by omega)).trans (k5.mono (by first | omega | (simp; done) | (simp; omega)))
      have q5 := fun j => (c5 j).trans ((Below.cell (p := ⟨w.heap.size, j, none⟩) ((Below.refl w4.heap.size w4).alloc (Nat.le_refl _) (.cells #[.int .i64 va, .int .i64 vb] 40)) hlt).trans (c4 j))
      clear k5
      cases hq : ((txt va vb).toList == s.toList)
      · go_wp2
        refine bodyPost_ret (v := .tuple #[endV 0 0, .bool false]) ?_ rfl ?_
        · simp [results, Tryz.results163, go_sem, q5]
        · refine ⟨0, 0, false, rfl, (bel5.setCell (Nat.le_refl _) _).setCell (Nat.le_refl _) _, told_false fun u v h e => ?_⟩
          obtain ⟨ha, hb⟩ := HP.out u v h e
          rw [HA.out] at ha
          rw [HB.out] at hb
          cases ha; cases hb
          rw [beq_eq_false_iff_ne] at hq
          exact hq ((txt_list _ _ h).trans e.symm)
      · go_wp2
        refine bodyPost_ret (v := .tuple #[endV va vb, .bool true]) ?_ rfl ?_
        · simp [results, Tryz.results163, go_sem, q5]
        · refine ⟨va, vb, true, rfl, (bel5.setCell (Nat.le_refl _) _).setCell (Nat.le_refl _) _, .inl ⟨rfl, ?_, ?_⟩⟩
          · intro h0
            have he := emp va vb
            rw [h0] at he
            have hq' := eq_of_beq hq
            rw [hq'] at he
            have hne : s.toList.length ≠ 0 := by rw [ByteArray.toList_eq, Array.length_toList]; show s.size ≠ 0; omega
            cases hl2 : s.toList with
            | nil => rw [hl2] at hne; exact hne rfl
            | cons a b => rw [hl2] at he; cases he
          · rw [← eq_of_beq hq]
            apply txt_list
            intro h0
            have he := emp va vb
            rw [h0] at he
            have hq' := eq_of_beq hq
            rw [hq'] at he
            have hne : s.toList.length ≠ 0 := by rw [ByteArray.toList_eq, Array.length_toList]; show s.size ≠ 0; omega
            cases hl2 : s.toList with
            | nil => rw [hl2] at hne; exact hne rfl
            | cons a b => rw [hl2] at he; cases he
    · go_wp2
      refine bodyPost_ret (v := .tuple #[endV 0 0, .bool false]) ?_ rfl ?_
      · simp [results, Tryz.results163, go_sem, c4]
      · refine ⟨0, 0, false, rfl, (bel4.setCell (Nat.le_refl _) _).setCell (Nat.le_refl _) _, told_false fun u v h e => ?_⟩
        exact hb _ (HP.out u v h e).2
  · go_wp2_with fail
    refine (atoi_any B lb _ e3).mono ?_
    rintro e w4 ⟨vb, eb, rfl, k4, hb⟩
    have z4 := k4.size
    have c4 := fun j => (keepc k4 w.heap.size (by first | omega | (simp; done) | (simp; omega)) j).trans (c3 j)
    have f4 := fun j => (keepf k4 w.heap.size (by first | omega | (simp; done) | (simp; omega)) j).trans (f3 j)
    have bel4 := bel3.trans (k4.mono (by first | omega | (simp; done) | (simp; omega)))
    clear k4 bel3 e3 c3 f3 hb
    go_wp2
    refine bodyPost_ret (v := .tuple #[endV 0 0, .bool false]) ?_ rfl ?_
    · simp [results, Tryz.results163, go_sem, c4]
    · refine ⟨0, 0, false, rfl, (bel4.setCell (Nat.le_refl _) _).setCell (Nat.le_refl _) _, told_false fun u v h e => ?_⟩
      exact ha _ (HP.out u v h e).1

/-- EndRead answers the end whose text this is; nothing and false, if it is of none -/
theorem read_any (s : ByteArray) (w : World) (hs : s.size ≤ 1073741824) (herr : Errs w) :
    Calls Tryz.prog 163 #[.string s] w fun e w' => ∃ x y b, e = .returned (.tuple #[endV x y, .bool b]) ∧ Below w.heap.size w w' ∧ Told s x y b := by
  by_cases hi : Lib.indexByte s.data.toList 58 = -1
  · refine (read_none s w hi).mono ?_
    rintro e w' ⟨rfl, k⟩
    refine ⟨0, 0, false, rfl, k, told_false fun u v h e => ?_⟩
    have hp := parse_ok u v h
    rw [← ByteArray.toList_eq, e, hp.1] at hi
    cases hi
  · have hge := Lib.indexByte_ge s.data.toList 58
    obtain ⟨i, hi2⟩ := Int.eq_ofNat_of_zero_le (show 0 ≤ Lib.indexByte s.data.toList 58 by omega)
    have hsm := (Lib.indexByte_some hi2).1
    have hl : i < s.size := by
      rcases Nat.lt_or_ge i s.data.toList.length with h | h
      · exact h
      · rw [List.getElem?_eq_none h] at hsm; cases hsm
    exact read_some s i w (by omega) hi2 (by omega) herr
end Go.Proofs.YtfmjhbdbgcgoiaaGreatDoor.Read

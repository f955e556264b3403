/- Walks: which end a text names at its beginning, by the program; the piece that it begins with. -/
import Derived.Test.YtfmjhbdbgcgoiaaGreatDoorRead
import Derived.Test.YtfmjhbdbgcgoiaaGreatDoorTxts
import Derived.Test.YtfmjhbdbgcgoiaaGreatDoorTxPr
namespace Go.Proofs.YtfmjhbdbgcgoiaaGreatDoor.Nm
open Go.RowKit Go.Proofs.YtfmjhbdbgcgoiaaGreatDoor.Kit Go.Proofs.YtfmjhbdbgcgoiaaGreatDoor.Tx
open Go.Proofs.YtfmjhbdbgcgoiaaGreatDoor.EndW (sideZ endV)
open Go.Proofs.YtfmjhbdbgcgoiaaGreatDoor.Text (txt txtL txt_list implText side_bd txt_len)
open Go.Proofs.YtfmjhbdbgcgoiaaGreatDoor.Read (Errs read_any)

theorem ext_from (s : ByteArray) (a : Nat) : (s.extract a s.size).data.toList = s.data.toList.drop a := by
  rw [ByteArray.data_extract, Array.toList_extract, List.extract_eq_take_drop]
  exact List.take_of_length_le (by rw [List.length_drop, lenL]; exact Nat.le_refl _)
theorem ext_to (s : ByteArray) (a b : Nat) : (s.extract a b).data.toList = (s.data.toList.drop a).take (b - a) := by
  rw [ByteArray.data_extract, Array.toList_extract, List.extract_eq_take_drop]

/-- what a search for a name says -/
def Nmd (l : List UInt8) (x y : Int) (t : Bool) : Prop := (t = true ∧ nameO l = some (x, y)) ∨ (t = false ∧ x = 0 ∧ y = 0 ∧ nameO l = none)

theorem nmd_noat (l : List UInt8) (h : ∀ t, l ≠ 64 :: t) : nameO l = none := by
  refine (nameO_none l).2 fun e he => ?_
  obtain ⟨t, ht⟩ := he.2
  exact h (txtL e.1 e.2 ++ [59] ++ t) (by rw [← ht]; simp [nmL])

theorem txt_no59 (e : Int × Int) (h : sideZ e.1 e.2 ≠ 0) (k : Nat) : (txtL e.1 e.2)[k]? ≠ some 59 := by
  have h9 : (59 : UInt8).toNat = 59 := rfl
  intro hk
  have hm : (59 : UInt8) ∈ txtL e.1 e.2 := List.mem_of_getElem? hk
  rcases nm_shape e h with ⟨a, b, _, e1, ha, hb, hb1, hb2, _⟩ | ⟨a, b, c1, _, e1, ha, hb, hb1, hb2, hx, hy, _⟩
  · rw [e1] at hm
    simp at hm
    rcases hm with rfl | rfl <;> omega
  · rw [e1] at hm
    simp at hm
    rcases hm with rfl | rfl | rfl <;> omega

theorem nmd_no59 (r : List UInt8) (h : ∀ k : Nat, r[k]? ≠ some 59) : nameO (64 :: r) = none := by
  refine (nameO_none _).2 fun e he => ?_
  obtain ⟨t, ht⟩ := he.2
  have hr : r = txtL e.1 e.2 ++ ([59] ++ t) := by
    have : nmL e ++ t = 64 :: (txtL e.1 e.2 ++ ([59] ++ t)) := by simp [nmL]
    rw [this] at ht; exact (List.cons.inj ht).2.symm
  refine h (txtL e.1 e.2).length ?_
  rw [hr, List.getElem?_append_right (Nat.le_refl _)]; simp

theorem nmd_yes (r : List UInt8) (i : Nat) (inner : ByteArray) (x y : Int) (t : Bool) (hi : r[i]? = some 59) (hn : ∀ k : Nat, k < i → r[k]? ≠ some 59)
    (he : inner.data.toList = r.take i) (ht : Read.Told inner x y t) : Nmd (64 :: r) x y t := by
  rcases ht with ⟨rfl, hs, hl⟩ | ⟨rfl, rfl, rfl, hl⟩
  · refine .inl ⟨rfl, (nameO_some _ _).2 ⟨hs, ?_⟩⟩
    rw [ByteArray.toList_eq, he] at hl
    refine ⟨r.drop (i + 1), ?_⟩
    have hd : r.drop i = 59 :: r.drop (i + 1) := by
      have hlt : i < r.length := by
        rcases Nat.lt_or_ge i r.length with h | h
        · exact h
        · rw [List.getElem?_eq_none h] at hi; cases hi
      rw [List.drop_eq_getElem_cons hlt]
      rw [List.getElem?_eq_getElem hlt] at hi
      rw [Option.some.inj hi]
    show (64 :: (txtL x y ++ [59])) ++ _ = 64 :: r
    rw [← hl, List.cons_append, List.append_assoc, List.singleton_append, ← hd, List.take_append_drop]
  · refine .inr ⟨rfl, rfl, rfl, (nameO_none _).2 fun e hE => ?_⟩
    obtain ⟨u, hu⟩ := hE.2
    have hr : r = txtL e.1 e.2 ++ ([59] ++ u) := by
      have : nmL e ++ u = 64 :: (txtL e.1 e.2 ++ ([59] ++ u)) := by simp [nmL]
      rw [this] at hu; exact (List.cons.inj hu).2.symm
    have hlen : i = (txtL e.1 e.2).length := by
      rcases Nat.lt_trichotomy i (txtL e.1 e.2).length with h | h | h
      · exfalso
        rw [hr, List.getElem?_append_left h] at hi
        exact txt_no59 e hE.1 i hi
      · exact h
      · exfalso
        refine hn _ h ?_
        rw [hr, List.getElem?_append_right (Nat.le_refl _)]; simp
    refine hl e.1 e.2 hE.1 ?_
    rw [ByteArray.toList_eq, he, hr, hlen, List.take_left']
    rfl

set_option maxHeartbeats 1000000 in
theorem ncut_no (s : ByteArray) (w : World) (hi : Lib.indexByte s.data.toList 59 = -1) :
    Calls Tryz.prog 167 #[.string s, .string ⟨#[59]⟩] w fun e w' => e = .returned (.tuple #[.string s, .string ⟨#[]⟩, .bool false]) ∧ w' = w := by
  go_enter Tryz.func167, Tryz.ntmps167
  go_wp2_with (go_at_call 171; refine (Tryz.stringslite_Index_one _ _ _).mono ?_; rintro e w1 ⟨rfl, rfl⟩)
  go_ret3
  exact ⟨rfl, rfl⟩

set_option maxHeartbeats 1000000 in
theorem ncut_yes (s : ByteArray) (i : Nat) (w : World) (hs : (s.size : Int) ≤ 1073741824) (hi : Lib.indexByte s.data.toList 59 = (i : Int)) (hl : (i : Int) < (s.size : Int)) :
    Calls Tryz.prog 167 #[.string s, .string ⟨#[59]⟩] w fun e w' => e = .returned (.tuple #[.string (s.extract 0 i), .string (s.extract (i + 1) s.size), .bool true]) ∧ ∃ n, w' = w.drewN n := by
  go_enter Tryz.func167, Tryz.ntmps167
  go_wp2_with (go_at_call 171; refine (Tryz.stringslite_Index_one _ _ _).mono ?_; rintro e w1 ⟨rfl, rfl⟩)
  go_quiet (fail)
  go_wp2
  go_ret3
  exact ⟨rfl, _, rfl⟩

set_option maxHeartbeats 1000000 in
theorem sncut_no (s : ByteArray) (w : World) (hi : Lib.indexByte s.data.toList 59 = -1) :
    Calls Tryz.prog 162 #[.string s, .string ⟨#[59]⟩] w fun e w' => e = .returned (.tuple #[.string s, .string ⟨#[]⟩, .bool false]) ∧ w' = w := by
  go_enter Tryz.func162, Tryz.ntmps162
  go_wp2_with (go_at_call 167; refine (ncut_no _ _ hi).mono ?_; rintro e w1 ⟨rfl, rfl⟩)
  go_ret3
  exact ⟨rfl, rfl⟩

set_option maxHeartbeats 1000000 in
theorem sncut_yes (s : ByteArray) (i : Nat) (w : World) (hs : (s.size : Int) ≤ 1073741824) (hi : Lib.indexByte s.data.toList 59 = (i : Int)) (hl : (i : Int) < (s.size : Int)) :
    Calls Tryz.prog 162 #[.string s, .string ⟨#[59]⟩] w fun e w' => e = .returned (.tuple #[.string (s.extract 0 i), .string (s.extract (i + 1) s.size), .bool true]) ∧ ∃ n, w' = w.drewN n := by
  go_enter Tryz.func162, Tryz.ntmps162
  go_wp2_with (go_at_call 167; refine (ncut_yes _ i _ hs hi hl).mono ?_; rintro e w1 ⟨rfl, n, rfl⟩)
  go_ret3
  exact ⟨rfl, n, rfl⟩

theorem first_byte (s : ByteArray) (h : 0 < s.size) : (s.extract 0 1).data.toList = [s.data[0]'h] := by
  rw [ext_to]
  have : s.data.toList = s.data[0]'h :: s.data.toList.drop 1 := by
    have hl : 0 < s.data.toList.length := by rw [lenL]; exact h
    exact (List.drop_zero).symm.trans (List.drop_eq_getElem_cons hl)
  rw [this]; rfl

set_option maxHeartbeats 1000000 in
theorem has_empty (s : ByteArray) (w : World) (h : s.size = 0) :
    Calls Tryz.prog 170 #[.string s, .string ⟨#[64]⟩] w fun e w' => e = .returned (.bool false) ∧ w' = w := by
  have h' : (s.size : Int) < 1 := by omega
  go_enter Tryz.func170, Tryz.ntmps170
  go_wp2
  go_ret
  exact ⟨rfl, rfl⟩

set_option maxHeartbeats 1000000 in
theorem has_some (s : ByteArray) (w : World) (h : 0 < s.size) :
    Calls Tryz.prog 170 #[.string s, .string ⟨#[64]⟩] w fun e w' => e = .returned (.bool (s.data[0]'h == 64)) ∧ w' = w := by
  have h' : (1 : Int) ≤ s.size := by omega
  have hf := first_byte s h
  go_enter Tryz.func170, Tryz.ntmps170
  go_wp2
  go_ret
  refine ⟨congrArg (fun b => Ending.returned (Value.bool b)) ?_, rfl⟩
  rw [ByteArray.toList_eq, hf]
  simp

/-- does a text begin with '@' -/
def atB (s : ByteArray) : Bool := s.data.toList.head? == some 64
theorem at_head (s : ByteArray) (h : 0 < s.size) : s.data.toList.head? = some (s.data[0]'h) := by
  have hl : 0 < s.data.toList.length := by rw [lenL]; exact h
  rw [List.head?_eq_getElem?, List.getElem?_eq_getElem hl]; rfl
theorem has_any (s : ByteArray) (w : World) :
    Calls Tryz.prog 170 #[.string s, .string ⟨#[64]⟩] w fun e w' => e = .returned (.bool (atB s)) ∧ w' = w := by
  by_cases h : 0 < s.size
  · have e : atB s = (s.data[0]'h == 64) := by unfold atB; rw [at_head s h]; rfl
    rw [e]; exact has_some s w h
  · have e : atB s = false := by
      have : s.data.toList = [] := List.length_eq_zero_iff.1 (by rw [lenL]; omega)
      unfold atB; rw [this]; rfl
    rw [e]; exact has_empty s w (by omega)

set_option maxHeartbeats 1000000 in
theorem cutp_no (s : ByteArray) (w : World) (h : atB s = false) :
    Calls Tryz.prog 166 #[.string s, .string ⟨#[64]⟩] w fun e w' => e = .returned (.tuple #[.string s, .bool false]) ∧ w' = w := by
  go_enter Tryz.func166, Tryz.ntmps166
  go_wp2_with (go_at_call 170; refine (has_any _ _).mono ?_; rintro e w1 ⟨rfl, rfl⟩)
  go_ret2
  exact ⟨rfl, rfl⟩
set_option maxHeartbeats 1000000 in
theorem cutp_yes (s : ByteArray) (w : World) (h : atB s = true) (h1 : 1 ≤ (s.size : Int)) :
    Calls Tryz.prog 166 #[.string s, .string ⟨#[64]⟩] w fun e w' => e = .returned (.tuple #[.string (s.extract 1 s.size), .bool true]) ∧ w' = w := by
  go_enter Tryz.func166, Tryz.ntmps166
  go_wp2_with (go_at_call 170; refine (has_any _ _).mono ?_; rintro e w1 ⟨rfl, rfl⟩)
  go_ret2
  exact ⟨rfl, rfl⟩
set_option maxHeartbeats 1000000 in
theorem scutp_no (s : ByteArray) (w : World) (h : atB s = false) :
    Calls Tryz.prog 161 #[.string s, .string ⟨#[64]⟩] w fun e w' => e = .returned (.tuple #[.string s, .bool false]) ∧ w' = w := by
  go_enter Tryz.func161, Tryz.ntmps161
  go_wp2_with (go_at_call 166; refine (cutp_no _ _ h).mono ?_; rintro e w1 ⟨rfl, rfl⟩)
  go_ret2
  exact ⟨rfl, rfl⟩
set_option maxHeartbeats 1000000 in
theorem scutp_yes (s : ByteArray) (w : World) (h : atB s = true) (h1 : 1 ≤ (s.size : Int)) :
    Calls Tryz.prog 161 #[.string s, .string ⟨#[64]⟩] w fun e w' => e = .returned (.tuple #[.string (s.extract 1 s.size), .bool true]) ∧ w' = w := by
  go_enter Tryz.func161, Tryz.ntmps161
  go_wp2_with (go_at_call 166; refine (cutp_yes _ _ h h1).mono ?_; rintro e w1 ⟨rfl, rfl⟩)
  go_ret2
  exact ⟨rfl, rfl⟩
end Go.Proofs.YtfmjhbdbgcgoiaaGreatDoor.Nm

/- Walks: an end is read from its text, by the model. -/
import Derived.Test.YtfmjhbdbgcgoiaaGreatDoorRead
import Derived.LoopN
namespace Go.Proofs.YtfmjhbdbgcgoiaaGreatDoor.Read
open Go.RowKit Go.Proofs.YtfmjhbdbgcgoiaaGreatDoor.Kit
open Go.Proofs.YtfmjhbdbgcgoiaaGreatDoor.EndW (sideZ endV l6in_any inB)
open Go.Proofs.YtfmjhbdbgcgoiaaGreatDoor.Text (txt txtL txt_list fig specText side_bd txt_len txtL_inj emp)

/-- what a byte is as a figure -/
def digZ (c : UInt8) : Int := if c.toNat < 48 ∨ 57 < c.toNat then -1 else (c.toNat : Int) - 48
theorem digZ_bd (c : UInt8) : -1 ≤ digZ c ∧ digZ c ≤ 9 := by
  unfold digZ; split <;> omega
theorem dig_fig (n : Int) (h0 : 0 ≤ n) (h1 : n ≤ 9) : digZ (fig n) = n := by
  have e : (fig n).toNat = (48 + n).toNat := by
    unfold fig
    simp [Nat.toUInt8]; omega
  unfold digZ
  rw [e, if_neg (by omega)]
  omega

set_option maxHeartbeats 400000 in
theorem digit_any (c : UInt8) (w : World) :
    Calls Tryz.prog 148 #[.int .u8 (c.toNat : Int)] w fun e w' => e = .returned (.int .i64 (digZ c)) ∧ w' = w := by
  have hc : c.toNat < 256 := c.toNat_lt
  by_cases h1 : c.toNat < 48
  · have e0 : digZ c = -1 := by unfold digZ; rw [if_pos (by omega)]
    rw [e0]
    have hi : (c.toNat : Int) < 48 := by omega
    go_enter Tryz.func148, Tryz.ntmps148
    go_wp2
    go_ret
    exact ⟨rfl, rfl⟩
  · by_cases h2 : 57 < c.toNat
    · have e0 : digZ c = -1 := by unfold digZ; rw [if_pos (by omega)]
      rw [e0]
      have hi : 48 ≤ (c.toNat : Int) := by omega
      have hj : 57 < (c.toNat : Int) := by omega
      go_enter Tryz.func148, Tryz.ntmps148
      go_wp2
      go_ret
      exact ⟨rfl, rfl⟩
    · have e0 : digZ c = (c.toNat : Int) - 48 := by unfold digZ; rw [if_neg (by omega)]
      rw [e0]
      have hi : 48 ≤ (c.toNat : Int) := by omega
      have hj : (c.toNat : Int) ≤ 57 := by omega
      go_enter Tryz.func148, Tryz.ntmps148
      go_wp2
      go_ret
      exact ⟨rfl, rfl⟩

set_option maxHeartbeats 1000000 in
theorem sread_len (s : ByteArray) (w : World) (hn : inB (s.size : Int) 3 4 = false) :
    Calls Tryz.prog 132 #[.string s] w fun e w' => e = .returned (.tuple #[endV 0 0, .bool false]) ∧ Below w.heap.size w w' := by
  go_enter Tryz.func132, Tryz.ntmps132
  go_wp2_with (go_at_call 55; refine (l6in_any _ _ _ _).mono ?_; rintro e w1 ⟨rfl, rfl⟩)
  refine bodyPost_ret (v := .tuple #[endV 0 0, .bool false]) ?_ rfl ?_
  · simp [results, Tryz.results132, go_sem]
  · exact ⟨rfl, (Below.refl _ _).alloc (Nat.le_refl _) _⟩

theorem wrap_in (x : Int) (h0 : -1000 ≤ x) (h1 : x ≤ 1000) : IntKind.i64.wrap x = x := by
  simp [IntKind.wrap, IntKind.bits, IntKind.signed]; omega

theorem says3 (a b c : UInt8) (u v : Int) (h : sideZ u v ≠ 0) (e : (⟨#[a, b, c]⟩ : ByteArray).toList = txtL u v) : digZ a = u ∧ digZ c = v := by
  have hb := side_bd u v h
  rw [ByteArray.toList_eq] at e
  unfold txtL at e
  split at e
  · simp only [List.cons.injEq] at e
    obtain ⟨rfl, _, rfl, _⟩ := e
    exact ⟨dig_fig _ (by omega) (by omega), dig_fig _ (by omega) (by omega)⟩
  · simp at e

set_option maxHeartbeats 4000000 in
theorem sread3 (a b c : UInt8) (w : World) :
    Calls Tryz.prog 132 #[.string ⟨#[a, b, c]⟩] w fun e w' => ∃ x y t, e = .returned (.tuple #[endV x y, .bool t]) ∧ Below w.heap.size w w' ∧ Told ⟨#[a, b, c]⟩ x y t := by
  have hn : inB 3 3 4 = true := rfl
  have i0 : ((⟨#[a, b, c]⟩ : ByteArray)[0]'(show 0 < 3 by decide)) = a := rfl
  have i2 : ((⟨#[a, b, c]⟩ : ByteArray)[2]'(show 2 < 3 by decide)) = c := rfl
  obtain ⟨ha0, ha1⟩ := digZ_bd a
  obtain ⟨hc0, hc1⟩ := digZ_bd c
  have wc : IntKind.i64.wrap (digZ c) = digZ c := wrap_in _ (by omega) (by omega)
  go_enter Tryz.func132, Tryz.ntmps132
  go_wp2_with (first | (go_at_call 55; refine (l6in_any _ _ _ _).mono ?_; rintro e w1 ⟨rfl, rfl⟩) | (go_at_call 148; refine (digit_any _ _).mono ?_; rintro e w1 ⟨rfl, rfl⟩))
  refine wp_loop_rounds 2 ?_
  rw [rounds_succ]
  go_wp2_with fail
  go_region_with (go_at_call 148; refine (digit_any _ _).mono ?_; rintro e w1 ⟨rfl, rfl⟩)
  all_goals
    go_wp2
    rw [rounds_succ]
    go_wp2_with fail
    refine (specText _ _ _).mono ?_
    rintro e w2 ⟨rfl, k2⟩
    have z2 := k2.size
    simp at z2
    have c2 := keepc k2 w.heap.size (by first | omega | (simp; done) | (simp; omega))
    have f2 := keepf k2 w.heap.size (by first | omega | (simp; done) | (simp; omega))
    have d2 := keepc k2 (w.heap.size + 1) (by first | omega | (simp; done) | (simp; omega))
    have bel2 : Below w.heap.size w w2 := by
      first
      | exact ((((Below.refl _ _).alloc (Nat.le_refl _) _).alloc (by simp) _).drew).trans (k2.mono (by first | omega | (simp; done) | (simp; omega)))
      | exact ((((Below.refl _ _).alloc (Nat.le_refl _) _).alloc (by simp) _).drew.drew).trans (k2.mono (by first | omega | (simp; done) | (simp; omega)))
    clear k2
    cases hq : ((txt (digZ a) (digZ c)).toList == [a, b, c])
    · go_wp2
      refine bodyPost_ret (v := .tuple #[endV 0 0, .bool false]) ?_ rfl ?_
      · simp [results, Tryz.results132, go_sem, c2]
      · refine ⟨0, 0, false, rfl, (bel2.setCell (Nat.le_refl _) _).setCell (Nat.le_refl _) _, told_false fun u v h e => ?_⟩
        obtain ⟨rfl, rfl⟩ := says3 a b c u v h e
        rw [beq_eq_false_iff_ne] at hq
        rw [ByteArray.toList_eq] at e
        exact hq ((txt_list _ _ h).trans e.symm)
    · go_wp2
      refine bodyPost_ret (v := .tuple #[endV (digZ a) (digZ c), .bool true]) ?_ rfl ?_
      · simp [results, Tryz.results132, go_sem, c2]
      · have hs0 : sideZ (digZ a) (digZ c) ≠ 0 := by
          intro h0
          have he := emp (digZ a) (digZ c)
          rw [h0, eq_of_beq hq] at he
          cases he
        exact ⟨_, _, true, rfl, (bel2.setCell (Nat.le_refl _) _).setCell (Nat.le_refl _) _, .inl ⟨rfl, hs0, by rw [ByteArray.toList_eq]; exact (eq_of_beq hq).symm.trans (txt_list _ _ hs0)⟩⟩

end Go.Proofs.YtfmjhbdbgcgoiaaGreatDoor.Read

/- Walks: an end is read from a text of four bytes, by the model; and from any text. -/
namespace Go.Proofs.YtfmjhbdbgcgoiaaGreatDoor.Read
open Go.RowKit Go.Proofs.YtfmjhbdbgcgoiaaGreatDoor.Kit
open Go.Proofs.YtfmjhbdbgcgoiaaGreatDoor.EndW (sideZ endV l6in_any inB)
open Go.Proofs.YtfmjhbdbgcgoiaaGreatDoor.Text (txt txtL txt_list fig specText side_bd txt_len txtL_inj emp)

theorem says4 (a b c d : UInt8) (u v : Int) (h : sideZ u v ≠ 0) (e : (⟨#[a, b, c, d]⟩ : ByteArray).toList = txtL u v) : digZ a = u ∧ 10 * digZ c + digZ d = v := by
  have hb := side_bd u v h
  rw [ByteArray.toList_eq] at e
  unfold txtL at e
  split at e
  · simp at e
  · simp only [List.cons.injEq] at e
    obtain ⟨rfl, _, rfl, rfl, _⟩ := e
    rw [dig_fig _ (by omega) (by omega), dig_fig _ (by omega) (by omega), dig_fig _ (by omega) (by omega)]
    omega

set_option maxHeartbeats 4000000 in
theorem sread4 (a b c d : UInt8) (w : World) :
    Calls Tryz.prog 132 #[.string ⟨#[a, b, c, d]⟩] w fun e w' => ∃ x y t, e = .returned (.tuple #[endV x y, .bool t]) ∧ Below w.heap.size w w' ∧ Told ⟨#[a, b, c, d]⟩ x y t := by
  have hn : inB 4 3 4 = true := rfl
  have i0 : ((⟨#[a, b, c, d]⟩ : ByteArray)[0]'(show 0 < 4 by decide)) = a := rfl
  have i2 : ((⟨#[a, b, c, d]⟩ : ByteArray)[2]'(show 2 < 4 by decide)) = c := rfl
  have i3 : ((⟨#[a, b, c, d]⟩ : ByteArray)[3]'(show 3 < 4 by decide)) = d := rfl
  obtain ⟨hd0, hd1⟩ := digZ_bd d
  have wd : IntKind.i64.wrap (10 * digZ c + digZ d) = 10 * digZ c + digZ d := wrap_in _ (by have := digZ_bd c; omega) (by have := digZ_bd c; omega)
  have we : IntKind.i64.wrap (10 * digZ c) = 10 * digZ c := wrap_in _ (by have := digZ_bd c; omega) (by have := digZ_bd c; omega)
  obtain ⟨ha0, ha1⟩ := digZ_bd a
  obtain ⟨hc0, hc1⟩ := digZ_bd c
  have wc : IntKind.i64.wrap (digZ c) = digZ c := wrap_in _ (by omega) (by omega)
  go_enter Tryz.func132, Tryz.ntmps132
  go_wp2_with (first | (go_at_call 55; refine (l6in_any _ _ _ _).mono ?_; rintro e w1 ⟨rfl, rfl⟩) | (go_at_call 148; refine (digit_any _ _).mono ?_; rintro e w1 ⟨rfl, rfl⟩))
  refine wp_loop_rounds 3 ?_
  rw [rounds_succ]
  go_wp2_with fail
  go_region_with (go_at_call 148; refine (digit_any _ _).mono ?_; rintro e w1 ⟨rfl, rfl⟩)
  all_goals
    go_wp2
    rw [rounds_succ]
    go_wp2_with fail
    go_region_with (go_at_call 148; refine (digit_any _ _).mono ?_; rintro e w1 ⟨rfl, rfl⟩)
  all_goals
    go_wp2
    rw [rounds_succ]
    go_wp2_with fail
    refine (specText _ _ _).mono ?_
    rintro e w2 ⟨rfl, k2⟩
    have z2 := k2.size
    simp at z2
    have c2 := keepc k2 w.heap.size (by first | omega | (simp; done) | (simp; omega))
    have f2 := keepf k2 w.heap.size (by first | omega | (simp; done) | (simp; omega))
    have d2 := keepc k2 (w.heap.size + 1) (by first | omega | (simp; done) | (simp; omega))
    have bel2 : Below w.heap.size w w2 := by
      first
      | exact ((((Below.refl _ _).alloc (Nat.le_refl _) _).alloc (by simp) _).drew).trans (k2.mono (by first | omega | (simp; done) | (simp; omega)))
      | exact ((((Below.refl _ _).alloc (Nat.le_refl _) _).alloc (by simp) _).drew.drew).trans (k2.mono (by first | omega | (simp; done) | (simp; omega)))
    clear k2
    cases hq : ((txt (digZ a) (10 * digZ c + digZ d)).toList == [a, b, c, d])
    · go_wp2
      refine bodyPost_ret (v := .tuple #[endV 0 0, .bool false]) ?_ rfl ?_
      · simp [results, Tryz.results132, go_sem, c2]
      · refine ⟨0, 0, false, rfl, (bel2.setCell (Nat.le_refl _) _).setCell (Nat.le_refl _) _, told_false fun u v h e => ?_⟩
        obtain ⟨rfl, rfl⟩ := says4 a b c d u v h e
        rw [beq_eq_false_iff_ne] at hq
        rw [ByteArray.toList_eq] at e
        exact hq ((txt_list _ _ h).trans e.symm)
    · go_wp2
      refine bodyPost_ret (v := .tuple #[endV (digZ a) (10 * digZ c + digZ d), .bool true]) ?_ rfl ?_
      · simp [results, Tryz.results132, go_sem, c2]
      · have hs0 : sideZ (digZ a) (10 * digZ c + digZ d) ≠ 0 := by
          intro h0
          have he := emp (digZ a) (10 * digZ c + digZ d)
          rw [h0, eq_of_beq hq] at he
          cases he
        exact ⟨_, _, true, rfl, (bel2.setCell (Nat.le_refl _) _).setCell (Nat.le_refl _) _, .inl ⟨rfl, hs0, by rw [ByteArray.toList_eq]; exact (eq_of_beq hq).symm.trans (txt_list _ _ hs0)⟩⟩

theorem bytes3 (s : ByteArray) (h : s.size = 3) : ∃ a b c, s = ⟨#[a, b, c]⟩ := by
  obtain ⟨⟨l⟩⟩ := s
  match l, h with
  | [a, b, c], _ => exact ⟨a, b, c, rfl⟩
theorem bytes4 (s : ByteArray) (h : s.size = 4) : ∃ a b c d, s = ⟨#[a, b, c, d]⟩ := by
  obtain ⟨⟨l⟩⟩ := s
  match l, h with
  | [a, b, c, d], _ => exact ⟨a, b, c, d, rfl⟩

/-- EndRead of the model answers the end whose text this is; nothing and false, if it is of none -/
theorem sread_any (s : ByteArray) (w : World) :
    Calls Tryz.prog 132 #[.string s] w fun e w' => ∃ x y b, e = .returned (.tuple #[endV x y, .bool b]) ∧ Below w.heap.size w w' ∧ Told s x y b := by
  by_cases h3 : s.size = 3
  · obtain ⟨a, b, c, rfl⟩ := bytes3 s h3
    exact sread3 a b c w
  · by_cases h4 : s.size = 4
    · obtain ⟨a, b, c, d, rfl⟩ := bytes4 s h4
      exact sread4 a b c d w
    · refine (sread_len s w (by unfold inB; simp; omega)).mono ?_
      rintro e w' ⟨rfl, k⟩
      refine ⟨0, 0, false, rfl, k, told_false fun u v h e => ?_⟩
      have hl := txt_len u v h
      have e2 : s.size = (txt u v).size := by
        have h1 : s.size = s.toList.length := by rw [ByteArray.toList_eq, Array.length_toList]; rfl
        have h2 : (txt u v).size = (txt u v).toList.length := by rw [ByteArray.toList_eq, Array.length_toList]; rfl
        rw [h1, h2, e, txt_list u v h]
      rw [e2, hl] at h3 h4
      by_cases hv : v < 10
      · rw [if_pos hv] at h3; exact h3 rfl
      · rw [if_neg hv] at h4; exact h4 rfl

theorem told_one {s : ByteArray} {x y u v : Int} {b c : Bool} (h : Told s x y b) (k : Told s u v c) : x = u ∧ y = v ∧ b = c := by
  rcases h with ⟨rfl, h1, h2⟩ | ⟨rfl, rfl, rfl, h⟩ <;> rcases k with ⟨rfl, k1, k2⟩ | ⟨rfl, rfl, rfl, k⟩
  · have := txtL_inj x y u v h1 k1 (h2.symm.trans k2)
    exact ⟨this.1, this.2, rfl⟩
  · exact absurd h2 (k _ _ h1)
  · exact absurd k2 (h _ _ k1)
  · exact ⟨rfl, rfl, rfl⟩
end Go.Proofs.YtfmjhbdbgcgoiaaGreatDoor.Read

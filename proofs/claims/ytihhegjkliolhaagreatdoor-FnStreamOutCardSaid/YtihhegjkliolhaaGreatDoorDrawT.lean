/- Walks: texts that are drawn from a code. Of what is drawn no more is said than that it is short. -/
import Derived.Test.YtihhegjkliolhaaGreatDoorRdDr
import Derived.Test.YtihhegjkliolhaaGreatDoorTxts
namespace Go.Proofs.YtihhegjkliolhaaGreatDoor.Draw
open Go.RowKit Go.Proofs.YtihhegjkliolhaaGreatDoor.Kit Go.Proofs.YtihhegjkliolhaaGreatDoor.Rd
open Go.Proofs.YtihhegjkliolhaaGreatDoor.Text (txt specText txt_len)
open Go.Proofs.YtihhegjkliolhaaGreatDoor.EndW (sideZ)

theorem txt_four (x y : Int) : (txt x y).size ≤ 4 := by
  by_cases h : sideZ x y = 0
  · unfold txt; rw [if_pos h]; exact Nat.le_of_ble_eq_true rfl
  · rw [txt_len x y h]; split <;> omega

set_option maxHeartbeats 1000000 in
theorem ofs_any (b : Nat) (a : Option Addr) (len cap : Nat) (z : Nat → Int) (p : Nat) (lb n : Nat) (S : Nat → ByteArray) (w : World) (h : Rd w b a len cap z p) (hp : p ≤ 999999000) (hn : 1 ≤ (n : Int)) (hb : lb ≠ b)
    (hS : ∀ i, i < n → w.cell? ⟨lb, i, none⟩ = some (.string (S i))) :
    Calls Tryz.prog 51 #[.pointer (some ⟨b, 0, none⟩), .slice (some ⟨lb, 0, none⟩) n n] w fun e w' => ∃ k, k < n ∧ e = .returned (.string (S k)) ∧ Rd w' b a len cap z (p + 1) ∧ But b w w' := by
  go_enter Tryz.func51, Tryz.ntmps51
  go_wp2_with fail
  refine (pick_any b a len cap z p _ _ h (by omega) hn).mono ?_
  rintro e w1 ⟨v, rfl, hv0, hv1, r1, k1⟩
  obtain ⟨k, rfl⟩ := Int.eq_ofNat_of_zero_le hv0
  have hk : k < n := by omega
  have hc : w1.cell? ⟨lb, k, none⟩ = some (.string (S k)) := by rw [k1.cell hb]; exact hS k hk
  clear hS
  go_wp2
  go_ret
  exact ⟨k, hk, rfl, r1, k1⟩

/-- a list of short texts in a block -/
theorem list_cells (W : World) (t : TypeId) (L : List ByteArray) : ∀ i, i < L.length → (W.alloc (.cells (L.map Value.string).toArray t)).cell? ⟨W.heap.size, i, none⟩ = some (.string (L.getD i ⟨#[]⟩)) := by
  intro i hi
  have h := heap_alloc_new W (.cells (L.map Value.string).toArray t)
  unfold World.cell?
  rw [h]
  simp [List.getD_eq_getElem?_getD, List.getElem?_eq_getElem hi]

theorem short_of (L : List ByteArray) (n : Nat) (h : ∀ s ∈ L, s.size ≤ n) (i : Nat) : (L.getD i ⟨#[]⟩).size ≤ n := by
  rw [List.getD_eq_getElem?_getD]
  cases q : L[i]? with
  | none => exact Nat.zero_le _
  | some s => exact h s (List.mem_of_getElem? q)

/-- what a text is drawn from -/
def S10 : List ByteArray := [⟨#[97]⟩, ⟨#[98, 99]⟩, ⟨#[64]⟩, ⟨#[64, 49]⟩, ⟨#[59]⟩, ⟨#[58, 53]⟩, ⟨#[120, 49]⟩, ⟨#[64, 64]⟩, ⟨#[64, 49, 58]⟩, ⟨#[55]⟩]
theorem S10_short (i : Nat) : (S10.getD i ⟨#[]⟩).size ≤ 3 := short_of S10 3 (by decide) i

set_option maxRecDepth 8000 in
set_option maxHeartbeats 4000000 in
theorem text_any (b : Nat) (a : Option Addr) (len cap : Nat) (z : Nat → Int) (p : Nat) (most : Nat) (hm : most ≤ 1000) (w : World) (h : Rd w b a len cap z p) (hp : p ≤ 1000000) :
    Calls Tryz.prog 27 #[.pointer (some ⟨b, 0, none⟩), .int .i64 (most : Nat)] w fun e w' => ∃ s p', e = .returned (.string s) ∧ s.size ≤ most ∧ p' ≤ p + 100 ∧ Rd w' b a len cap z p' ∧ Aside b w w' := by
  go_enter Tryz.func27, Tryz.ntmps27
  go_wp2_with fail
  refine (pick_any b a len cap z p _ _ h (by omega) (by omega)).mono ?_
  rintro e w1 ⟨v, rfl, hv0, hv1, r1, k1⟩
  obtain ⟨m, rfl⟩ := Int.eq_ofNat_of_zero_le hv0
  have hm7 : m ≤ 6 := by omega
  go_wp2
  go_loopw [5, 6] (fun s i wr => ∃ (k : Nat) (S : ByteArray) (p' : Nat), k ≤ m ∧ i = .int .i64 k ∧ s = .string S ∧ S.size ≤ most ∧ p' + 5 * k ≤ p + 1 + 5 * m ∧ Rd wr b a len cap z p' ∧ Aside b w wr) (fun s i wr => (intOf i).toNat)
  case atStart => exact ⟨m, ⟨#[]⟩, p + 1, Nat.le_refl _, rfl, rfl, Nat.zero_le _, Nat.le_refl _, r1, Aside.ofBut k1⟩
  case round =>
    obtain ⟨k, S, p', hk, rfl, rfl, hS, hp', r, sd⟩ := hrel
    by_cases h0 : 0 < k
    · have h0' : (0 : Int) < k := by omega
      have hbl : b < wr.heap.size := blk r.c0
      have r2 := r.below ((Below.refl _ wr).alloc (Nat.le_refl _) (.cells (S10.map Value.string).toArray 9))
      have s2 := sd.alloc (.cells (S10.map Value.string).toArray 9)
      have hl := list_cells wr 9 S10
      go_wp2_with fail
      refine (ofs_any b a len cap z p' wr.heap.size 10 (fun i => S10.getD i ⟨#[]⟩) _ r2 (by omega) (by omega) (by omega) hl).mono ?_
      rintro e w3 ⟨j, _, rfl, r3, k3⟩
      have s3 := s2.but k3
      have hX := S10_short j
      generalize S10.getD j ⟨#[]⟩ = X at hX
      clear r2 s2 hl k3
      go_wp2_with fail
      refine (pick_any b a len cap z (p' + 1) _ _ r3 (by omega) (by omega)).mono ?_
      rintro e w4 ⟨v4, rfl, q0, q1, r4, k4⟩
      have s4 := s3.but k4
      clear k4 r3 s3
      by_cases h3 : v4 < 3
      · go_wp2_with fail
        refine (l71_any b a len cap z (p' + 1 + 1) _ r4 (by omega)).mono ?_
        rintro e w5 ⟨x, y, p5, rfl, hxy, hp5, r5, k5⟩
        have s5 := s4.trans k5
        clear k5 r4 s4
        go_wp2_with fail
        refine (specText _ _ _).mono ?_
        rintro e w6 ⟨rfl, k6⟩
        have r6 := r5.below k6
        have s6 := s5.trans (Aside.ofBelow k6)
        have hz := txt_four x y
        clear k6 r5 s5
        generalize txt x y = T at hz
        go_wp2
        all_goals
          go_roundw
          case rel =>
            refine ⟨k - 1, _, _, by omega, by go_num, rfl, ?_, ?_, r6, s6⟩
            · first | exact hS | (have e64 : (⟨#[64]⟩ : ByteArray).size = 1 := rfl; have e59 : (⟨#[59]⟩ : ByteArray).size = 1 := rfl; simp only [ByteArray.size_append]; omega)
            · omega
          case measure => simp [intOf]; omega
      · have h3' : 3 ≤ v4 := by omega
        go_wp2
        all_goals
          go_roundw
          case rel =>
            refine ⟨k - 1, _, _, by omega, by go_num, rfl, ?_, ?_, r4, s4⟩
            · first | exact hS | (simp only [ByteArray.size_append]; omega)
            · omega
          case measure => simp [intOf]; omega
    · have h0' : (k : Int) ≤ 0 := by omega
      go_wp2
      go_ret
      exact ⟨S, p', rfl, hS, by omega, r, sd⟩



/-- what a text is spoilt with -/
def S4t : List ByteArray := [⟨#[65]⟩, ⟨#[32]⟩, ⟨#[45]⟩, ⟨#[122]⟩]
theorem S4t_short (i : Nat) : (S4t.getD i ⟨#[]⟩).size ≤ 1 := short_of S4t 1 (by decide) i
/-- what a text may end with -/
def S12 : List ByteArray := [⟨#[]⟩, ⟨#[64]⟩, ⟨#[64, 49]⟩, ⟨#[64, 50, 58]⟩, ⟨#[64, 57, 58, 49]⟩, ⟨#[64, 57, 58, 49, 50]⟩, ⟨#[64, 49, 58, 53]⟩, ⟨#[64, 48]⟩, ⟨#[64, 49, 58, 48]⟩, ⟨#[64, 49, 58, 49, 50, 51]⟩, ⟨#[64, 64]⟩, ⟨#[64, 57, 58, 49, 120]⟩]
theorem S12_short (i : Nat) : (S12.getD i ⟨#[]⟩).size ≤ 6 := short_of S12 6 (by decide) i




end Go.Proofs.YtihhegjkliolhaaGreatDoor.Draw

/- The walk of the law on what is held: it answers true. -/
import Derived.Test.YtkpngmklcnmjmabTxE
import Derived.Test.YtkpngmklcnmjmabTxP
import Derived.Test.YtkpngmklcnmjmabDrawT
namespace Go.Proofs.Ytkpngmklcnmjmab.LHeldMay
open Go.RowKit Go.Proofs.Ytkpngmklcnmjmab.Kit Go.Proofs.Ytkpngmklcnmjmab.Draw Go.Proofs.Ytkpngmklcnmjmab.Tx
open Go.Proofs.Ytkpngmklcnmjmab.TxW (held_any sheld_any sok_any)

theorem app_l (s t : ByteArray) : (s ++ t).data.toList = s.data.toList ++ t.data.toList := by simp [ByteArray.data_append]
theorem ext_from (s : ByteArray) (a : Nat) : (s.extract a s.size).data.toList = s.data.toList.drop a := by
  rw [ByteArray.data_extract, Array.toList_extract, List.extract_eq_take_drop]
  exact List.take_of_length_le (by rw [List.length_drop, lenL]; exact Nat.le_refl _)

set_option maxHeartbeats 400000 in
theorem long (a0 : Option Addr) (len0 cap0 : Nat) (w : World) (h : (1048576 : Int) < (len0 : Int)) :
    Calls Try.prog 4 #[.slice a0 len0 cap0] w fun e w' => e = .returned (.bool true) ∧ Below w.heap.size w w' := by
  go_enter Try.func4, Try.ntmps4
  go_wp2
  go_ret
  exact ⟨rfl, Below.refl _ _⟩

theorem held_is (s : ByteArray) (n : Nat) (h : hdN s.data.toList = n) (w : World) : Calls Try.prog 9 #[.string s] w fun e w' => e = .returned (.int .i64 (n : Nat)) ∧ Below w.heap.size w w' := by
  subst h; exact held_any s w
theorem sheld_is (s : ByteArray) (n : Nat) (h : hdN s.data.toList = n) (hs : s.size ≤ maxLen) (w : World) : Calls Try.prog 10 #[.string s] w fun e w' => e = .returned (.int .i64 (n : Nat)) ∧ Below w.heap.size w w' := by
  subst h; exact sheld_any s hs w

set_option maxHeartbeats 4000000 in
theorem short (a0 : Option Addr) (len0 cap0 : Nat) (z : Nat → Int) (w : World) (hc : CodeIn w a0 len0 cap0 z) (h : (len0 : Int) ≤ 1048576) :
    Calls Try.prog 4 #[.slice a0 len0 cap0] w fun e w' => e = .returned (.bool true) ∧ Below w.heap.size w w' := by
  go_enter Try.func4, Try.ntmps4
  go_wp2_with fail
  refine (drawTextHeld a0 len0 cap0 z _ hc).mono ?_
  rintro e w1 ⟨s, rfl, hs, k1⟩
  have hmx : s.size ≤ maxLen := by unfold maxLen; omega
  have hlk := lenL s
  obtain ⟨n, hn⟩ : ∃ n, hdN s.data.toList = n := ⟨_, rfl⟩
  go_wp2_with fail
  refine (held_is s n hn _).mono ?_
  rintro e w2 ⟨rfl, k2⟩
  have b2 := k1.trans (k2.mono k1.size)
  clear k1 k2
  go_wp2_with fail
  refine (sheld_is s n hn hmx _).mono ?_
  rintro e w3 ⟨rfl, k3⟩
  have b3 := b2.trans (k3.mono b2.size)
  clear b2 k3
  go_wp2_with fail
  refine (sok_any s hmx _).mono ?_
  rintro e w4 ⟨rfl, rfl⟩
  cases hok : okB s.data.toList
  · go_wp2_with fail
    refine (sheld_is s n hn hmx _).mono ?_
    rintro e w5 ⟨rfl, k5⟩
    go_wp2
    go_ret
    exact ⟨rfl, b3.trans (k5.mono b3.size)⟩
  · have hd := hd_ok _ hok
    rw [hn] at hd
    have h5 := heldN_le s.data.toList
    have hll := heldN_len s.data.toList
    have h40 := (ok_parts _ hok).1
    rw [← hd] at h5 hll
    rw [hlk] at hll h40
    have hby : ∀ (i : Nat) (hi : i < (s.extract (s.size - n) s.size).size), i < n → (((s.extract (s.size - n) s.size)[i]'hi).toNat = 64 ↔ i = 0) := by
      intro i hi hin
      have := hp_bytes s.data.toList i (by omega)
      rw [← this]
      have e : ((s.extract (s.size - n) s.size)[i]'hi) = (hp' s.data.toList).getD i 0 := by
        show (s.extract (s.size - n) s.size).data[i] = _
        have hx := ext_from s (s.size - n)
        unfold hp'
        rw [← hd, hlk, ← hx, List.getD_eq_getElem?_getD, List.getElem?_eq_getElem (by rw [lenL]; exact hi)]; rfl
      rw [e]
    have hsz : (s.extract (s.size - n) s.size).size = n := by rw [ByteArray.size_extract]; omega
    have hi0 : ((s.size : Int) - (n : Int)) = ((s.size - n : Nat) : Int) := by omega
    have hle1 : ((s.size - n : Nat) : Int) ≤ (s.size : Int) := by omega
    have hx0 : s.size < 40 → hdN (s ++ ⟨#[120]⟩).data.toList = 0 := by
      intro hl
      have o : okB (s ++ ⟨#[120]⟩).data.toList = true := by
        rw [app_l]; exact ok_app _ _ hok (by decide) (by rw [lenL]; show s.size + 1 ≤ 40; omega)
      rw [hd_ok _ o, app_l]
      show heldN (s.data.toList ++ [120]) = 0
      rw [heldN_snoc]
      have e120 : (120 : UInt8).toNat = 120 := rfl
      unfold stepN; repeat' split
      all_goals omega
    have hx1 : s.size < 40 → hdN (s ++ ⟨#[64]⟩).data.toList = 1 := by
      intro hl
      have o : okB (s ++ ⟨#[64]⟩).data.toList = true := by
        rw [app_l]; exact ok_app _ _ hok (by decide) (by rw [lenL]; show s.size + 1 ≤ 40; omega)
      rw [hd_ok _ o, app_l]
      show heldN (s.data.toList ++ [64]) = 1
      rw [heldN_snoc]; exact (step1 _ _).2 rfl
    clear hlk hd
    go_wp2_with fail
    obtain ⟨H, hH⟩ : ∃ H, s.extract (s.size - n) s.size = H := ⟨_, rfl⟩
    rw [hH] at hby hsz ⊢
    have hge : n ≤ H.size := Nat.le_of_eq hsz.symm
    clear hH hsz hn
    go_loop [6] (fun i => ∃ k : Nat, k ≤ n ∧ i = .int .i64 k) (fun i => n - (intOf i).toNat)
    case atStart => exact ⟨0, Nat.zero_le _, rfl⟩
    case round =>
      obtain ⟨k, hk, rfl⟩ := hrel
      by_cases hlt : k < n
      · have hlt' : (k : Int) < (n : Int) := by omega
        have hkH : (k : Int) < (H.size : Int) := by omega
        have hb := hby k (by omega) hlt
        have hbq : ((((H[k]'(by omega)).toNat : Int) == 64) = ((k : Int) == 0)) := by
          rw [Bool.eq_iff_iff]; simp; omega
        clear hb hby hx0 hx1
        go_wp2
        go_round
        case rel => exact ⟨k + 1, by omega, by go_num⟩
        case measure => simp [intOf]; omega
      · have hge2 : (n : Int) ≤ (k : Int) := by omega
        have h5' : (n : Int) ≤ 5 := by omega
        clear hby
        by_cases h4 : s.size = 40
        · have h4' : ((s.size : Int) == 40) = true := by simp; omega
          go_wp2
          go_ret
          exact ⟨by first | rfl | simp, b3⟩
        · have h4' : ((s.size : Int) == 40) = false := by simp; omega
          have y0 := hx0 (by omega)
          have y1 := hx1 (by omega)
          clear hx0 hx1
          go_wp2_with fail
          refine (held_is _ 0 y0 _).mono ?_
          rintro e w5 ⟨rfl, k5⟩
          go_wp2_with fail
          refine (held_is _ 1 y1 _).mono ?_
          rintro e w6 ⟨rfl, k6⟩
          go_wp2
          go_ret
          exact ⟨by first | rfl | simp, (b3.trans (k5.mono b3.size)).trans (k6.mono (b3.trans (k5.mono b3.size)).size)⟩
end Go.Proofs.Ytkpngmklcnmjmab.LHeldMay

/- The walk of the law on how much is held: it answers true. -/
import Derived.Test.YtkpngmklcnmjmacTxE
import Derived.Test.YtkpngmklcnmjmacTxP
import Derived.Test.YtkpngmklcnmjmacDrawT
namespace Go.Proofs.Ytkpngmklcnmjmac.LHeldMost
open Go.RowKit Go.Proofs.Ytkpngmklcnmjmac.Kit Go.Proofs.Ytkpngmklcnmjmac.Draw Go.Proofs.Ytkpngmklcnmjmac.Tx
open Go.Proofs.Ytkpngmklcnmjmac.TxW (held_any sheld_any sok_any)

theorem ext_l (s : ByteArray) (a b : Nat) : (s.extract a b).data.toList = (s.data.toList.drop a).take (b - a) := by
  rw [ByteArray.data_extract, Array.toList_extract, List.extract_eq_take_drop]

set_option maxHeartbeats 400000 in
theorem long (a0 : Option Addr) (len0 cap0 : Nat) (w : World) (h : (1048576 : Int) < (len0 : Int)) :
    Calls Try.prog 3 #[.slice a0 len0 cap0] w fun e w' => e = .returned (.bool true) ∧ Below w.heap.size w w' := by
  go_enter Try.func3, Try.ntmps3
  go_wp2
  go_ret
  exact ⟨rfl, Below.refl _ _⟩

theorem held_is (s : ByteArray) (n : Nat) (h : hdN s.data.toList = n) (w : World) : Calls Try.prog 5 #[.string s] w fun e w' => e = .returned (.int .i64 (n : Nat)) ∧ Below w.heap.size w w' := by
  subst h; exact held_any s w
theorem sheld_is (s : ByteArray) (n : Nat) (h : hdN s.data.toList = n) (hs : s.size ≤ maxLen) (w : World) : Calls Try.prog 6 #[.string s] w fun e w' => e = .returned (.int .i64 (n : Nat)) ∧ Below w.heap.size w w' := by
  subst h; exact sheld_any s hs w

theorem less_of (l : List UInt8) (hl : l ≠ []) : (heldN l ≤ 1 ∨ heldN (l.take (l.length - 1)) + 1 = heldN l) ∧ heldN l ≤ heldN (l.take (l.length - 1)) + 1 := by
  rcases snocs l with rfl | ⟨p, c, rfl⟩
  · exact absurd rfl hl
  · have e : (p ++ [c]).take ((p ++ [c]).length - 1) = p := by simp
    rw [e, heldN_snoc]
    have h5 := stepN_le (heldN p) c
    have h2 := step2 (heldN p) c
    have h3 := step3 (heldN p) c
    have h4 := step4 (heldN p) c
    have h5' := step5 (heldN p) c
    generalize stepN (heldN p) c = n at *
    have : n = 0 ∨ n = 1 ∨ n = 2 ∨ n = 3 ∨ n = 4 ∨ n = 5 := by omega
    rcases this with rfl | rfl | rfl | rfl | rfl | rfl
    · omega
    · omega
    · have := (h2.1 rfl).1; omega
    · have := (h3.1 rfl).1; omega
    · have := (h4.1 rfl).1; omega
    · have := (h5'.1 rfl).1; omega

set_option maxHeartbeats 4000000 in
theorem short (a0 : Option Addr) (len0 cap0 : Nat) (z : Nat → Int) (w : World) (hc : CodeIn w a0 len0 cap0 z) (h : (len0 : Int) ≤ 1048576) :
    Calls Try.prog 3 #[.slice a0 len0 cap0] w fun e w' => e = .returned (.bool true) ∧ Below w.heap.size w w' := by
  go_enter Try.func3, Try.ntmps3
  go_wp2_with fail
  refine (drawTextHeld a0 len0 cap0 z _ hc).mono ?_
  rintro e w1 ⟨s, rfl, hs, k1⟩
  have hmx : s.size ≤ maxLen := by unfold maxLen; omega
  have hlk := lenL s
  obtain ⟨n, hn⟩ : ∃ n, hdN s.data.toList = n := ⟨_, rfl⟩
  go_wp2_with fail
  refine (held_is s n hn _).mono ?_
  rintro e w2 ⟨rfl, k2⟩
  have b2 := k1.trans (k2.mono k1.size)
  clear k1 k2
  go_wp2_with fail
  refine (sheld_is s n hn hmx _).mono ?_
  rintro e w3 ⟨rfl, k3⟩
  have b3 := b2.trans (k3.mono b2.size)
  clear b2 k3
  go_wp2_with fail
  refine (sok_any s hmx _).mono ?_
  rintro e w4 ⟨rfl, rfl⟩
  cases hok : okB s.data.toList
  · go_wp2_with fail
    refine (sheld_is s n hn hmx _).mono ?_
    rintro e w5 ⟨rfl, k5⟩
    go_wp2
    go_ret
    exact ⟨rfl, b3.trans (k5.mono b3.size)⟩
  · cases he : (s.toList.isEmpty)
    · have hne : s.data.toList ≠ [] := by
        intro h0
        rw [ByteArray.toList_eq, h0] at he; cases he
      have h1 : (1 : Int) ≤ (s.size : Int) := by
        have := List.length_pos_iff.2 hne; omega
      obtain ⟨m, hm⟩ : ∃ m, hdN (s.extract 0 (s.size - 1)).data.toList = m := ⟨_, rfl⟩
      have hx : (s.extract 0 (s.size - 1)).data.toList = s.data.toList.take (s.data.toList.length - 1) := by
        rw [ext_l, lenL]; rfl
      have hlo := less_of _ hne
      have hm2 : heldN (s.data.toList.take (s.data.toList.length - 1)) = m := by
        rw [← hm, hx, hd_ok _ (ok_take _ _ hok)]
      rw [hm2] at hlo
      have hn2 := hn
      rw [hd_ok _ hok] at hn2
      rw [hn2] at hlo
      clear hm2 hx hn2 hne hlk
      have h5 : n ≤ 1000 := by have := heldN_le s.data.toList; rw [hd_ok _ hok] at hn; omega
      have hm5 : m ≤ 1000 := by
        have h1 := heldN_le (s.extract 0 (s.size - 1)).data.toList
        unfold hdN at hm; split at hm <;> omega
      go_wp2_with fail
      refine (held_is _ m hm _).mono ?_
      rintro e w5 ⟨rfl, k5⟩
      have b5 := b3.trans (k5.mono b3.size)
      clear k5 b3 hm hn
      by_cases hn1 : n ≤ 1
      · have hn1' : (n : Int) ≤ 1 := by omega
        go_wp2
        go_ret
        refine ⟨congrArg (fun b => Ending.returned (Value.bool b)) ?_, b5⟩
        first | rfl | (simp; omega)
      · have hn1' : (1 : Int) < (n : Int) := by omega
        obtain rfl : n = m + 1 := by omega
        go_wp2
        go_ret
        refine ⟨congrArg (fun b => Ending.returned (Value.bool b)) ?_, b5⟩
        first | rfl | (simp; omega)
    · go_wp2_with fail
      refine (sheld_is s n hn hmx _).mono ?_
      rintro e w5 ⟨rfl, k5⟩
      go_wp2
      go_ret
      exact ⟨rfl, b3.trans (k5.mono b3.size)⟩
end Go.Proofs.Ytkpngmklcnmjmac.LHeldMost

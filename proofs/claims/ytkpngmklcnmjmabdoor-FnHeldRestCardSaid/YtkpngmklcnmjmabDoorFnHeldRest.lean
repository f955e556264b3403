/- The walk of the law on what is held alone: it answers true. -/
import Derived.Test.YtkpngmklcnmjmabDoorLzP
import Derived.Test.YtkpngmklcnmjmabDoorTxP
import Derived.Test.YtkpngmklcnmjmabDoorDrawT
import Derived.Test.YtkpngmklcnmjmabDoorLaid
namespace Go.Proofs.YtkpngmklcnmjmabDoor.LHeldRest
open Go.Proofs.YtkpngmklcnmjmabDoor.LzP
open Go.RowKit Go.Proofs.YtkpngmklcnmjmabDoor.Kit Go.Proofs.YtkpngmklcnmjmabDoor.Draw Go.Proofs.YtkpngmklcnmjmabDoor.Tx Go.Proofs.YtkpngmklcnmjmabDoor.Pcs Go.Proofs.YtkpngmklcnmjmabDoor.Lz
open Go.Proofs.YtkpngmklcnmjmabDoor.TxW (sok_any)
open Go.Proofs.YtkpngmklcnmjmabDoor.Read (Errs)

set_option maxHeartbeats 400000 in
theorem long (a0 : Option Addr) (len0 cap0 : Nat) (w : World) (h : (1048576 : Int) < (len0 : Int)) :
    Calls Tryd.prog 5 #[.slice a0 len0 cap0] w fun e w' => e = .returned (.bool true) ∧ Below w.heap.size w w' := by
  go_enter Tryd.func5, Tryd.ntmps5
  go_wp2
  go_ret
  exact ⟨rfl, Below.refl _ _⟩

set_option maxHeartbeats 4000000 in
theorem short (a0 : Option Addr) (len0 cap0 : Nat) (z : Nat → Int) (w : World) (hc : CodeIn w a0 len0 cap0 z) (h : (len0 : Int) ≤ 1048576) (herr : Errs w) :
    Calls Tryd.prog 5 #[.slice a0 len0 cap0] w fun e w' => e = .returned (.bool true) ∧ Below w.heap.size w w' := by
  go_enter Tryd.func5, Tryd.ntmps5
  go_wp2_with fail
  refine (drawTextHeld a0 len0 cap0 z _ hc).mono ?_
  rintro e w1 ⟨s, rfl, hs, k1⟩
  have hmx : s.size ≤ maxLen := by unfold maxLen; omega
  have hlk := lenL s
  obtain ⟨n, hn⟩ : ∃ n, hdN s.data.toList = n := ⟨_, rfl⟩
  go_wp2_with fail
  refine (held_is s n hn _).mono ?_
  rintro e w2 ⟨rfl, k2⟩
  have b2 := k1.trans (k2.mono k1.size)
  clear k1 k2
  go_wp2_with fail
  refine (sheld_is s n hn hmx _).mono ?_
  rintro e w3 ⟨rfl, k3⟩
  have b3 := b2.trans (k3.mono b2.size)
  clear b2 k3
  go_wp2_with fail
  refine (sok_any s hmx _).mono ?_
  rintro e w4 ⟨rfl, rfl⟩
  cases hok : okB s.data.toList
  · go_wp2_with fail
    refine (sheld_is s n hn hmx _).mono ?_
    rintro e w5 ⟨rfl, k5⟩
    go_wp2
    go_ret
    exact ⟨rfl, b3.trans (k5.mono b3.size)⟩
  · have hd := hd_ok _ hok
    rw [hn] at hd
    have hll := heldN_len s.data.toList
    have h40 := (ok_parts _ hok).1
    have hx : (s.extract (s.size - n) s.size).data.toList = hp s.data.toList := by
      rw [Nm.ext_from, hd, ← hlk]; rfl
    have p1 : hdN (s.extract (s.size - n) s.size).data.toList = n := by
      rw [hx, hd_ok _ (hp_ok _ hok), hd]; exact hp_held _
    have p2 : pieL (s.extract (s.size - n) s.size).data.toList = [] := by rw [hx]; exact hp_pie _ hok
    obtain ⟨ps, hps⟩ : ∃ ps, pieL s.data.toList = ps := ⟨_, rfl⟩
    have hlp := len_pie _ hok
    rw [hps, hlk, ← hd] at hlp
    rw [← hd, hlk] at hll
    have hi0 : ((s.size : Int) - (n : Int)) = ((s.size - n : Nat) : Int) := by omega
    have hle1 : ((s.size - n : Nat) : Int) ≤ (s.size : Int) := by omega
    clear hlk hd hx hn
    go_wp2_with fail
    refine (held_is _ n p1 _).mono ?_
    rintro e w5 ⟨rfl, k5⟩
    have b5 := b3.trans (k5.mono b3.size)
    clear k5 b3 p1
    go_wp2_with fail
    refine (pieces_is _ _ p2 _ (herr.below b5)).mono ?_
    rintro e w6 ⟨v6, rfl, hv6, k6⟩
    have b6 := b5.trans (k6.mono b5.size)
    clear k6 b5 p2
    obtain ⟨g6, o6, rfl⟩ : ∃ (g6 : Option Addr) (o6 : Nat), v6 = .slice g6 0 o6 := by
      rcases hv6 with ⟨rfl, _⟩ | ⟨g, o, c, rfl, _⟩
      · exact ⟨_, _, rfl⟩
      · exact ⟨_, _, rfl⟩
    clear hv6
    go_wp2_with fail
    refine (pieces_is _ _ hps _ (herr.below b6)).mono ?_
    rintro e w7 ⟨v7, rfl, hv7, k7⟩
    have b7 := b6.trans (k7.mono b6.size)
    clear k7 b6 hps
    go_wp2_with fail
    refine (sz_any _ ps (by omega) (by omega) _ hv7).mono ?_
    rintro e w8 ⟨rfl, k8⟩
    have b8 := b7.trans (k8.mono b7.size)
    rw [hlp.2]
    clear k8 b7
    go_wp2
    go_ret
    exact ⟨by first | rfl | simp, b8⟩
end Go.Proofs.YtkpngmklcnmjmabDoor.LHeldRest

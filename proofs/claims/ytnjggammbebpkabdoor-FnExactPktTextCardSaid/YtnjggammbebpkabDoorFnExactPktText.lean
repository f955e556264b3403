/- Walks: the exact law on the texts of packets. -/
import Derived.Test.YtnjggammbebpkabDoorExK
import Derived.Test.YtnjggammbebpkabDoorPkI
namespace Go.Proofs.YtnjggammbebpkabDoor.ExK
open Go.RowKit Go.Proofs.YtnjggammbebpkabDoor.Kit Go.Proofs.YtnjggammbebpkabDoor.Pk

set_option maxHeartbeats 1000000 in
theorem exactPktText (k a b c d n : Int) (t : ByteArray) (ht : t.size ≤ maxLen) (w : World) :
    Calls Tryd.prog 3 #[pktV k a b c d n t] w fun e w' => e = .returned (.bool true) ∧ Below w.heap.size w w' := by
  have bel0 : Below w.heap.size w (w.alloc (.cells #[.int .i64 k, .int .i64 a, .int .i64 b, .int .i64 c, .int .i64 d, .int .i64 n, .string t] 25)) := (Below.refl _ _).alloc (Nat.le_refl _) _
  obtain ⟨L, hL⟩ : ∃ L : Int, (if (1048576 : Int) < t.size then (-1 : Int) else 1048576 - (t.size : Int)) = L := ⟨_, rfl⟩
  have sz := szPkt_any k a b c d n t ht
  rw [hL] at sz
  go_enter Tryd.func3, Tryd.ntmps3
  go_wp2_with fail
  refine (sz _).mono ?_
  rintro e w1 ⟨rfl, k1⟩
  have z1 := k1.size
  simp at z1
  have c1 := keepc k1 w.heap.size (by simp)
  have bel1 := bel0.trans (k1.mono (by simp))
  clear k1 bel0 sz
  by_cases h : L < 0
  · go_wp2
    go_ret
    exact ⟨rfl, bel1⟩
  · have h' : 0 ≤ L := by omega
    obtain ⟨S, hS⟩ : ∃ S, pktS k a b c d n t = S := ⟨_, rfl⟩
    clear hL
    go_wp2_with fail
    refine (toPkt_any _ _ _ _ _ _ _ _).mono ?_
    rintro e w2 ⟨rfl, k2⟩
    have z2 := k2.size
    have c2 := fun j => (keepc k2 w.heap.size (by omega) j).trans (c1 j)
    have bel2 := bel1.trans (k2.mono (by omega))
    clear k2 bel1 c1
    go_wp2_with fail
    refine (spktText_is k a b c d n t S ht hS _).mono ?_
    rintro e w3 ⟨rfl, k3⟩
    have z3 := k3.size
    have c3 := fun j => (keepc k3 w.heap.size (by omega) j).trans (c2 j)
    have bel3 := bel2.trans (k3.mono (by omega))
    clear k3 bel2 c2
    go_wp2_with fail
    refine (toPkt_any _ _ _ _ _ _ _ _).mono ?_
    rintro e w4 ⟨rfl, k4⟩
    have z4 := k4.size
    have bel4 := bel3.trans (k4.mono (by omega))
    clear k4 bel3 c3
    go_wp2_with fail
    refine (pktText_is k a b c d n t S hS _).mono ?_
    rintro e w5 ⟨rfl, k5⟩
    have bel5 := bel4.trans (k5.mono (by omega))
    clear hS
    go_wp2
    go_ret
    exact ⟨rfl, bel5⟩
end Go.Proofs.YtnjggammbebpkabDoor.ExK

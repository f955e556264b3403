/- The walk of the law on what a packet has: it answers true. -/
import Derived.Test.YtnjggammbebpkaaPkC
import Derived.Test.YtnjggammbebpkaaPkD
namespace Go.Proofs.Ytnjggammbebpkaa.LPktForm
open Go.RowKit Go.Proofs.Ytnjggammbebpkaa.Kit Go.Proofs.Ytnjggammbebpkaa.Pk Go.Proofs.Ytnjggammbebpkaa.PkD
open Go.Proofs.Ytnjggammbebpkaa.EndW (sideZ)

set_option maxHeartbeats 400000 in
theorem long (a0 : Option Addr) (len0 cap0 : Nat) (w : World) (h : (1048576 : Int) < (len0 : Int)) :
    Calls Try.prog 3 #[.slice a0 len0 cap0] w fun e w' => e = .returned (.bool true) ∧ Below w.heap.size w w' := by
  go_enter Try.func3, Try.ntmps3
  go_wp2
  go_ret
  exact ⟨rfl, Below.refl _ _⟩

set_option maxHeartbeats 4000000 in
theorem short (a0 : Option Addr) (len0 cap0 : Nat) (z : Nat → Int) (w : World) (hc : CodeIn w a0 len0 cap0 z) (h : (len0 : Int) ≤ 1048576) :
    Calls Try.prog 3 #[.slice a0 len0 cap0] w fun e w' => e = .returned (.bool true) ∧ Below w.heap.size w w' := by
  go_enter Try.func3, Try.ntmps3
  go_wp2_with fail
  refine (drawPktOk a0 len0 cap0 z _ hc).mono ?_
  rintro e w1 ⟨k, x, y, x2, y2, n, t, rfl, sm, k1⟩
  have ht : t.size ≤ maxLen := by have := sm.t1; unfold maxLen; omega
  have bel1 := k1.alloc k1.size (.cells #[.int .i64 k, .int .i64 x, .int .i64 y, .int .i64 x2, .int .i64 y2, .int .i64 n, .string t] 26)
  have z1 := k1.size
  clear k1
  obtain ⟨B, hB⟩ : ∃ B, pktB k x y x2 y2 n t = B := ⟨_, rfl⟩
  go_wp2_with fail
  refine (pktOk_is k x y x2 y2 n t B hB _).mono ?_
  rintro e w2 ⟨rfl, k2⟩
  have z2 := k2.size
  simp at z2
  have c2 := keepc k2 w1.heap.size (by simp)
  have f2 := keepf k2 w1.heap.size (by simp)
  have bel2 := bel1.trans (k2.mono (by simp; omega))
  clear k2 bel1
  go_wp2_with fail
  refine (spktOk_is k x y x2 y2 n t ht B hB _).mono ?_
  rintro e w3 ⟨rfl, k3⟩
  have z3 := k3.size
  have c3 := fun j => (keepc k3 w1.heap.size (by omega) j).trans (c2 j)
  have f3 := fun j => (keepf k3 w1.heap.size (by omega) j).trans (f2 j)
  have bel3 := bel2.trans (k3.mono (by omega))
  clear k3 bel2 c2 f2
  cases B
  · go_wp2_with fail
    refine (spktOk_is k x y x2 y2 n t ht false hB _).mono ?_
    rintro e w4 ⟨rfl, k4⟩
    go_wp2
    go_ret
    exact ⟨rfl, bel3.trans (k4.mono (by omega))⟩
  · obtain ⟨h1, h2, h3, h4, h5⟩ := pkt_parts hB
    have lt3 : w1.heap.size < w3.heap.size := by omega
    have hy : pktB k x y x2 y2 (-1) t = false := pkt_no3 (by omega)
    rcases h5 with ⟨rfl, he, ho⟩ | ⟨rfl, rfl⟩
    · have hx : pktB 2 x y x2 y2 n t = false := by rw [pkt_at h1 h2 h3 h4]; unfold bytB; rw [if_neg (by decide), if_pos rfl]; exact he
      clear h1 h2 h3 h4 hB ho
      go_wp2_with fail
      refine (pktOk_is 2 x y x2 y2 n t false hx _).mono ?_
      rintro e w4 ⟨rfl, k4⟩
      have z4 := k4.size
      simp at z4
      have d4 := fun j => (keepc k4 (w3.heap.size + 1) (by simp) j)
      have bel4 := ((bel3.alloc (by omega) _).alloc (by simp; omega) _).trans (k4.mono (by simp; omega))
      clear k4 bel3
      go_wp2_with fail
      refine (pktOk_is 1 x y x2 y2 (-1) _ false hy _).mono ?_
      rintro e w5 ⟨rfl, k5⟩
      go_wp2
      go_ret
      exact ⟨rfl, bel4.trans (k5.mono (by omega))⟩
    · have hx : pktB 1 x y x2 y2 n ⟨#[]⟩ = false := by rw [pkt_at h1 h2 h3 h4]; exact byt_one
      clear h1 h2 h3 h4 hB
      go_wp2_with fail
      refine (pktOk_is 1 x y x2 y2 n _ false hx _).mono ?_
      rintro e w4 ⟨rfl, k4⟩
      have z4 := k4.size
      simp at z4
      have d4 := fun j => (keepc k4 (w3.heap.size + 1) (by simp) j)
      have bel4 := ((bel3.alloc (by omega) _).alloc (by simp; omega) _).trans (k4.mono (by simp; omega))
      clear k4 bel3
      go_wp2_with fail
      refine (pktOk_is 2 x y x2 y2 (-1) _ false hy _).mono ?_
      rintro e w5 ⟨rfl, k5⟩
      go_wp2
      go_ret
      exact ⟨rfl, bel4.trans (k5.mono (by omega))⟩
end Go.Proofs.Ytnjggammbebpkaa.LPktForm

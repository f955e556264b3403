/- The walk of the law on the places of packets: it answers true. -/
import Derived.Test.YtnjggammbebpkabPkC
import Derived.Test.YtnjggammbebpkabPkD
namespace Go.Proofs.Ytnjggammbebpkab.LPktAt
open Go.RowKit Go.Proofs.Ytnjggammbebpkab.Kit Go.Proofs.Ytnjggammbebpkab.Pk Go.Proofs.Ytnjggammbebpkab.PkD
open Go.Proofs.Ytnjggammbebpkab.EndW (sideZ)
open Go.Proofs.Ytnjggammbebpkab.Tx (okB)

set_option maxHeartbeats 400000 in
theorem long (a0 a1 : Option Addr) (len0 cap0 len1 cap1 : Nat) (w : World) (h : (1048576 : Int) < (len0 : Int)) :
    Calls Try.prog 3 #[.slice a0 len0 cap0, .slice a1 len1 cap1] w fun e w' => e = .returned (.bool true) ∧ Below w.heap.size w w' := by
  go_enter Try.func3, Try.ntmps3
  go_wp2
  go_ret
  exact ⟨rfl, Below.refl _ _⟩

set_option maxHeartbeats 400000 in
theorem long2 (a0 a1 : Option Addr) (len0 cap0 len1 cap1 : Nat) (w : World) (h0 : (len0 : Int) ≤ 1048576) (h : (1048576 : Int) < (len1 : Int)) :
    Calls Try.prog 3 #[.slice a0 len0 cap0, .slice a1 len1 cap1] w fun e w' => e = .returned (.bool true) ∧ Below w.heap.size w w' := by
  go_enter Try.func3, Try.ntmps3
  go_wp2
  go_ret
  exact ⟨rfl, Below.refl _ _⟩

theorem blank (t : ByteArray) : okB (t ++ ⟨#[32]⟩).data.toList = false := by
  have e : (t ++ ⟨#[32]⟩).data.toList = t.data.toList ++ [32] := by simp [ByteArray.data_append]
  rw [e]
  unfold okB
  rw [List.all_append]
  simp [Tx.byteB]
theorem app_ne (t : ByteArray) : (t ++ ⟨#[32]⟩).toList.isEmpty = false := by
  have e : (t ++ ⟨#[32]⟩).toList = t.data.toList ++ [32] := by rw [ByteArray.toList_eq]; simp [ByteArray.data_append]
  rw [e]; simp
theorem byt_blank (k : Int) (t : ByteArray) : bytB k (t ++ ⟨#[32]⟩) = false := by
  unfold bytB
  rw [blank, app_ne]
  split
  · rfl
  · split <;> rfl

set_option maxHeartbeats 4000000 in
theorem short (a0 a1 : Option Addr) (len0 cap0 len1 cap1 : Nat) (z : Nat → Int) (w : World) (hc : CodeIn w a0 len0 cap0 z) (h : (len0 : Int) ≤ 1048576) (h1 : (len1 : Int) ≤ 1048576) :
    Calls Try.prog 3 #[.slice a0 len0 cap0, .slice a1 len1 cap1] w fun e w' => e = .returned (.bool true) ∧ Below w.heap.size w w' := by
  go_enter Try.func3, Try.ntmps3
  go_wp2_with fail
  refine (drawPktOk a0 len0 cap0 z _ hc).mono ?_
  rintro e w1 ⟨k, x, y, x2, y2, n, t, rfl, sm, k1⟩
  have ht : t.size ≤ maxLen := by have := sm.t1; unfold maxLen; omega
  have ht2 : t.size ≤ 20 := sm.t1
  have bel1 := k1.alloc k1.size (.cells #[.int .i64 k, .int .i64 x, .int .i64 y, .int .i64 x2, .int .i64 y2, .int .i64 n, .string t] 26)
  have z1 := k1.size
  clear k1
  obtain ⟨B, hB⟩ : ∃ B, pktB k x y x2 y2 n t = B := ⟨_, rfl⟩
  go_wp2_with fail
  refine (pktOk_is k x y x2 y2 n t B hB _).mono ?_
  rintro e w2 ⟨rfl, k2⟩
  have z2 := k2.size
  simp at z2
  have c2 := keepc k2 w1.heap.size (by simp)
  have f2 := keepf k2 w1.heap.size (by simp)
  have bel2 := bel1.trans (k2.mono (by simp; omega))
  clear k2 bel1
  go_wp2_with fail
  refine (spktOk_is k x y x2 y2 n t ht B hB _).mono ?_
  rintro e w3 ⟨rfl, k3⟩
  have z3 := k3.size
  have c3 := fun j => (keepc k3 w1.heap.size (by omega) j).trans (c2 j)
  have f3 := fun j => (keepf k3 w1.heap.size (by omega) j).trans (f2 j)
  have bel3 := bel2.trans (k3.mono (by omega))
  clear k3 bel2 c2 f2
  cases B
  · go_wp2_with fail
    refine (spktOk_is k x y x2 y2 n t ht false hB _).mono ?_
    rintro e w4 ⟨rfl, k4⟩
    go_wp2
    go_ret
    exact ⟨rfl, bel3.trans (k4.mono (by omega))⟩
  · obtain ⟨h1, h2, h3, h4, h5⟩ := pkt_parts hB
    have lt3 : w1.heap.size < w3.heap.size := by omega
    have lt4 : w1.heap.size < w3.heap.size + 1 := by omega
    have lt5 : w1.heap.size < w3.heap.size + 1 + 1 := by omega
    have hm0 : (0 : Int) ≤ (len1 : Int) % 100 := by omega
    have hm1 : (len1 : Int) % 100 ≤ 99 := by omega
    have hx : pktB k x y x2 y2 ((len1 : Int) % 100) t = true := by
      rw [pkt_at h1 h2 hm0 hm1]; rw [pkt_at h1 h2 h3 h4] at hB; exact hB
    have hy : pktB k x y x2 y2 100 t = false := pkt_no3 (by omega)
    have hz : pktB k x y x2 y2 n (t ++ ⟨#[32]⟩) = false := by rw [pkt_at h1 h2 h3 h4]; exact byt_blank k t
    clear h1 h2 h3 h4 h5 hB
    clear hm0 hm1
    go_wp2_with fail
    refine (pktOk_is k x y x2 y2 _ t true hx _).mono ?_
    rintro e w4 ⟨rfl, k4⟩
    have z4 := k4.size
    simp at z4
    have d4 := fun j => (keepc k4 (w3.heap.size + 1) (by simp <;> omega) j)
    have e4 := fun j => (keepc k4 (w3.heap.size + 1 + 1) (by simp <;> omega) j)
    have bel4 := (((bel3.alloc (by omega) _).alloc (by simp; omega) _).alloc (by simp; omega) _).trans (k4.mono (by simp; omega))
    clear k4 bel3
    go_wp2_with fail
    refine (pktOk_is k x y x2 y2 100 _ false hy _).mono ?_
    rintro e w5 ⟨rfl, k5⟩
    have z5 := k5.size
    have e5 := fun j => (keepc k5 (w3.heap.size + 1 + 1) (by omega) j).trans (e4 j)
    have bel5 := bel4.trans (k5.mono (by omega))
    clear k5 bel4 d4 e4
    go_wp2_with fail
    refine (pktOk_is k x y x2 y2 n _ false hz _).mono ?_
    rintro e w6 ⟨rfl, k6⟩
    go_wp2
    go_ret
    exact ⟨rfl, bel5.trans (k6.mono (by omega))⟩
end Go.Proofs.Ytnjggammbebpkab.LPktAt

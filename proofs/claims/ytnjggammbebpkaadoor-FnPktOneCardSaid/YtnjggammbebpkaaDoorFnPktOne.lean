/- The walk of the law on two packets and their texts: it answers true. -/
import Derived.Test.YtnjggammbebpkaaDoorPkI
import Derived.Test.YtnjggammbebpkaaDoorPkD
namespace Go.Proofs.YtnjggammbebpkaaDoor.LPktOne
open Go.RowKit Go.Proofs.YtnjggammbebpkaaDoor.Kit Go.Proofs.YtnjggammbebpkaaDoor.Pk Go.Proofs.YtnjggammbebpkaaDoor.PkD

set_option maxHeartbeats 400000 in
theorem long (a0 a1 : Option Addr) (len0 cap0 len1 cap1 : Nat) (w : World) (h : (1048576 : Int) < (len0 : Int)) :
    Calls Tryd.prog 3 #[.slice a0 len0 cap0, .slice a1 len1 cap1] w fun e w' => e = .returned (.bool true) ∧ Below w.heap.size w w' := by
  go_enter Tryd.func3, Tryd.ntmps3
  go_wp2
  go_ret
  exact ⟨rfl, Below.refl _ _⟩

set_option maxHeartbeats 400000 in
theorem long2 (a0 a1 : Option Addr) (len0 cap0 len1 cap1 : Nat) (w : World) (h0 : (len0 : Int) ≤ 1048576) (h : (1048576 : Int) < (len1 : Int)) :
    Calls Tryd.prog 3 #[.slice a0 len0 cap0, .slice a1 len1 cap1] w fun e w' => e = .returned (.bool true) ∧ Below w.heap.size w w' := by
  go_enter Tryd.func3, Tryd.ntmps3
  go_wp2
  go_ret
  exact ⟨rfl, Below.refl _ _⟩

theorem ne_list {s t : ByteArray} (h : s ≠ t) : (s.toList == t.toList) = false := by
  rw [beq_eq_false_iff_ne]
  intro e
  apply h
  rw [ByteArray.toList_eq, ByteArray.toList_eq] at e
  obtain ⟨⟨l⟩⟩ := s
  obtain ⟨⟨m⟩⟩ := t
  have : l = m := e
  rw [this]

set_option maxHeartbeats 8000000 in
theorem short (a0 a1 : Option Addr) (len0 cap0 len1 cap1 : Nat) (z y : Nat → Int) (w : World) (hc : CodeIn w a0 len0 cap0 z) (hc1 : CodeIn w a1 len1 cap1 y) (h : (len0 : Int) ≤ 1048576) (h1 : (len1 : Int) ≤ 1048576) :
    Calls Tryd.prog 3 #[.slice a0 len0 cap0, .slice a1 len1 cap1] w fun e w' => e = .returned (.bool true) ∧ Below w.heap.size w w' := by
  go_enter Tryd.func3, Tryd.ntmps3
  go_wp2_with fail
  refine (drawPktText a0 len0 cap0 z _ hc).mono ?_
  rintro e w1 ⟨k, a, b, c, d, n, t, rfl, sm, k1⟩
  have ht : t.size ≤ maxLen := by have := sm.t1; unfold maxLen; omega
  have eP := (Below.refl w1.heap.size w1).alloc (Nat.le_refl _) (.cells #[.int .i64 k, .int .i64 a, .int .i64 b, .int .i64 c, .int .i64 d, .int .i64 n, .string t] 26)
  have bel1 := k1.alloc k1.size (.cells #[.int .i64 k, .int .i64 a, .int .i64 b, .int .i64 c, .int .i64 d, .int .i64 n, .string t] 26)
  have hcm := hc1.below bel1
  have z1 := k1.size
  clear k1 sm hc hc1
  go_wp2_with fail
  refine (drawPktText a1 len1 cap1 y _ hcm).mono ?_
  rintro e w2 ⟨k2, a2, b2, c2, d2, n2, t2, rfl, sm2, q2⟩
  have ht2 : t2.size ≤ maxLen := by have := sm2.t1; unfold maxLen; omega
  have z2 := q2.size
  simp at z2
  have P2 := keepc q2 w1.heap.size (by simp)
  have eQ := (Below.refl w2.heap.size w2).alloc (Nat.le_refl _) (.cells #[.int .i64 k2, .int .i64 a2, .int .i64 b2, .int .i64 c2, .int .i64 d2, .int .i64 n2, .string t2] 26)
  have P3 := fun j => (keepc eQ w1.heap.size (by omega) j).trans (P2 j)
  have bel2 := (bel1.trans (q2.mono (by simp; omega))).alloc (by omega) (.cells #[.int .i64 k2, .int .i64 a2, .int .i64 b2, .int .i64 c2, .int .i64 d2, .int .i64 n2, .string t2] 26)
  have lt2 : w1.heap.size < w2.heap.size := by omega
  obtain ⟨S, hS⟩ : ∃ S, pktS k a b c d n t = S := ⟨_, rfl⟩
  obtain ⟨T, hT⟩ : ∃ T, pktS k2 a2 b2 c2 d2 n2 t2 = T := ⟨_, rfl⟩
  have eS := pktS_emp k a b c d n t
  have eT := pktS_emp k2 a2 b2 c2 d2 n2 t2
  rw [hS] at eS
  rw [hT] at eT
  clear q2 sm2 hcm eP bel1
  go_wp2_with fail
  refine (pktText_is k a b c d n t S hS _).mono ?_
  rintro e w3 ⟨rfl, k3⟩
  have z3 := k3.size
  simp at z3
  have P4 := fun j => (keepc k3 w1.heap.size (by simp; omega) j).trans (P3 j)
  have Q4 := keepc k3 w2.heap.size (by simp)
  have bel3 := bel2.trans (k3.mono (by simp; omega))
  clear k3 bel2 P3 P2 eQ
  go_wp2_with fail
  refine (pktText_is k2 a2 b2 c2 d2 n2 t2 T hT _).mono ?_
  rintro e w4 ⟨rfl, k4⟩
  have z4 := k4.size
  have P5 := fun j => (keepc k4 w1.heap.size (by omega) j).trans (P4 j)
  have Q5 := fun j => (keepc k4 w2.heap.size (by omega) j).trans (Q4 j)
  have bel4 := bel3.trans (k4.mono (by omega))
  clear k4 bel3 P4 Q4
  go_wp2_with fail
  refine (spktText_is k a b c d n t S ht hS _).mono ?_
  rintro e w5 ⟨rfl, k5⟩
  have z5 := k5.size
  have P6 := fun j => (keepc k5 w1.heap.size (by omega) j).trans (P5 j)
  have Q6 := fun j => (keepc k5 w2.heap.size (by omega) j).trans (Q5 j)
  have bel5 := bel4.trans (k5.mono (by omega))
  clear k5 bel4 P5 Q5
  go_wp2_with fail
  refine (spktText_is k2 a2 b2 c2 d2 n2 t2 T ht2 hT _).mono ?_
  rintro e w6 ⟨rfl, k6⟩
  have z6 := k6.size
  have P7 := fun j => (keepc k6 w1.heap.size (by omega) j).trans (P6 j)
  have Q7 := fun j => (keepc k6 w2.heap.size (by omega) j).trans (Q6 j)
  have bel6 := bel5.trans (k6.mono (by omega))
  clear k6 bel5 P6 Q6
  cases hA : pktB k a b c d n t
  · rw [hA] at eS
    simp only [Bool.not_false] at eS
    go_wp2_with fail
    refine (spktText_is k a b c d n t S ht hS _).mono ?_
    rintro e w7 ⟨rfl, k7⟩
    have z7 := k7.size
    have Q8 := fun j => (keepc k7 w2.heap.size (by omega) j).trans (Q7 j)
    have bel7 := bel6.trans (k7.mono (by omega))
    clear k7 bel6 P7 Q7
    go_wp2_with fail
    refine (spktText_is k2 a2 b2 c2 d2 n2 t2 T ht2 hT _).mono ?_
    rintro e w8 ⟨rfl, k8⟩
    go_wp2
    go_ret
    exact ⟨rfl, bel7.trans (k8.mono (by omega))⟩
  · rw [hA] at eS
    simp only [Bool.not_true] at eS
    cases hB : pktB k2 a2 b2 c2 d2 n2 t2
    · rw [hB] at eT
      simp only [Bool.not_false] at eT
      go_wp2_with fail
      refine (spktText_is k a b c d n t S ht hS _).mono ?_
      rintro e w7 ⟨rfl, k7⟩
      have z7 := k7.size
      have Q8 := fun j => (keepc k7 w2.heap.size (by omega) j).trans (Q7 j)
      have bel7 := bel6.trans (k7.mono (by omega))
      clear k7 bel6 P7 Q7
      go_wp2_with fail
      refine (spktText_is k2 a2 b2 c2 d2 n2 t2 T ht2 hT _).mono ?_
      rintro e w8 ⟨rfl, k8⟩
      go_wp2
      go_ret
      exact ⟨rfl, bel7.trans (k8.mono (by omega))⟩
    · rw [hB] at eT
      simp only [Bool.not_true] at eT
      have key : ¬ (k = k2 ∧ a = a2 ∧ b = b2 ∧ c = c2 ∧ d = d2 ∧ n = n2 ∧ t = t2) → (S.toList == T.toList) = false := fun hne => by
        rw [beq_eq_false_iff_ne, ← hS, ← hT, pktS_list hA, pktS_list hB]
        exact fun e => hne (pkt_inj hA hB e)
      clear hA hB
      by_cases hk : k = k2
      · subst hk
        by_cases ha : a = a2
        · subst ha
          by_cases hb : b = b2
          · subst hb
            by_cases hc : c = c2
            · subst hc
              by_cases hd : d = d2
              · subst hd
                by_cases hn : n = n2
                · subst hn
                  by_cases htt : t = t2
                  · subst htt
                    obtain rfl : S = T := hS.symm.trans hT
                    clear key hS hT eT
                    go_wp2
                    go_ret
                    exact ⟨rfl, bel6⟩
                  · have hq := key (fun e => htt e.2.2.2.2.2.2)
                    have hb := ne_list htt
                    clear key hS hT
                    go_wp2
                    go_ret
                    exact ⟨rfl, bel6⟩
                · have hq := key (fun e => hn e.2.2.2.2.2.1)
                  have hb : (n == n2) = false := by simpa using hn
                  clear key hS hT
                  go_wp2
                  go_ret
                  exact ⟨rfl, bel6⟩
              · have hq := key (fun e => hd e.2.2.2.2.1)
                have hb : (d == d2) = false := by simpa using hd
                clear key hS hT
                go_wp2
                go_ret
                exact ⟨rfl, bel6⟩
            · have hq := key (fun e => hc e.2.2.2.1)
              have hb : (c == c2) = false := by simpa using hc
              clear key hS hT
              go_wp2
              go_ret
              exact ⟨rfl, bel6⟩
          · have hq := key (fun e => hb e.2.2.1)
            have hb : (b == b2) = false := by simpa using hb
            clear key hS hT
            go_wp2
            go_ret
            exact ⟨rfl, bel6⟩
        · have hq := key (fun e => ha e.2.1)
          have hb : (a == a2) = false := by simpa using ha
          clear key hS hT
          go_wp2
          go_ret
          exact ⟨rfl, bel6⟩
      · have hq := key (fun e => hk e.1)
        have hb : (k == k2) = false := by simpa using hk
        clear key hS hT
        go_wp2
        go_ret
        exact ⟨rfl, bel6⟩
end Go.Proofs.YtnjggammbebpkaaDoor.LPktOne

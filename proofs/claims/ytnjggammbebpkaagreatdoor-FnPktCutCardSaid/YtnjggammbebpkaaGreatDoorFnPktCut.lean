/- The walk of the law on packets' texts that are cut, or have a blank more: it answers true. -/
import Derived.Test.YtnjggammbebpkaaGreatDoorPkQ
import Derived.Test.YtnjggammbebpkaaGreatDoorPkD
namespace Go.Proofs.YtnjggammbebpkaaGreatDoor.LPktCut
open Go.RowKit Go.Proofs.YtnjggammbebpkaaGreatDoor.Kit Go.Proofs.YtnjggammbebpkaaGreatDoor.Pk Go.Proofs.YtnjggammbebpkaaGreatDoor.PkD Go.Proofs.YtnjggammbebpkaaGreatDoor.PkR
set_option linter.unusedVariables false
set_option linter.unusedSimpArgs false

set_option maxHeartbeats 400000 in
theorem long (a0 : Option Addr) (len0 cap0 : Nat) (w : World) (h : (1048576 : Int) < (len0 : Int)) :
    Calls Tryz.prog 5 #[.slice a0 len0 cap0] w fun e w' => e = .returned (.bool true) ∧ Below w.heap.size w w' := by
  go_enter Tryz.func5, Tryz.ntmps5
  go_wp2
  go_ret
  exact ⟨rfl, Below.refl _ _⟩

theorem last_in (X Y Z : List UInt8) (hz : Z ≠ []) (h : X ++ [32] = Y ++ Z) : (32 : UInt8) ∈ Z := by
  have h1 := congrArg List.getLast? h
  rw [List.getLast?_concat, List.getLast?_append] at h1
  cases hq : Z.getLast? with
  | none => exact absurd (List.getLast?_eq_none_iff.1 hq) hz
  | some x =>
    rw [hq] at h1
    have e : (32 : UInt8) = x := by simpa using h1
    rw [e]
    exact List.mem_of_getLast? hq
theorem no_blank (k a b c d n : Int) (t : ByteArray) (hB : pktB k a b c d n t = true) (X : List UInt8) : pktL k a b c d n t ≠ X ++ [32] := by
  intro e
  obtain ⟨h1, h2, h3, h4, h5⟩ := pkt_parts hB
  unfold pktL at e
  rcases h5 with ⟨rfl, he, ho⟩ | ⟨rfl, rfl⟩
  · rw [if_pos rfl] at e
    have hz : t.data.toList ≠ [] := by
      intro h0
      rw [ByteArray.toList_eq, h0] at he
      cases he
    refine nb_ok t ho (last_in X ((wordS 1).data.toList ++ 32 :: (((Text.txt a b).data.toList) ++ 32 :: (((Text.txt c d).data.toList) ++ 32 :: (((Itoa.decS n).data.toList) ++ [32])))) t.data.toList hz ?_)
    rw [← e]
    simp
  · rw [if_neg (by decide), List.append_nil] at e
    have hz : (Itoa.decS n).data.toList ≠ [] := by
      rw [dec_list]; split <;> simp
    refine nb_dec n h3 h4 (last_in X ((wordS 2).data.toList ++ 32 :: (((Text.txt a b).data.toList) ++ 32 :: (((Text.txt c d).data.toList) ++ [32]))) _ hz ?_)
    rw [← e]
    simp
theorem no_head (k a b c d n : Int) (t : ByteArray) (hB : pktB k a b c d n t = true) (X : List UInt8) : pktL k a b c d n t ≠ 32 :: X := by
  intro e
  obtain ⟨h1, h2, h3, h4, h5⟩ := pkt_parts hB
  unfold pktL at e
  have hk : k = 1 ∨ k = 2 := h5.elim (fun q => .inl q.1) (fun q => .inr q.1)
  rcases hk with rfl | rfl
  · have e1 : (wordS 1).data.toList = [100, 97, 116, 97] := rfl
    rw [e1] at e; simp at e
  · have e1 : (wordS 2).data.toList = [97, 99, 107] := rfl
    rw [e1] at e; simp at e

/-- a text that is of no packet is read as none -/
theorem read_no (s : ByteArray) (hm : s.size ≤ 1000) (hn : None' s) (p : Addr) (w : World) (hG : Glob w p) :
    Calls Tryz.prog 9 #[.string s] w fun e w' => e = .returned (.tuple #[pktV 0 0 0 0 0 0 ⟨#[]⟩, .bool false]) ∧ Below w.heap.size w w' := by
  refine (pktRead s (by omega) p w hG).mono ?_
  rintro e w' ⟨k2, a2, b2, c2, d2, n2, t2, B, rfl, kk, T⟩
  obtain ⟨rfl, rfl, rfl, rfl, rfl, rfl, rfl, rfl⟩ := ptold_one T (told_none hn)
  exact ⟨rfl, kk⟩
theorem ne_list {s t : ByteArray} (h : s ≠ t) : (s.toList == t.toList) = false := by
  rw [beq_eq_false_iff_ne]
  intro e
  apply h
  rw [ByteArray.toList_eq, ByteArray.toList_eq] at e
  exact Spl.ext_list e

set_option maxHeartbeats 8000000 in
theorem short (a0 : Option Addr) (len0 cap0 : Nat) (z : Nat → Int) (w : World) (hc : CodeIn w a0 len0 cap0 z) (h : (len0 : Int) ≤ 1048576) (hG : ∃ p, Glob w p) :
    Calls Tryz.prog 5 #[.slice a0 len0 cap0] w fun e w' => e = .returned (.bool true) ∧ Below w.heap.size w w' := by
  obtain ⟨p, hG⟩ := hG
  have HG := (show Hid (Glob w p) from hG)
  clear hG
  go_enter Tryz.func5, Tryz.ntmps5
  go_wp2_with fail
  refine (drawPktText a0 len0 cap0 z _ hc).mono ?_
  rintro e w1 ⟨k, a, b, c, d, n, t, rfl, sm, k1⟩
  have ht : t.size ≤ maxLen := by have := sm.t1; unfold maxLen; omega
  have bel1 := k1.alloc k1.size (.cells #[.int .i64 k, .int .i64 a, .int .i64 b, .int .i64 c, .int .i64 d, .int .i64 n, .string t] 26)
  have z1 := k1.size
  clear k1 sm hc
  obtain ⟨S, hS⟩ : ∃ S, pktS k a b c d n t = S := ⟨_, rfl⟩
  have eS := pktS_emp k a b c d n t
  have hSz : S.size ≤ 58 := by rw [← hS]; exact pktS_size _ _ _ _ _ _ _
  rw [hS] at eS
  go_wp2_with fail
  refine (pktText_is k a b c d n t S hS _).mono ?_
  rintro e w2 ⟨rfl, k2⟩
  have z2 := k2.size
  simp at z2
  have P2 := keepc k2 w1.heap.size (by simp)
  have bel2 := bel1.trans (k2.mono (by simp; omega))
  clear k2 bel1
  go_wp2_with fail
  refine (spktText_is k a b c d n t S ht hS _).mono ?_
  rintro e w3 ⟨rfl, k3⟩
  have z3 := k3.size
  have P3 := fun j => (keepc k3 w1.heap.size (by omega) j).trans (P2 j)
  have bel3 := bel2.trans (k3.mono (by omega))
  clear k3 bel2 P2
  cases hB : pktB k a b c d n t
  · rw [hB] at eS
    simp only [Bool.not_false] at eS
    clear HG
    go_wp2_with fail
    refine (spktText_is k a b c d n t S ht hS _).mono ?_
    rintro e w4 ⟨rfl, k4⟩
    go_wp2
    go_ret
    exact ⟨rfl, bel3.trans (k4.mono (by omega))⟩
  · rw [hB] at eS
    simp only [Bool.not_true] at eS
    have hl : S.data.toList = pktL k a b c d n t := by
      have := pktS_list hB
      rw [hS, ByteArray.toList_eq] at this
      exact this
    have hS1 : 1 ≤ S.size := by
      rw [sz_list, hl]; unfold pktL
      simp only [List.length_append, List.length_cons]; omega
    have hS1' : (1 : Int) ≤ S.size := by omega
    have hSz' : (S.size : Int) ≤ 58 := by omega
    obtain ⟨m, hm⟩ : ∃ m, S.size - 1 = m := ⟨_, rfl⟩
    have hmi : (S.size : Int) - 1 = (m : Int) := by omega
    have hml : (m : Int) ≤ S.size := by omega
    have hx0 : (S.extract 0 m).size ≤ 58 := by rw [ByteArray.size_extract]; omega
    have hxl : (S.extract 0 m).data.toList.length = m := by
      rw [← sz_list, ByteArray.size_extract]; omega
    have e32 : (⟨#[32]⟩ : ByteArray).size = 1 := rfl
    have hq1 : (S ++ ⟨#[32]⟩).size ≤ 59 := by rw [ByteArray.size_append]; omega
    have hq2 : ((⟨#[32]⟩ : ByteArray) ++ S).size ≤ 59 := by rw [ByteArray.size_append]; omega
    have N1 : None' (S ++ ⟨#[32]⟩) := fun k2 a2 b2 c2 d2 n2 t2 h2 e => by
      have : (S ++ ⟨#[32]⟩).data.toList = S.data.toList ++ [32] := by simp [ByteArray.data_append]
      exact no_blank _ _ _ _ _ _ _ h2 S.data.toList (e.symm.trans this)
    have N2 : None' ((⟨#[32]⟩ : ByteArray) ++ S) := fun k2 a2 b2 c2 d2 n2 t2 h2 e => by
      have : ((⟨#[32]⟩ : ByteArray) ++ S).data.toList = 32 :: S.data.toList := by simp [ByteArray.data_append]
      exact no_head _ _ _ _ _ _ _ h2 S.data.toList (e.symm.trans this)
    have key : ∀ {k2 a2 b2 c2 d2 n2 : Int} {t2 : ByteArray}, PTold (S.extract 0 m) k2 a2 b2 c2 d2 n2 t2 true → ¬ (k2 = k ∧ a2 = a ∧ b2 = b ∧ c2 = c ∧ d2 = d ∧ n2 = n ∧ t2 = t) := by
      intro k2 a2 b2 c2 d2 n2 t2 T ⟨r1, r2, r3, r4, r5, r6, r7⟩
      subst r1 r2 r3 r4 r5 r6 r7
      rcases T with ⟨_, _, h2⟩ | ⟨h, _⟩
      · have e1 := congrArg List.length (h2.trans hl.symm)
        rw [hxl] at e1
        have e2 : S.data.toList.length = S.size := rfl
        omega
      · cases h
    have HKEY := (show Hid (∀ {k2 a2 b2 c2 d2 n2 : Int} {t2 : ByteArray}, PTold (S.extract 0 m) k2 a2 b2 c2 d2 n2 t2 true → ¬ (k2 = k ∧ a2 = a ∧ b2 = b ∧ c2 = c ∧ d2 = d ∧ n2 = n ∧ t2 = t)) from key)
    have R0 := fun W hW => pktRead (S.extract 0 m) (by omega) p W hW
    have R1 := fun W hW => read_no (S ++ ⟨#[32]⟩) (by omega) N1 p W hW
    have R2 := fun W hW => read_no ((⟨#[32]⟩ : ByteArray) ++ S) (by omega) N2 p W hW
    have lw : w1.heap.size < w3.heap.size := by omega
    have hG3 := HG.out.below bel3
    clear key hB hS hl hxl hx0 N1 N2 hm ht HG
    go_wp2_with fail
    refine (R0 _ hG3).mono ?_
    rintro e w4 ⟨k2, a2, b2, c2, d2, n2, t2, B, rfl, k4, T⟩
    have z4 := k4.size
    have P4 := fun j => (keepc k4 w1.heap.size (by omega) j).trans (P3 j)
    have eX := (Below.refl w4.heap.size w4).alloc (Nat.le_refl _) (.cells #[.int .i64 k2, .int .i64 a2, .int .i64 b2, .int .i64 c2, .int .i64 d2, .int .i64 n2, .string t2] 26)
    have P5 := fun j => (keepc eX w1.heap.size (by omega) j).trans (P4 j)
    have bel4 := (bel3.trans (k4.mono (by omega))).alloc (by omega) (.cells #[.int .i64 k2, .int .i64 a2, .int .i64 b2, .int .i64 c2, .int .i64 d2, .int .i64 n2, .string t2] 26)
    have hG4 := (hG3.below k4).below eX
    have HT := (show Hid (PTold (S.extract 0 m) k2 a2 b2 c2 d2 n2 t2 B) from T)
    clear k4 eX P3 bel3 hG3 R0 T
    go_wp2_with fail
    refine (R1 _ hG4).mono ?_
    rintro e w5 ⟨rfl, k5⟩
    have z5 := k5.size
    simp at z5
    have P6 := fun j => (keepc k5 w1.heap.size (by simp; omega) j).trans (P5 j)
    have X6 := keepc k5 w4.heap.size (by simp)
    have eY := (Below.refl w5.heap.size w5).alloc (Nat.le_refl _) (.cells #[.int .i64 0, .int .i64 0, .int .i64 0, .int .i64 0, .int .i64 0, .int .i64 0, .string ⟨#[]⟩] 26)
    have P7 := fun j => (keepc eY w1.heap.size (by omega) j).trans (P6 j)
    have X7 := fun j => (keepc eY w4.heap.size (by omega) j).trans (X6 j)
    have bel5 := (bel4.trans (k5.mono (by simp; omega))).alloc (by omega) (.cells #[.int .i64 0, .int .i64 0, .int .i64 0, .int .i64 0, .int .i64 0, .int .i64 0, .string ⟨#[]⟩] 26)
    have hG5 := (hG4.below k5).below eY
    clear k5 eY P4 P5 P6 X6 bel4 hG4 R1
    go_wp2_with fail
    refine (R2 _ hG5).mono ?_
    rintro e w6 ⟨rfl, k6⟩
    have z6 := k6.size
    simp at z6
    have P8 := fun j => (keepc k6 w1.heap.size (by simp; omega) j).trans (P7 j)
    have X8 := fun j => (keepc k6 w4.heap.size (by simp; omega) j).trans (X7 j)
    have lw6 : w1.heap.size < w6.heap.size := by omega
    have lx6 : w4.heap.size < w6.heap.size := by omega
    have bel6 := (bel5.trans (k6.mono (by simp; omega))).alloc (by omega) (.cells #[.int .i64 0, .int .i64 0, .int .i64 0, .int .i64 0, .int .i64 0, .int .i64 0, .string ⟨#[]⟩] 26)
    clear k6 P7 X7 bel5 hG5 R2
    cases B
    · go_wp2
      go_ret
      exact ⟨rfl, bel6⟩
    · have hne := HKEY.out HT.out
      clear HT HKEY
      by_cases hk : k2 = k
      · subst hk
        by_cases ha : a2 = a
        · subst ha
          by_cases hb : b2 = b
          · subst hb
            by_cases hc : c2 = c
            · subst hc
              by_cases hd : d2 = d
              · subst hd
                by_cases hn : n2 = n
                · subst hn
                  have htt : t2 ≠ t := fun e => hne ⟨rfl, rfl, rfl, rfl, rfl, rfl, e⟩
                  have hb := ne_list htt
                  clear hne htt
                  go_wp2
                  go_ret
                  exact ⟨rfl, bel6⟩
                · have hb : (n2 == n) = false := by simpa using hn
                  clear hne
                  go_wp2
                  go_ret
                  exact ⟨rfl, bel6⟩
              · have hb : (d2 == d) = false := by simpa using hd
                clear hne
                go_wp2
                go_ret
                exact ⟨rfl, bel6⟩
            · have hb : (c2 == c) = false := by simpa using hc
              clear hne
              go_wp2
              go_ret
              exact ⟨rfl, bel6⟩
          · have hb : (b2 == b) = false := by simpa using hb
            clear hne
            go_wp2
            go_ret
            exact ⟨rfl, bel6⟩
        · have hb : (a2 == a) = false := by simpa using ha
          clear hne
          go_wp2
          go_ret
          exact ⟨rfl, bel6⟩
      · have hb : (k2 == k) = false := by simpa using hk
        clear hne
        go_wp2
        go_ret
        exact ⟨rfl, bel6⟩
end Go.Proofs.YtnjggammbebpkaaGreatDoor.LPktCut

/- Walks: StreamOut, StreamFor, StreamBack of the model. -/
import Derived.Test.YtcpdkicmmhnpcaaGreatDoorSsA
import Derived.Test.YtcpdkicmmhnpcaaGreatDoorStE
namespace Go.Proofs.YtcpdkicmmhnpcaaGreatDoor.StS
open Go.RowKit Go.Shelf Go.Proofs.YtcpdkicmmhnpcaaGreatDoor.Kit Go.Proofs.YtcpdkicmmhnpcaaGreatDoor.Tx Go.Proofs.YtcpdkicmmhnpcaaGreatDoor.Nm Go.Proofs.YtcpdkicmmhnpcaaGreatDoor.App Go.Proofs.YtcpdkicmmhnpcaaGreatDoor.St Go.Proofs.YtcpdkicmmhnpcaaGreatDoor.Lz Go.Proofs.YtcpdkicmmhnpcaaGreatDoor.LzP
set_option linter.unusedSimpArgs false
set_option linter.unusedVariables false

theorem isT_at {W : World} {a : Option Addr} {cap : Nat} {ps : List (Int × ByteArray)} (h : ps = [] ∨ ∃ g o, a = some ⟨g, o, none⟩ ∧ ∀ (i : Nat) (p : Int × ByteArray), ps[i]? = some p → At2 W g (o + i * 2) p) (k : Nat) (p : Int × ByteArray) (hp : ps[k]? = some p) : ∃ g o, a = some ⟨g, o, none⟩ ∧ At2 W g (o + k * 2) p := by
  rcases h with rfl | ⟨g, o, rfl, h⟩
  · simp at hp
  · exact ⟨g, o, rfl, h k p hp⟩

set_option maxHeartbeats 1000000 in
theorem in_any (x a b : Int) (w : World) : Calls Tryz.prog 29 #[.int .i64 x, .int .i64 a, .int .i64 b] w fun e w' => e = .returned (.bool (decide (a ≤ x ∧ x ≤ b))) ∧ w' = w := by
  go_enter Tryz.func29, Tryz.ntmps29
  by_cases h1 : a ≤ x
  · by_cases h2 : x ≤ b
    · go_wp2
      go_ret
      exact ⟨by simp [h1, h2], rfl⟩
    · go_wp2
      go_ret
      exact ⟨by simp [h1, h2], rfl⟩
  · go_wp2
    go_ret
    exact ⟨by simp; omega, rfl⟩
set_option maxRecDepth 8000 in
set_option maxHeartbeats 4000000 in
theorem lfor_any (s : ByteArray) (v : Value) (ps : List (Int × ByteArray)) (n : Int) (W : World) (hT : IsT W v ps) (hs : Small ps) (hn : 0 ≤ n ∧ n ≤ 1000) :
    Calls Tryz.prog 49 #[.agg #[.string s, v], .int .i64 n] W fun r W' => r = .returned (.int .i64 (acr (sideH true) (sideH false) ps n)) ∧ Below W.heap.size W W' := by
  obtain ⟨a, cap, rfl, hc, hcm, hr⟩ := hT
  have h40 := hs.1
  have bA : Below W.heap.size W (W.alloc (.cells #[.string s, .slice a ps.length cap] 26)) := (Below.refl _ _).alloc (Nat.le_refl _) _
  have e1 : (W.alloc (.cells #[.string s, .slice a ps.length cap] 26)).cell? ⟨W.heap.size, 1, none⟩ = some (.slice a ps.length cap) := by simp
  have hl1 : W.heap.size < (W.alloc (.cells #[.string s, .slice a ps.length cap] 26)).heap.size := by simp
  go_enter Tryz.func49, Tryz.ntmps49
  go_wp2
  generalize (W.alloc (.cells #[.string s, .slice a ps.length cap] 26)) = W1 at bA e1 hl1 ⊢
  go_loopw [1, 5, 6] (fun y t i wr => ∃ (k : Nat) (m q : Int), k ≤ ps.length ∧ y = .int .i64 m ∧ t = .int .i64 q ∧ i = .int .i64 k ∧ 0 ≤ m ∧ m ≤ n ∧ 0 ≤ q ∧ q ≤ 6 * (k : Int) ∧ q + acr (sideH true) (sideH false) (ps.drop k) m = acr (sideH true) (sideH false) ps n ∧ Below W1.heap.size W1 wr) (fun y t i wr => ps.length - (intOf i).toNat)
  case atStart => exact ⟨0, n, 0, Nat.zero_le _, rfl, rfl, rfl, hn.1, Int.le_refl _, Int.le_refl _, by omega, by simp, Below.refl _ _⟩
  case round =>
    obtain ⟨k, m, q, hk, rfl, rfl, rfl, hm0, hmn, hq0, hq6, hac, hb⟩ := hrel
    have f1 := (hb.cell (p := ⟨W.heap.size, 1, none⟩) hl1).trans e1
    by_cases hkl : k < ps.length
    · have hkl' : (k : Int) < (ps.length : Int) := by omega
      have hp : ps[k]? = some ps[k] := List.getElem?_eq_getElem hkl
      have hmem : ps[k] ∈ ps := List.getElem_mem hkl
      have hdr : ps.drop k = ps[k] :: ps.drop (k + 1) := List.drop_eq_getElem_cons hkl
      rw [hdr] at hac
      obtain ⟨g, o, rfl, at2⟩ := isT_at (cap := cap) hr k _ hp
      obtain ⟨x0, x1⟩ := (at2.below bA).below hb
      obtain ⟨hz1, hz2⟩ := hs.2 _ hmem
      generalize ps[k] = p at hp hac hmem x0 x1 hz1 hz2
      clear at2 hp hdr hr e1
      by_cases hle : sideH true p ≤ m
      · rw [acr, if_pos hle] at hac
        have HA2 := (show Hid _ from hac)
        clear hac
        simp only [sideH, inZ, outZ] at hle
        go_wp2
        go_roundw
        case rel =>
          refine ⟨k + 1, m - sideH true p, q + sideH false p, by omega, rfl, rfl, by go_num, by simp only [sideH, inZ, outZ]; omega, by simp only [sideH, inZ, outZ]; omega, by simp only [sideH, inZ, outZ]; omega, by simp only [sideH, inZ, outZ]; omega, ?_, hb⟩
          have := HA2.out
          omega
        case measure => simp [intOf]; omega
      · rw [acr, if_neg hle] at hac
        have hqe : q = acr (sideH true) (sideH false) ps n := by omega
        simp only [sideH, inZ, outZ] at hle
        go_wp2
        go_ret
        exact ⟨by first | rfl | (rw [hqe]; rfl), bA.trans (hb.mono bA.size)⟩
    · have hge : (ps.length : Int) ≤ (k : Int) := by omega
      have hnil : ps.drop k = [] := List.drop_of_length_le (by omega)
      rw [hnil, acr] at hac
      have hqe : q = acr (sideH true) (sideH false) ps n := by omega
      go_wp2
      go_ret
      exact ⟨by first | rfl | (rw [hqe]; rfl), bA.trans (hb.mono bA.size)⟩
set_option maxRecDepth 8000 in
set_option maxHeartbeats 4000000 in
theorem sfor_any (s : ByteArray) (v : Value) (ps : List (Int × ByteArray)) (n : Int) (W : World) (hT : IsT W v ps) (hs : s.size ≤ 1073741824) (hps : ∀ p ∈ ps, p.2.size ≤ 1073741824) :
    Calls Tryz.prog 23 #[.agg #[.string s, v], .int .i64 n] W fun r W' => r = .returned (.int .i64 (forZ s ps n)) ∧ Below W.heap.size W W' := by
  have bA : Below W.heap.size W (W.alloc (.cells #[.string s, v] 26)) := (Below.refl _ _).alloc (Nat.le_refl _) _
  have hT1 := hT.below bA
  obtain ⟨a, cap, rfl, _⟩ := hT
  go_enter Tryz.func23, Tryz.ntmps23
  go_wp2_with fail
  refine (sstream_any s _ ps _ hT1 hs hps).mono ?_
  rintro e w1 ⟨rfl, k1⟩
  have c1 := keepc k1 W.heap.size (by simp)
  have e0 : w1.cell? ⟨W.heap.size, 0, none⟩ = some (.string s) := by rw [c1 0]; simp [go_sem]
  have e1 : w1.cell? ⟨W.heap.size, 1, none⟩ = some (.slice a ps.length cap) := by rw [c1 1]; simp [go_sem]
  have b1 := bA.trans (k1.mono (by simp))
  have hT2 := hT1.below k1
  clear c1 k1
  cases hst : stB s ps
  · have hz : forZ s ps n = -1 := if_neg (fun h => by rw [hst] at h; exact Bool.false_ne_true h.1)
    go_wp2
    go_ret
    exact ⟨by first | rfl | (rw [hz]; rfl), b1⟩
  · have hok := (stB_parts.1 hst).1
    have h40 := (ok_parts _ hok).1
    rw [lenL] at h40
    by_cases hin : 0 ≤ n ∧ n ≤ (s.size : Int)
    · have hz : forZ s ps n = acr (sideH true) (sideH false) ps n := if_pos ⟨hst, hin.1, hin.2⟩
      have hd : decide (0 ≤ n ∧ n ≤ (s.size : Int)) = true := by simpa using hin
      go_wp2_with fail
      refine (in_any n 0 (s.size : Nat) _).mono ?_
      rintro e w2 ⟨rfl, rfl⟩
      rw [hd]
      go_wp2_with fail
      refine (lfor_any s _ ps n _ hT2 (stB_small hst) ⟨hin.1, by omega⟩).mono ?_
      rintro e w3 ⟨rfl, k3⟩
      go_wp2
      go_ret
      exact ⟨by first | rfl | (rw [hz]; rfl), b1.trans (k3.mono b1.size)⟩
    · have hz : forZ s ps n = -1 := if_neg (fun h => hin h.2)
      have hd : decide (0 ≤ n ∧ n ≤ (s.size : Int)) = false := by simpa using hin
      go_wp2_with fail
      refine (in_any n 0 (s.size : Nat) _).mono ?_
      rintro e w2 ⟨rfl, rfl⟩
      rw [hd]
      go_wp2
      go_ret
      exact ⟨by first | rfl | (rw [hz]; rfl), b1⟩
end Go.Proofs.YtcpdkicmmhnpcaaGreatDoor.StS

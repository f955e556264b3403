/- Walks: StreamOut, StreamFor, StreamBack of the model. -/
import Derived.Test.YtcpdkicmmhnpcabGreatDoorSsA
import Derived.Test.YtcpdkicmmhnpcabGreatDoorStE
namespace Go.Proofs.YtcpdkicmmhnpcabGreatDoor.StS
open Go.RowKit Go.Shelf Go.Proofs.YtcpdkicmmhnpcabGreatDoor.Kit Go.Proofs.YtcpdkicmmhnpcabGreatDoor.Tx Go.Proofs.YtcpdkicmmhnpcabGreatDoor.Nm Go.Proofs.YtcpdkicmmhnpcabGreatDoor.App Go.Proofs.YtcpdkicmmhnpcabGreatDoor.St Go.Proofs.YtcpdkicmmhnpcabGreatDoor.Lz Go.Proofs.YtcpdkicmmhnpcabGreatDoor.LzP
set_option linter.unusedSimpArgs false
set_option linter.unusedVariables false

theorem isT_at {W : World} {a : Option Addr} {cap : Nat} {ps : List (Int × ByteArray)} (h : ps = [] ∨ ∃ g o, a = some ⟨g, o, none⟩ ∧ ∀ (i : Nat) (p : Int × ByteArray), ps[i]? = some p → At2 W g (o + i * 2) p) (k : Nat) (p : Int × ByteArray) (hp : ps[k]? = some p) : ∃ g o, a = some ⟨g, o, none⟩ ∧ At2 W g (o + k * 2) p := by
  rcases h with rfl | ⟨g, o, rfl, h⟩
  · simp at hp
  · exact ⟨g, o, rfl, h k p hp⟩

set_option maxRecDepth 8000 in
set_option maxHeartbeats 4000000 in
theorem lout_any8 (s : ByteArray) (v : Value) (ps : List (Int × ByteArray)) (W : World) (hT : IsT W v ps) (hs : ps.length ≤ 40 ∧ ∀ q ∈ ps, q.2.size ≤ 8) :
    Calls Tryz.prog 33 #[.agg #[.string s, v]] W fun r W' => r = .returned (.string (txW ps)) ∧ Below W.heap.size W W' := by
  obtain ⟨a, cap, rfl, hc, hcm, hr⟩ := hT
  have h40 := hs.1
  have hall := hs.2
  have bA : Below W.heap.size W (W.alloc (.cells #[.string s, .slice a ps.length cap] 25)) := (Below.refl _ _).alloc (Nat.le_refl _) _
  have e1 : (W.alloc (.cells #[.string s, .slice a ps.length cap] 25)).cell? ⟨W.heap.size, 1, none⟩ = some (.slice a ps.length cap) := by simp
  have hl1 : W.heap.size < (W.alloc (.cells #[.string s, .slice a ps.length cap] 25)).heap.size := by simp
  go_enter Tryz.func33, Tryz.ntmps33
  go_wp2
  generalize (W.alloc (.cells #[.string s, .slice a ps.length cap] 25)) = W1 at bA e1 hl1 ⊢
  go_loopw [3, 4] (fun o i wr => ∃ k : Nat, k ≤ ps.length ∧ i = .int .i64 k ∧ o = .string (txW (ps.take k)) ∧ (txW (ps.take k)).size ≤ 8 * k ∧ Below W1.heap.size W1 wr) (fun o i wr => ps.length - (intOf i).toNat)
  case atStart => exact ⟨0, Nat.zero_le _, rfl, rfl, Nat.le_refl _, Below.refl _ _⟩
  case round =>
    obtain ⟨k, hk, rfl, rfl, h6, hb⟩ := hrel
    have f1 := (hb.cell (p := ⟨W.heap.size, 1, none⟩) hl1).trans e1
    by_cases hlt : k < ps.length
    · have hlt' : (k : Int) < (ps.length : Int) := by omega
      have hp : ps[k]? = some ps[k] := List.getElem?_eq_getElem hlt
      obtain ⟨g, o, rfl, at2⟩ := isT_at (cap := cap) hr k _ hp
      obtain ⟨x0, x1⟩ := (at2.below bA).below hb
      have hz := hall _ (List.mem_of_getElem? hp)
      have hst := takeT_snoc hp
      generalize ps[k] = p at hp x0 x1 hst hz
      have hn : (txW (ps.take (k + 1))) = txW (ps.take k) ++ p.2 := by rw [hst, txW_snoc]
      have HN := (show Hid (txW (ps.take (k + 1)) = txW (ps.take k) ++ p.2) from hn)
      clear hn hst hp hall at2
      go_wp2
      go_roundw
      case rel => exact ⟨k + 1, by omega, by go_num, by rw [HN.out], by rw [HN.out, ByteArray.size_append]; omega, hb⟩
      case measure => simp [intOf]; omega
    · have hge : (ps.length : Int) ≤ (k : Int) := by omega
      have htk : ps.take k = ps := List.take_of_length_le (by omega)
      rw [htk]
      go_wp2
      go_ret
      exact ⟨rfl, bA.trans (hb.mono bA.size)⟩
theorem lout_any (s : ByteArray) (v : Value) (ps : List (Int × ByteArray)) (W : World) (hT : IsT W v ps) (hs : Small ps) :
    Calls Tryz.prog 33 #[.agg #[.string s, v]] W fun r W' => r = .returned (.string (txW ps)) ∧ Below W.heap.size W W' :=
  lout_any8 s v ps W hT ⟨hs.1, fun q hq => by have := (hs.2 q hq).2.2; omega⟩
set_option maxRecDepth 8000 in
set_option maxHeartbeats 4000000 in
theorem sout_any (s : ByteArray) (v : Value) (ps : List (Int × ByteArray)) (W : World) (hT : IsT W v ps) (hs : s.size ≤ 1073741824) (hps : ∀ p ∈ ps, p.2.size ≤ 1073741824) :
    Calls Tryz.prog 18 #[.agg #[.string s, v]] W fun r W' => r = .returned (.string (outB s ps)) ∧ Below W.heap.size W W' := by
  have bA : Below W.heap.size W (W.alloc (.cells #[.string s, v] 25)) := (Below.refl _ _).alloc (Nat.le_refl _) _
  have hT1 := hT.below bA
  obtain ⟨a, cap, rfl, _⟩ := hT
  go_enter Tryz.func18, Tryz.ntmps18
  go_wp2_with fail
  refine (sstream_any s _ ps _ hT1 hs hps).mono ?_
  rintro e w1 ⟨rfl, k1⟩
  have c1 := keepc k1 W.heap.size (by simp)
  have e0 : w1.cell? ⟨W.heap.size, 0, none⟩ = some (.string s) := by rw [c1 0]; simp [go_sem]
  have e1 : w1.cell? ⟨W.heap.size, 1, none⟩ = some (.slice a ps.length cap) := by rw [c1 1]; simp [go_sem]
  have b1 := bA.trans (k1.mono (by simp))
  have hT2 := hT1.below k1
  clear c1 k1
  cases hst : stB s ps
  · go_wp2
    go_ret
    exact ⟨by rw [outB_no hst]; rfl, b1⟩
  · go_wp2_with fail
    refine (lout_any s _ ps _ hT2 (stB_small hst)).mono ?_
    rintro e w2 ⟨rfl, k2⟩
    go_wp2
    go_ret
    exact ⟨by rw [outB_ok hst]; rfl, b1.trans (k2.mono b1.size)⟩
set_option maxHeartbeats 1000000 in
theorem in_any (x a b : Int) (w : World) : Calls Tryz.prog 38 #[.int .i64 x, .int .i64 a, .int .i64 b] w fun e w' => e = .returned (.bool (decide (a ≤ x ∧ x ≤ b))) ∧ w' = w := by
  go_enter Tryz.func38, Tryz.ntmps38
  by_cases h1 : a ≤ x
  · by_cases h2 : x ≤ b
    · go_wp2
      go_ret
      exact ⟨by simp [h1, h2], rfl⟩
    · go_wp2
      go_ret
      exact ⟨by simp [h1, h2], rfl⟩
  · go_wp2
    go_ret
    exact ⟨by simp; omega, rfl⟩
set_option maxRecDepth 8000 in
set_option maxHeartbeats 4000000 in
theorem lfor_any (s : ByteArray) (v : Value) (ps : List (Int × ByteArray)) (n : Int) (W : World) (hT : IsT W v ps) (hs : Small ps) (hn : 0 ≤ n ∧ n ≤ 1000) :
    Calls Tryz.prog 44 #[.agg #[.string s, v], .int .i64 n] W fun r W' => r = .returned (.int .i64 (acr (sideH true) (sideH false) ps n)) ∧ Below W.heap.size W W' := by
  obtain ⟨a, cap, rfl, hc, hcm, hr⟩ := hT
  have h40 := hs.1
  have bA : Below W.heap.size W (W.alloc (.cells #[.string s, .slice a ps.length cap] 25)) := (Below.refl _ _).alloc (Nat.le_refl _) _
  have e1 : (W.alloc (.cells #[.string s, .slice a ps.length cap] 25)).cell? ⟨W.heap.size, 1, none⟩ = some (.slice a ps.length cap) := by simp
  have hl1 : W.heap.size < (W.alloc (.cells #[.string s, .slice a ps.length cap] 25)).heap.size := by simp
  go_enter Tryz.func44, Tryz.ntmps44
  go_wp2
  generalize (W.alloc (.cells #[.string s, .slice a ps.length cap] 25)) = W1 at bA e1 hl1 ⊢
  go_loopw [1, 5, 6] (fun y t i wr => ∃ (k : Nat) (m q : Int), k ≤ ps.length ∧ y = .int .i64 m ∧ t = .int .i64 q ∧ i = .int .i64 k ∧ 0 ≤ m ∧ m ≤ n ∧ 0 ≤ q ∧ q ≤ 6 * (k : Int) ∧ q + acr (sideH true) (sideH false) (ps.drop k) m = acr (sideH true) (sideH false) ps n ∧ Below W1.heap.size W1 wr) (fun y t i wr => ps.length - (intOf i).toNat)
  case atStart => exact ⟨0, n, 0, Nat.zero_le _, rfl, rfl, rfl, hn.1, Int.le_refl _, Int.le_refl _, by omega, by simp, Below.refl _ _⟩
  case round =>
    obtain ⟨k, m, q, hk, rfl, rfl, rfl, hm0, hmn, hq0, hq6, hac, hb⟩ := hrel
    have f1 := (hb.cell (p := ⟨W.heap.size, 1, none⟩) hl1).trans e1
    by_cases hkl : k < ps.length
    · have hkl' : (k : Int) < (ps.length : Int) := by omega
      have hp : ps[k]? = some ps[k] := List.getElem?_eq_getElem hkl
      have hmem : ps[k] ∈ ps := List.getElem_mem hkl
      have hdr : ps.drop k = ps[k] :: ps.drop (k + 1) := List.drop_eq_getElem_cons hkl
      rw [hdr] at hac
      obtain ⟨g, o, rfl, at2⟩ := isT_at (cap := cap) hr k _ hp
      obtain ⟨x0, x1⟩ := (at2.below bA).below hb
      obtain ⟨hz1, hz2⟩ := hs.2 _ hmem
      generalize ps[k] = p at hp hac hmem x0 x1 hz1 hz2
      clear at2 hp hdr hr e1
      by_cases hle : sideH true p ≤ m
      · rw [acr, if_pos hle] at hac
        have HA2 := (show Hid _ from hac)
        clear hac
        simp only [sideH, inZ, outZ] at hle
        go_wp2
        go_roundw
        case rel =>
          refine ⟨k + 1, m - sideH true p, q + sideH false p, by omega, rfl, rfl, by go_num, by simp only [sideH, inZ, outZ]; omega, by simp only [sideH, inZ, outZ]; omega, by simp only [sideH, inZ, outZ]; omega, by simp only [sideH, inZ, outZ]; omega, ?_, hb⟩
          have := HA2.out
          omega
        case measure => simp [intOf]; omega
      · rw [acr, if_neg hle] at hac
        have hqe : q = acr (sideH true) (sideH false) ps n := by omega
        simp only [sideH, inZ, outZ] at hle
        go_wp2
        go_ret
        exact ⟨by first | rfl | (rw [hqe]; rfl), bA.trans (hb.mono bA.size)⟩
    · have hge : (ps.length : Int) ≤ (k : Int) := by omega
      have hnil : ps.drop k = [] := List.drop_of_length_le (by omega)
      rw [hnil, acr] at hac
      have hqe : q = acr (sideH true) (sideH false) ps n := by omega
      go_wp2
      go_ret
      exact ⟨by first | rfl | (rw [hqe]; rfl), bA.trans (hb.mono bA.size)⟩
set_option maxRecDepth 8000 in
set_option maxHeartbeats 4000000 in
theorem lback_any (s : ByteArray) (v : Value) (ps : List (Int × ByteArray)) (n : Int) (W : World) (hT : IsT W v ps) (hs : Small ps) (hn : 0 ≤ n ∧ n ≤ 1000) :
    Calls Tryz.prog 39 #[.agg #[.string s, v], .int .i64 n] W fun r W' => r = .returned (.int .i64 (acr (sideH false) (sideH true) ps n)) ∧ Below W.heap.size W W' := by
  obtain ⟨a, cap, rfl, hc, hcm, hr⟩ := hT
  have h40 := hs.1
  have bA : Below W.heap.size W (W.alloc (.cells #[.string s, .slice a ps.length cap] 25)) := (Below.refl _ _).alloc (Nat.le_refl _) _
  have e1 : (W.alloc (.cells #[.string s, .slice a ps.length cap] 25)).cell? ⟨W.heap.size, 1, none⟩ = some (.slice a ps.length cap) := by simp
  have hl1 : W.heap.size < (W.alloc (.cells #[.string s, .slice a ps.length cap] 25)).heap.size := by simp
  go_enter Tryz.func39, Tryz.ntmps39
  go_wp2
  generalize (W.alloc (.cells #[.string s, .slice a ps.length cap] 25)) = W1 at bA e1 hl1 ⊢
  go_loopw [1, 5, 6] (fun y t i wr => ∃ (k : Nat) (m q : Int), k ≤ ps.length ∧ y = .int .i64 m ∧ t = .int .i64 q ∧ i = .int .i64 k ∧ 0 ≤ m ∧ m ≤ n ∧ 0 ≤ q ∧ q ≤ 6 * (k : Int) ∧ q + acr (sideH false) (sideH true) (ps.drop k) m = acr (sideH false) (sideH true) ps n ∧ Below W1.heap.size W1 wr) (fun y t i wr => ps.length - (intOf i).toNat)
  case atStart => exact ⟨0, n, 0, Nat.zero_le _, rfl, rfl, rfl, hn.1, Int.le_refl _, Int.le_refl _, by omega, by simp, Below.refl _ _⟩
  case round =>
    obtain ⟨k, m, q, hk, rfl, rfl, rfl, hm0, hmn, hq0, hq6, hac, hb⟩ := hrel
    have f1 := (hb.cell (p := ⟨W.heap.size, 1, none⟩) hl1).trans e1
    by_cases hkl : k < ps.length
    · have hkl' : (k : Int) < (ps.length : Int) := by omega
      have hp : ps[k]? = some ps[k] := List.getElem?_eq_getElem hkl
      have hmem : ps[k] ∈ ps := List.getElem_mem hkl
      have hdr : ps.drop k = ps[k] :: ps.drop (k + 1) := List.drop_eq_getElem_cons hkl
      rw [hdr] at hac
      obtain ⟨g, o, rfl, at2⟩ := isT_at (cap := cap) hr k _ hp
      obtain ⟨x0, x1⟩ := (at2.below bA).below hb
      obtain ⟨hz1, hz2⟩ := hs.2 _ hmem
      generalize ps[k] = p at hp hac hmem x0 x1 hz1 hz2
      clear at2 hp hdr hr e1
      by_cases hle : sideH false p ≤ m
      · rw [acr, if_pos hle] at hac
        have HA2 := (show Hid _ from hac)
        clear hac
        simp only [sideH, inZ, outZ] at hle
        go_wp2
        go_roundw
        case rel =>
          refine ⟨k + 1, m - sideH false p, q + sideH true p, by omega, rfl, rfl, by go_num, by simp only [sideH, inZ, outZ]; omega, by simp only [sideH, inZ, outZ]; omega, by simp only [sideH, inZ, outZ]; omega, by simp only [sideH, inZ, outZ]; omega, ?_, hb⟩
          have := HA2.out
          omega
        case measure => simp [intOf]; omega
      · rw [acr, if_neg hle] at hac
        have hqe : q = acr (sideH false) (sideH true) ps n := by omega
        simp only [sideH, inZ, outZ] at hle
        go_wp2
        go_ret
        exact ⟨by first | rfl | (rw [hqe]; rfl), bA.trans (hb.mono bA.size)⟩
    · have hge : (ps.length : Int) ≤ (k : Int) := by omega
      have hnil : ps.drop k = [] := List.drop_of_length_le (by omega)
      rw [hnil, acr] at hac
      have hqe : q = acr (sideH false) (sideH true) ps n := by omega
      go_wp2
      go_ret
      exact ⟨by first | rfl | (rw [hqe]; rfl), bA.trans (hb.mono bA.size)⟩
set_option maxRecDepth 8000 in
set_option maxHeartbeats 4000000 in
theorem sfor_any (s : ByteArray) (v : Value) (ps : List (Int × ByteArray)) (n : Int) (W : World) (hT : IsT W v ps) (hs : s.size ≤ 1073741824) (hps : ∀ p ∈ ps, p.2.size ≤ 1073741824) :
    Calls Tryz.prog 16 #[.agg #[.string s, v], .int .i64 n] W fun r W' => r = .returned (.int .i64 (forZ s ps n)) ∧ Below W.heap.size W W' := by
  have bA : Below W.heap.size W (W.alloc (.cells #[.string s, v] 25)) := (Below.refl _ _).alloc (Nat.le_refl _) _
  have hT1 := hT.below bA
  obtain ⟨a, cap, rfl, _⟩ := hT
  go_enter Tryz.func16, Tryz.ntmps16
  go_wp2_with fail
  refine (sstream_any s _ ps _ hT1 hs hps).mono ?_
  rintro e w1 ⟨rfl, k1⟩
  have c1 := keepc k1 W.heap.size (by simp)
  have e0 : w1.cell? ⟨W.heap.size, 0, none⟩ = some (.string s) := by rw [c1 0]; simp [go_sem]
  have e1 : w1.cell? ⟨W.heap.size, 1, none⟩ = some (.slice a ps.length cap) := by rw [c1 1]; simp [go_sem]
  have b1 := bA.trans (k1.mono (by simp))
  have hT2 := hT1.below k1
  clear c1 k1
  cases hst : stB s ps
  · have hz : forZ s ps n = -1 := if_neg (fun h => by rw [hst] at h; exact Bool.false_ne_true h.1)
    go_wp2
    go_ret
    exact ⟨by first | rfl | (rw [hz]; rfl), b1⟩
  · have hok := (stB_parts.1 hst).1
    have h40 := (ok_parts _ hok).1
    rw [lenL] at h40
    by_cases hin : 0 ≤ n ∧ n ≤ (s.size : Int)
    · have hz : forZ s ps n = acr (sideH true) (sideH false) ps n := if_pos ⟨hst, hin.1, hin.2⟩
      have hd : decide (0 ≤ n ∧ n ≤ (s.size : Int)) = true := by simpa using hin
      go_wp2_with fail
      refine (in_any n 0 (s.size : Nat) _).mono ?_
      rintro e w2 ⟨rfl, rfl⟩
      rw [hd]
      go_wp2_with fail
      refine (lfor_any s _ ps n _ hT2 (stB_small hst) ⟨hin.1, by omega⟩).mono ?_
      rintro e w3 ⟨rfl, k3⟩
      go_wp2
      go_ret
      exact ⟨by first | rfl | (rw [hz]; rfl), b1.trans (k3.mono b1.size)⟩
    · have hz : forZ s ps n = -1 := if_neg (fun h => hin h.2)
      have hd : decide (0 ≤ n ∧ n ≤ (s.size : Int)) = false := by simpa using hin
      go_wp2_with fail
      refine (in_any n 0 (s.size : Nat) _).mono ?_
      rintro e w2 ⟨rfl, rfl⟩
      rw [hd]
      go_wp2
      go_ret
      exact ⟨by first | rfl | (rw [hz]; rfl), b1⟩
set_option maxRecDepth 8000 in
set_option maxHeartbeats 4000000 in
theorem sback_any (s : ByteArray) (v : Value) (ps : List (Int × ByteArray)) (n : Int) (W : World) (hT : IsT W v ps) (hs : s.size ≤ 1073741824) (hps : ∀ p ∈ ps, p.2.size ≤ 1073741824) :
    Calls Tryz.prog 10 #[.agg #[.string s, v], .int .i64 n] W fun r W' => r = .returned (.int .i64 (backZ s ps n)) ∧ Below W.heap.size W W' := by
  have bA : Below W.heap.size W (W.alloc (.cells #[.string s, v] 25)) := (Below.refl _ _).alloc (Nat.le_refl _) _
  have hT1 := hT.below bA
  obtain ⟨a, cap, rfl, _⟩ := hT
  go_enter Tryz.func10, Tryz.ntmps10
  go_wp2_with fail
  refine (sstream_any s _ ps _ hT1 hs hps).mono ?_
  rintro e w1 ⟨rfl, k1⟩
  have c1 := keepc k1 W.heap.size (by simp)
  have e0 : w1.cell? ⟨W.heap.size, 0, none⟩ = some (.string s) := by rw [c1 0]; simp [go_sem]
  have e1 : w1.cell? ⟨W.heap.size, 1, none⟩ = some (.slice a ps.length cap) := by rw [c1 1]; simp [go_sem]
  have b1 := bA.trans (k1.mono (by simp))
  have hT2 := hT1.below k1
  have hl1 : W.heap.size < w1.heap.size := by have := k1.size; simp at this; omega
  clear c1 k1
  cases hst : stB s ps
  · have hz : backZ s ps n = -1 := if_neg (fun h => by rw [hst] at h; exact Bool.false_ne_true h.1)
    go_wp2
    go_ret
    exact ⟨by first | rfl | (rw [hz]; rfl), b1⟩
  · have hsm := stB_small hst
    have htx := txW_small hsm
    have hl40 := hsm.1
    go_wp2_with fail
    refine (lout_any s _ ps _ hT2 hsm).mono ?_
    rintro e w2 ⟨rfl, k2⟩
    have f0 := (k2.cell (p := ⟨W.heap.size, 0, none⟩) hl1).trans e0
    have f1 := (k2.cell (p := ⟨W.heap.size, 1, none⟩) hl1).trans e1
    have b2 := b1.trans (k2.mono b1.size)
    have hT3 := hT2.below k2
    clear k2 e0 e1
    by_cases hin : 0 ≤ n ∧ n ≤ ((txW ps).size : Int)
    · have hz : backZ s ps n = acr (sideH false) (sideH true) ps n := if_pos ⟨hst, hin.1, hin.2⟩
      have hd : decide (0 ≤ n ∧ n ≤ ((txW ps).size : Int)) = true := by simpa using hin
      go_wp2_with fail
      refine (in_any n 0 ((txW ps).size : Nat) _).mono ?_
      rintro e w3 ⟨rfl, rfl⟩
      rw [hd]
      go_wp2_with fail
      refine (lback_any s _ ps n _ hT3 hsm ⟨hin.1, by omega⟩).mono ?_
      rintro e w4 ⟨rfl, k4⟩
      go_wp2
      go_ret
      exact ⟨by first | rfl | (rw [hz]; rfl), b2.trans (k4.mono b2.size)⟩
    · have hz : backZ s ps n = -1 := if_neg (fun h => hin h.2)
      have hd : decide (0 ≤ n ∧ n ≤ ((txW ps).size : Int)) = false := by simpa using hin
      go_wp2_with fail
      refine (in_any n 0 ((txW ps).size : Nat) _).mono ?_
      rintro e w3 ⟨rfl, rfl⟩
      rw [hd]
      go_wp2
      go_ret
      exact ⟨by first | rfl | (rw [hz]; rfl), b2⟩
end Go.Proofs.YtcpdkicmmhnpcabGreatDoor.StS

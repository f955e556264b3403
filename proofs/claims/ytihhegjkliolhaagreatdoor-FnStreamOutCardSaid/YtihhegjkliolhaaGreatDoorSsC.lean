/- Walks: StreamOut, StreamFor, StreamBack of the model. -/
import Derived.Test.YtihhegjkliolhaaGreatDoorSsA
import Derived.Test.YtihhegjkliolhaaGreatDoorStE
namespace Go.Proofs.YtihhegjkliolhaaGreatDoor.StS
open Go.RowKit Go.Shelf Go.Proofs.YtihhegjkliolhaaGreatDoor.Kit Go.Proofs.YtihhegjkliolhaaGreatDoor.Tx Go.Proofs.YtihhegjkliolhaaGreatDoor.Nm Go.Proofs.YtihhegjkliolhaaGreatDoor.App Go.Proofs.YtihhegjkliolhaaGreatDoor.St Go.Proofs.YtihhegjkliolhaaGreatDoor.Lz Go.Proofs.YtihhegjkliolhaaGreatDoor.LzP
set_option linter.unusedSimpArgs false
set_option linter.unusedVariables false

theorem isT_at {W : World} {a : Option Addr} {cap : Nat} {ps : List (Int × ByteArray)} (h : ps = [] ∨ ∃ g o, a = some ⟨g, o, none⟩ ∧ ∀ (i : Nat) (p : Int × ByteArray), ps[i]? = some p → At2 W g (o + i * 2) p) (k : Nat) (p : Int × ByteArray) (hp : ps[k]? = some p) : ∃ g o, a = some ⟨g, o, none⟩ ∧ At2 W g (o + k * 2) p := by
  rcases h with rfl | ⟨g, o, rfl, h⟩
  · simp at hp
  · exact ⟨g, o, rfl, h k p hp⟩

set_option maxRecDepth 8000 in
set_option maxHeartbeats 4000000 in
theorem lout_any8 (s : ByteArray) (v : Value) (ps : List (Int × ByteArray)) (W : World) (hT : IsT W v ps) (hs : ps.length ≤ 40 ∧ ∀ q ∈ ps, q.2.size ≤ 8) :
    Calls Tryz.prog 47 #[.agg #[.string s, v]] W fun r W' => r = .returned (.string (txW ps)) ∧ Below W.heap.size W W' := by
  obtain ⟨a, cap, rfl, hc, hcm, hr⟩ := hT
  have h40 := hs.1
  have hall := hs.2
  have bA : Below W.heap.size W (W.alloc (.cells #[.string s, .slice a ps.length cap] 26)) := (Below.refl _ _).alloc (Nat.le_refl _) _
  have e1 : (W.alloc (.cells #[.string s, .slice a ps.length cap] 26)).cell? ⟨W.heap.size, 1, none⟩ = some (.slice a ps.length cap) := by simp
  have hl1 : W.heap.size < (W.alloc (.cells #[.string s, .slice a ps.length cap] 26)).heap.size := by simp
  go_enter Tryz.func47, Tryz.ntmps47
  go_wp2
  generalize (W.alloc (.cells #[.string s, .slice a ps.length cap] 26)) = W1 at bA e1 hl1 ⊢
  go_loopw [3, 4] (fun o i wr => ∃ k : Nat, k ≤ ps.length ∧ i = .int .i64 k ∧ o = .string (txW (ps.take k)) ∧ (txW (ps.take k)).size ≤ 8 * k ∧ Below W1.heap.size W1 wr) (fun o i wr => ps.length - (intOf i).toNat)
  case atStart => exact ⟨0, Nat.zero_le _, rfl, rfl, Nat.le_refl _, Below.refl _ _⟩
  case round =>
    obtain ⟨k, hk, rfl, rfl, h6, hb⟩ := hrel
    have f1 := (hb.cell (p := ⟨W.heap.size, 1, none⟩) hl1).trans e1
    by_cases hlt : k < ps.length
    · have hlt' : (k : Int) < (ps.length : Int) := by omega
      have hp : ps[k]? = some ps[k] := List.getElem?_eq_getElem hlt
      obtain ⟨g, o, rfl, at2⟩ := isT_at (cap := cap) hr k _ hp
      obtain ⟨x0, x1⟩ := (at2.below bA).below hb
      have hz := hall _ (List.mem_of_getElem? hp)
      have hst := takeT_snoc hp
      generalize ps[k] = p at hp x0 x1 hst hz
      have hn : (txW (ps.take (k + 1))) = txW (ps.take k) ++ p.2 := by rw [hst, txW_snoc]
      have HN := (show Hid (txW (ps.take (k + 1)) = txW (ps.take k) ++ p.2) from hn)
      clear hn hst hp hall at2
      go_wp2
      go_roundw
      case rel => exact ⟨k + 1, by omega, by go_num, by rw [HN.out], by rw [HN.out, ByteArray.size_append]; omega, hb⟩
      case measure => simp [intOf]; omega
    · have hge : (ps.length : Int) ≤ (k : Int) := by omega
      have htk : ps.take k = ps := List.take_of_length_le (by omega)
      rw [htk]
      go_wp2
      go_ret
      exact ⟨rfl, bA.trans (hb.mono bA.size)⟩
theorem lout_any (s : ByteArray) (v : Value) (ps : List (Int × ByteArray)) (W : World) (hT : IsT W v ps) (hs : Small ps) :
    Calls Tryz.prog 47 #[.agg #[.string s, v]] W fun r W' => r = .returned (.string (txW ps)) ∧ Below W.heap.size W W' :=
  lout_any8 s v ps W hT ⟨hs.1, fun q hq => by have := (hs.2 q hq).2.2; omega⟩
set_option maxRecDepth 8000 in
set_option maxHeartbeats 4000000 in
theorem sout_any (s : ByteArray) (v : Value) (ps : List (Int × ByteArray)) (W : World) (hT : IsT W v ps) (hs : s.size ≤ 1073741824) (hps : ∀ p ∈ ps, p.2.size ≤ 1073741824) :
    Calls Tryz.prog 23 #[.agg #[.string s, v]] W fun r W' => r = .returned (.string (outB s ps)) ∧ Below W.heap.size W W' := by
  have bA : Below W.heap.size W (W.alloc (.cells #[.string s, v] 26)) := (Below.refl _ _).alloc (Nat.le_refl _) _
  have hT1 := hT.below bA
  obtain ⟨a, cap, rfl, _⟩ := hT
  go_enter Tryz.func23, Tryz.ntmps23
  go_wp2_with fail
  refine (sstream_any s _ ps _ hT1 hs hps).mono ?_
  rintro e w1 ⟨rfl, k1⟩
  have c1 := keepc k1 W.heap.size (by simp)
  have e0 : w1.cell? ⟨W.heap.size, 0, none⟩ = some (.string s) := by rw [c1 0]; simp [go_sem]
  have e1 : w1.cell? ⟨W.heap.size, 1, none⟩ = some (.slice a ps.length cap) := by rw [c1 1]; simp [go_sem]
  have b1 := bA.trans (k1.mono (by simp))
  have hT2 := hT1.below k1
  clear c1 k1
  cases hst : stB s ps
  · go_wp2
    go_ret
    exact ⟨by rw [outB_no hst]; rfl, b1⟩
  · go_wp2_with fail
    refine (lout_any s _ ps _ hT2 (stB_small hst)).mono ?_
    rintro e w2 ⟨rfl, k2⟩
    go_wp2
    go_ret
    exact ⟨by rw [outB_ok hst]; rfl, b1.trans (k2.mono b1.size)⟩
set_option maxHeartbeats 1000000 in
theorem in_any (x a b : Int) (w : World) : Calls Tryz.prog 29 #[.int .i64 x, .int .i64 a, .int .i64 b] w fun e w' => e = .returned (.bool (decide (a ≤ x ∧ x ≤ b))) ∧ w' = w := by
  go_enter Tryz.func29, Tryz.ntmps29
  by_cases h1 : a ≤ x
  · by_cases h2 : x ≤ b
    · go_wp2
      go_ret
      exact ⟨by simp [h1, h2], rfl⟩
    · go_wp2
      go_ret
      exact ⟨by simp [h1, h2], rfl⟩
  · go_wp2
    go_ret
    exact ⟨by simp; omega, rfl⟩
end Go.Proofs.YtihhegjkliolhaaGreatDoor.StS

/- Packets: the text of a packet, by the program. -/
import Derived.Test.YtnjggammbebpkaaGreatDoorPkC
import Derived.Test.YtnjggammbebpkaaGreatDoorTextL
import Derived.Test.YtnjggammbebpkaaGreatDoorRi
import Derived.Test.YtnjggammbebpkaaGreatDoorShelf
import Derived.Laws.OwnMore
import Derived.Maps.AppendAt
import Derived.Deep.Cut
namespace Go.Proofs.YtnjggammbebpkaaGreatDoor.Pk
open Go.RowKit Go.Shelf Go.Proofs.YtnjggammbebpkaaGreatDoor.Kit
set_option linter.unusedVariables false
set_option linter.unusedSimpArgs false
open Go.Proofs.YtnjggammbebpkaaGreatDoor.EndW (sideZ)
open Go.Proofs.YtnjggammbebpkaaGreatDoor.Text (txt implText specText)
open Go.Proofs.YtnjggammbebpkaaGreatDoor.Itoa (decS decS_size)
open Go.Proofs.YtnjggammbebpkaaGreatDoor.Tx (okB)
open Go.Proofs.YtnjggammbebpkaaGreatDoor.Itoa (itoa_any)

/-- the first word -/
def wordS (k : Int) : ByteArray := if k = 1 then ⟨#[100, 97, 116, 97]⟩ else if k = 2 then ⟨#[97, 99, 107]⟩ else ⟨#[]⟩

set_option maxHeartbeats 400000 in
theorem word_any (k : Int) (w : World) :
    Calls Tryz.prog 15 #[.int .i64 k] w fun e w' => e = .returned (.string (wordS k)) ∧ Below w.heap.size w w' := by
  by_cases h1 : k = 1
  · subst h1
    go_enter Tryz.func15, Tryz.ntmps15
    go_wp2
    go_ret
    exact ⟨rfl, Below.refl _ _⟩
  · have b1 : (k == 1) = false := by simpa using h1
    by_cases h2 : k = 2
    · subst h2
      go_enter Tryz.func15, Tryz.ntmps15
      go_wp2
      go_ret
      exact ⟨rfl, Below.refl _ _⟩
    · have b2 : (k == 2) = false := by simpa using h2
      have hr : wordS k = ⟨#[]⟩ := by unfold wordS; rw [if_neg h1, if_neg h2]
      rw [hr]; clear hr
      go_enter Tryz.func15, Tryz.ntmps15
      go_wp2
      go_ret
      exact ⟨rfl, Below.refl _ _⟩

theorem itoa_b (n : Int) (w : World) (h0 : 0 ≤ n) (h1 : n ≤ 99) :
    Calls Tryz.prog 17 #[.int .i64 n] w fun e w' => e = .returned (.string (decS n)) ∧ Below w.heap.size w w' := by
  refine (itoa_any n w h0 (by omega)).mono ?_
  rintro e w' ⟨rfl, rfl⟩
  exact ⟨rfl, Below.refl _ _⟩

/-- the words of a packet's text -/
def pktWs (k a b c d n : Int) (t : ByteArray) : List ByteArray := [wordS k, txt a b, txt c d, decS n] ++ (if k = 1 then [t] else [])
/-- a packet's text, byte by byte -/
def pktL (k a b c d n : Int) (t : ByteArray) : List UInt8 :=
  (wordS k).data.toList ++ (32 :: ((txt a b).data.toList ++ (32 :: ((txt c d).data.toList ++ (32 :: ((decS n).data.toList ++ (if k = 1 then 32 :: t.data.toList else [])))))))
theorem join_ws (k a b c d n : Int) (t : ByteArray) : Lib.join ((pktWs k a b c d n t).map (·.data.toList)) [32] = pktL k a b c d n t := by
  unfold pktWs pktL
  by_cases h : k = 1
  · rw [if_pos h, if_pos h]
    simp [Lib.join_cons, Lib.joinTail]
  · rw [if_neg h, if_neg h]
    simp [Lib.join_cons, Lib.joinTail]
theorem len_size (s : ByteArray) : s.data.toList.length = s.size := rfl
theorem word_size (k : Int) : (wordS k).size ≤ 4 := by
  unfold wordS; split
  · exact Nat.le_of_ble_eq_true rfl
  · split <;> exact Nat.le_of_ble_eq_true rfl
theorem txt_size4 (x y : Int) : (txt x y).size ≤ 4 := by
  by_cases h : sideZ x y = 0
  · unfold txt; rw [if_pos h]; exact Nat.le_of_ble_eq_true rfl
  · rw [Text.txt_len x y h]; split <;> omega
theorem pktL_len (k a b c d n : Int) (t : ByteArray) : (pktL k a b c d n t).length ≤ 18 + t.size := by
  have h1 := word_size k
  have h2 := txt_size4 a b
  have h3 := txt_size4 c d
  have h4 := decS_size n
  unfold pktL
  simp only [List.length_append, List.length_cons, len_size]
  split
  · simp only [List.length_cons, len_size]; omega
  · simp only [List.length_nil]; omega
/-- a packet's text -/
def pktS (k a b c d n : Int) (t : ByteArray) : ByteArray := if pktB k a b c d n t then ⟨(pktL k a b c d n t).toArray⟩ else ⟨#[]⟩
theorem ok_forty {t : ByteArray} (h : okB t.data.toList = true) : t.size ≤ 40 := by
  have := (Tx.ok_parts _ h).1
  rw [len_size] at this; exact this

/-- a region that makes a row at its last but one step -/
def Mk3 (W0 : World) (o : Obj) (n mk : Nat) (l : Array Bool) (x y : Value) (w' : World) : Prop :=
  (l.getD mk false = false → Below W0.heap.size W0 w') ∧ (l.getD mk false = true → ∃ u, Below W0.heap.size W0 u ∧ x = .slice (some ⟨u.heap.size, 0, none⟩) n n ∧ w' = u.alloc o) ∧ (l.getD (mk + 1) false = true → y = x)

theorem join_row (ws : List ByteArray) (b : Nat) (v : Value) (W : World) (hown : W.ownsRow b 9 1 v ws.length (ws.map Value.string)) (h1 : 0 < ws.length) (hm : ws.length ≤ 1000)
    (hlen : (Lib.join (ws.map (·.data.toList)) [32]).length ≤ 1000) :
    Calls Tryz.prog 18 #[v, .string ⟨#[32]⟩] W fun e w' => e = .returned (.string ⟨(Lib.join (ws.map (·.data.toList)) [32]).toArray⟩) ∧ Below W.heap.size W w' := by
  rcases hown.2 with ⟨_, h0⟩ | ⟨g, cap, cur, rfl, hb, hg, hnc, _⟩
  · omega
  · refine Tryz.strings_Join g 0 cap ws ⟨#[32]⟩ W (fun j x hj => ?_) (Array.getElem?_eq_some_iff.1 hg).1 (by omega) hnc (by show (Lib.join (ws.map (·.data.toList)) [32]).length ≤ _; omega)
    have hlt : j < ws.length := by
      rcases Nat.lt_or_ge j ws.length with q | q
      · exact q
      · rw [List.getElem?_eq_none q] at hj; cases hj
    rw [Nat.zero_add, hown.cellAt j (by omega), List.getElem?_map, hj]; rfl

set_option maxRecDepth 8000 in
set_option maxHeartbeats 16000000 in
theorem pktText_ok (k a b c d n : Int) (t' : ByteArray) (w : World) (hB : pktB k a b c d n t' = true) :
    Calls Tryz.prog 7 #[pktV k a b c d n t'] w fun e w' => e = .returned (.string (pktS k a b c d n t')) ∧ Below w.heap.size w w' := by
  have hS : pktS k a b c d n t' = ⟨(pktL k a b c d n t').toArray⟩ := by unfold pktS; rw [if_pos hB]
  rw [hS]; clear hS
  have bel0 : Below w.heap.size w (w.alloc (.cells #[.int .i64 k, .int .i64 a, .int .i64 b, .int .i64 c, .int .i64 d, .int .i64 n, .string t'] 26)) := (Below.refl _ _).alloc (Nat.le_refl _) _
  obtain ⟨_, _, h0, h9, hkind⟩ := pkt_parts hB
  go_enter Tryz.func7, Tryz.ntmps7
  go_wp2_with fail
  refine (pktOk_is k a b c d n t' true hB _).mono ?_
  rintro e w2 ⟨rfl, k2⟩
  have z2 := k2.size
  simp at z2
  have hl : w.heap.size < w2.heap.size := by omega
  have C0 : w2.cell? ⟨w.heap.size, 0, none⟩ = some (.int .i64 k) := by rw [keepc k2 w.heap.size (by simp)]; simp
  have C1 : w2.cell? ⟨w.heap.size, 1, none⟩ = some (.int .i64 a) := by rw [keepc k2 w.heap.size (by simp)]; simp
  have C2 : w2.cell? ⟨w.heap.size, 2, none⟩ = some (.int .i64 b) := by rw [keepc k2 w.heap.size (by simp)]; simp
  have C3 : w2.cell? ⟨w.heap.size, 3, none⟩ = some (.int .i64 c) := by rw [keepc k2 w.heap.size (by simp)]; simp
  have C4 : w2.cell? ⟨w.heap.size, 4, none⟩ = some (.int .i64 d) := by rw [keepc k2 w.heap.size (by simp)]; simp
  have C5 : w2.cell? ⟨w.heap.size, 5, none⟩ = some (.int .i64 n) := by rw [keepc k2 w.heap.size (by simp)]; simp
  have C6 : w2.cell? ⟨w.heap.size, 6, none⟩ = some (.string t') := by rw [keepc k2 w.heap.size (by simp)]; simp
  have bel2 := bel0.trans (k2.mono (by simp))
  clear k2 bel0 hB
  have hmix : Tryz.prog.follows .mixedOrders = true := by kernel_rfl
  obtain ⟨VV, hVV⟩ : ∃ VV : Nat → Value, VV = fun j => [(.pointer (some ⟨w.heap.size, 0, none⟩) : Value), .int .i64 k, .string (wordS k), .pointer (some ⟨w.heap.size, 1, none⟩), .agg #[.int .i64 a, .int .i64 b], .string (txt a b), .pointer (some ⟨w.heap.size, 3, none⟩), .agg #[.int .i64 c, .int .i64 d], .string (txt c d), .pointer (some ⟨w.heap.size, 5, none⟩), .int .i64 n, .string (decS n), undef, undef].getD j undef := ⟨_, rfl⟩
  have V0 : VV 0 = .pointer (some ⟨w.heap.size, 0, none⟩) := by rw [hVV]; rfl
  have V1 : VV 1 = .int .i64 k := by rw [hVV]; rfl
  have V2 : VV 2 = .string (wordS k) := by rw [hVV]; rfl
  have V3 : VV 3 = .pointer (some ⟨w.heap.size, 1, none⟩) := by rw [hVV]; rfl
  have V4 : VV 4 = .agg #[.int .i64 a, .int .i64 b] := by rw [hVV]; rfl
  have V5 : VV 5 = .string (txt a b) := by rw [hVV]; rfl
  have V6 : VV 6 = .pointer (some ⟨w.heap.size, 3, none⟩) := by rw [hVV]; rfl
  have V7 : VV 7 = .agg #[.int .i64 c, .int .i64 d] := by rw [hVV]; rfl
  have V8 : VV 8 = .string (txt c d) := by rw [hVV]; rfl
  have V9 : VV 9 = .pointer (some ⟨w.heap.size, 5, none⟩) := by rw [hVV]; rfl
  have V10 : VV 10 = .int .i64 n := by rw [hVV]; rfl
  have V11 : VV 11 = .string (decS n) := by rw [hVV]; rfl
  have V12 : VV 12 = undef := by rw [hVV]; rfl
  have V13 : VV 13 = undef := by rw [hVV]; rfl
  clear hVV
  go_upto_region 3 with fail
  refine wp_region_any hmix ?_
  refine Ri.any_inv (I := fun l a' w' => l.size = 14 ∧ ∃ (t : Nat → Value) (x y : Value), a' = { tmps := #[pktV k a b c d n t', (.pointer (some ⟨w.heap.size, 0, none⟩) : Value), .string ⟨#[]⟩, y, pktV k a b c d n t', .bool true, .bool false, t 0, t 1, t 2, t 3, t 4, t 5, t 6, t 7, t 8, t 9, t 10, t 11, x, undef, undef, undef, undef, undef, undef, undef, undef, undef, undef], defers := [] } ∧ Rg.Vals l VV t ∧ Mk3 w2 (.cells #[.string (wordS k), .string (txt a b), .string (txt c d), .string (decS n)] 9) 4 12 l x y w') ?sz ?low ?step ?fin _ _ _ _ ?start (Ri.closed_none _ _ _) (Rg.left_all _)
  case sz => exact fun l a' w' h => h.1
  case start => exact ⟨by simp, fun j => ([undef, undef, undef, undef, undef, undef, undef, undef, undef, undef, undef, undef, undef, undef] : List Value).getD j undef, undef, undef, rfl, Rg.vals_none _ _ _, fun _ => (Below.refl _ _).drew, fun h => absurd h (by rw [Rg.rep_none]; decide), fun h => absurd h (by rw [Rg.rep_none]; decide)⟩
  case low => exact Ri.low_of (by kernel_rfl)
  case step =>
    rintro l a' w' i ⟨hsz, t, x, y, rfl, hv, HM⟩ hcl hi
    obtain ⟨h0, op, ho, hd⟩ := mem_ready.1 hi
    have hin : i < 14 := (Array.getElem?_eq_some_iff.1 ho).1
    have hnl := Rg.not_listed h0
    have hL1 : l.getD 12 false = true → ∀ j, j < 12 → l.getD j false = true := Ri.up_of (by kernel_rfl) hcl
    have hL2 : l.getD 13 false = true → ∀ j, j < 13 → l.getD j false = true := Ri.up_of (by kernel_rfl) hcl
    clear h0 hi hcl
    have hc : i = 0 ∨ i = 1 ∨ i = 2 ∨ i = 3 ∨ i = 4 ∨ i = 5 ∨ i = 6 ∨ i = 7 ∨ i = 8 ∨ i = 9 ∨ i = 10 ∨ i = 11 ∨ i = 12 ∨ i = 13 := by omega
    rcases hc with rfl | rfl | rfl | rfl | rfl | rfl | rfl | rfl | rfl | rfl | rfl | rfl | rfl | rfl
    · obtain rfl : _ = op := Option.some.inj (show some _ = some op from ho)
      have qc : l.getD 12 false = false := by
        cases q : l.getD 12 false
        · rfl
        · rw [hL1 q 0 (by omega)] at hnl; cases hnl
      have HW := (show Hid (Below w2.heap.size w2 w') from HM.1 qc)
      have HV := (show Hid (Rg.Vals l VV t) from hv)
      have HQ := (show Hid (Mk3 w2 (.cells #[.string (wordS k), .string (txt a b), .string (txt c d), .string (decS n)] 9) 4 12 l x y w') from HM)
      clear hv hd ho HM
      refine wpOp_step rfl fun K9 hK9 => ?_
      have HKK := (show Hid _ from hK9)
      clear hK9
      go_simp
      refine HKK.out _ _ ⟨by simp [hsz], fun j => if j = 0 then .pointer (some ⟨w.heap.size, 0, none⟩) else t j, x, y, by simp, HV.out.put 0 _ V0.symm, ?_, ?_, ?_⟩
      · exact fun _ => HW.out
      · intro h; rw [getD_set_ne false (by decide : (0 : Nat) ≠ 12), qc] at h; cases h
      · intro h; rw [getD_set_ne false (by decide : (0 : Nat) ≠ 13)] at h; exact HQ.out.2.2 h
    · obtain rfl : _ = op := Option.some.inj (show some _ = some op from ho)
      have e0 : t 0 = .pointer (some ⟨w.heap.size, 0, none⟩) := (hv 0 (hd { on := 0, ground := .data } (by simp) rfl)).trans V0
      have qc : l.getD 12 false = false := by
        cases q : l.getD 12 false
        · rfl
        · rw [hL1 q 1 (by omega)] at hnl; cases hnl
      have HW := (show Hid (Below w2.heap.size w2 w') from HM.1 qc)
      have yC0 : w'.cell? ⟨w.heap.size, 0, none⟩ = some (.int .i64 k) := (HW.out.cell (p := ⟨w.heap.size, 0, none⟩) hl).trans C0
      have yC1 : w'.cell? ⟨w.heap.size, 1, none⟩ = some (.int .i64 a) := (HW.out.cell (p := ⟨w.heap.size, 1, none⟩) hl).trans C1
      have yC2 : w'.cell? ⟨w.heap.size, 2, none⟩ = some (.int .i64 b) := (HW.out.cell (p := ⟨w.heap.size, 2, none⟩) hl).trans C2
      have yC3 : w'.cell? ⟨w.heap.size, 3, none⟩ = some (.int .i64 c) := (HW.out.cell (p := ⟨w.heap.size, 3, none⟩) hl).trans C3
      have yC4 : w'.cell? ⟨w.heap.size, 4, none⟩ = some (.int .i64 d) := (HW.out.cell (p := ⟨w.heap.size, 4, none⟩) hl).trans C4
      have yC5 : w'.cell? ⟨w.heap.size, 5, none⟩ = some (.int .i64 n) := (HW.out.cell (p := ⟨w.heap.size, 5, none⟩) hl).trans C5
      have HV := (show Hid (Rg.Vals l VV t) from hv)
      have HQ := (show Hid (Mk3 w2 (.cells #[.string (wordS k), .string (txt a b), .string (txt c d), .string (decS n)] 9) 4 12 l x y w') from HM)
      clear hv hd ho HM
      refine wpOp_step rfl fun K9 hK9 => ?_
      have HKK := (show Hid _ from hK9)
      clear hK9
      go_simp
      refine HKK.out _ _ ⟨by simp [hsz], fun j => if j = 1 then .int .i64 k else t j, x, y, by simp [e0], HV.out.put 1 _ V1.symm, ?_, ?_, ?_⟩
      · exact fun _ => HW.out
      · intro h; rw [getD_set_ne false (by decide : (1 : Nat) ≠ 12), qc] at h; cases h
      · intro h; rw [getD_set_ne false (by decide : (1 : Nat) ≠ 13)] at h; exact HQ.out.2.2 h
    · obtain rfl : _ = op := Option.some.inj (show some _ = some op from ho)
      have e1 : t 1 = .int .i64 k := (hv 1 (hd { on := 1, ground := .data } (by simp) rfl)).trans V1
      have qc : l.getD 12 false = false := by
        cases q : l.getD 12 false
        · rfl
        · rw [hL1 q 2 (by omega)] at hnl; cases hnl
      have HW := (show Hid (Below w2.heap.size w2 w') from HM.1 qc)
      have HV := (show Hid (Rg.Vals l VV t) from hv)
      have HQ := (show Hid (Mk3 w2 (.cells #[.string (wordS k), .string (txt a b), .string (txt c d), .string (decS n)] 9) 4 12 l x y w') from HM)
      clear hv hd ho HM
      refine wpOp_step rfl fun K9 hK9 => ?_
      have HKK := (show Hid _ from hK9)
      clear hK9
      go_simp
      refine (word_any _ _).mono ?_
      rintro e w9 ⟨rfl, k9⟩
      refine HKK.out _ _ ⟨by simp [hsz], fun j => if j = 2 then .string (wordS k) else t j, x, y, by simp [e1], HV.out.put 2 _ V2.symm, ?_, ?_, ?_⟩
      · exact fun _ => HW.out.trans (k9.mono HW.out.size)
      · intro h; rw [getD_set_ne false (by decide : (2 : Nat) ≠ 12), qc] at h; cases h
      · intro h; rw [getD_set_ne false (by decide : (2 : Nat) ≠ 13)] at h; exact HQ.out.2.2 h
    · obtain rfl : _ = op := Option.some.inj (show some _ = some op from ho)
      have qc : l.getD 12 false = false := by
        cases q : l.getD 12 false
        · rfl
        · rw [hL1 q 3 (by omega)] at hnl; cases hnl
      have HW := (show Hid (Below w2.heap.size w2 w') from HM.1 qc)
      have HV := (show Hid (Rg.Vals l VV t) from hv)
      have HQ := (show Hid (Mk3 w2 (.cells #[.string (wordS k), .string (txt a b), .string (txt c d), .string (decS n)] 9) 4 12 l x y w') from HM)
      clear hv hd ho HM
      refine wpOp_step rfl fun K9 hK9 => ?_
      have HKK := (show Hid _ from hK9)
      clear hK9
      go_simp
      refine HKK.out _ _ ⟨by simp [hsz], fun j => if j = 3 then .pointer (some ⟨w.heap.size, 1, none⟩) else t j, x, y, by simp, HV.out.put 3 _ V3.symm, ?_, ?_, ?_⟩
      · exact fun _ => HW.out
      · intro h; rw [getD_set_ne false (by decide : (3 : Nat) ≠ 12), qc] at h; cases h
      · intro h; rw [getD_set_ne false (by decide : (3 : Nat) ≠ 13)] at h; exact HQ.out.2.2 h
    · obtain rfl : _ = op := Option.some.inj (show some _ = some op from ho)
      have e3 : t 3 = .pointer (some ⟨w.heap.size, 1, none⟩) := (hv 3 (hd { on := 3, ground := .data } (by simp) rfl)).trans V3
      have qc : l.getD 12 false = false := by
        cases q : l.getD 12 false
        · rfl
        · rw [hL1 q 4 (by omega)] at hnl; cases hnl
      have HW := (show Hid (Below w2.heap.size w2 w') from HM.1 qc)
      have yC0 : w'.cell? ⟨w.heap.size, 0, none⟩ = some (.int .i64 k) := (HW.out.cell (p := ⟨w.heap.size, 0, none⟩) hl).trans C0
      have yC1 : w'.cell? ⟨w.heap.size, 1, none⟩ = some (.int .i64 a) := (HW.out.cell (p := ⟨w.heap.size, 1, none⟩) hl).trans C1
      have yC2 : w'.cell? ⟨w.heap.size, 2, none⟩ = some (.int .i64 b) := (HW.out.cell (p := ⟨w.heap.size, 2, none⟩) hl).trans C2
      have yC3 : w'.cell? ⟨w.heap.size, 3, none⟩ = some (.int .i64 c) := (HW.out.cell (p := ⟨w.heap.size, 3, none⟩) hl).trans C3
      have yC4 : w'.cell? ⟨w.heap.size, 4, none⟩ = some (.int .i64 d) := (HW.out.cell (p := ⟨w.heap.size, 4, none⟩) hl).trans C4
      have yC5 : w'.cell? ⟨w.heap.size, 5, none⟩ = some (.int .i64 n) := (HW.out.cell (p := ⟨w.heap.size, 5, none⟩) hl).trans C5
      have HV := (show Hid (Rg.Vals l VV t) from hv)
      have HQ := (show Hid (Mk3 w2 (.cells #[.string (wordS k), .string (txt a b), .string (txt c d), .string (decS n)] 9) 4 12 l x y w') from HM)
      clear hv hd ho HM
      refine wpOp_step rfl fun K9 hK9 => ?_
      have HKK := (show Hid _ from hK9)
      clear hK9
      go_simp
      refine HKK.out _ _ ⟨by simp [hsz], fun j => if j = 4 then .agg #[.int .i64 a, .int .i64 b] else t j, x, y, by simp [e3], HV.out.put 4 _ V4.symm, ?_, ?_, ?_⟩
      · exact fun _ => HW.out
      · intro h; rw [getD_set_ne false (by decide : (4 : Nat) ≠ 12), qc] at h; cases h
      · intro h; rw [getD_set_ne false (by decide : (4 : Nat) ≠ 13)] at h; exact HQ.out.2.2 h
    · obtain rfl : _ = op := Option.some.inj (show some _ = some op from ho)
      have e4 : t 4 = .agg #[.int .i64 a, .int .i64 b] := (hv 4 (hd { on := 4, ground := .data } (by simp) rfl)).trans V4
      have qc : l.getD 12 false = false := by
        cases q : l.getD 12 false
        · rfl
        · rw [hL1 q 5 (by omega)] at hnl; cases hnl
      have HW := (show Hid (Below w2.heap.size w2 w') from HM.1 qc)
      have HV := (show Hid (Rg.Vals l VV t) from hv)
      have HQ := (show Hid (Mk3 w2 (.cells #[.string (wordS k), .string (txt a b), .string (txt c d), .string (decS n)] 9) 4 12 l x y w') from HM)
      clear hv hd ho HM
      refine wpOp_step rfl fun K9 hK9 => ?_
      have HKK := (show Hid _ from hK9)
      clear hK9
      go_simp
      refine (implText _ _ _).mono ?_
      rintro e w9 ⟨rfl, k9⟩
      refine HKK.out _ _ ⟨by simp [hsz], fun j => if j = 5 then .string (txt a b) else t j, x, y, by simp [e4], HV.out.put 5 _ V5.symm, ?_, ?_, ?_⟩
      · exact fun _ => HW.out.trans (k9.mono HW.out.size)
      · intro h; rw [getD_set_ne false (by decide : (5 : Nat) ≠ 12), qc] at h; cases h
      · intro h; rw [getD_set_ne false (by decide : (5 : Nat) ≠ 13)] at h; exact HQ.out.2.2 h
    · obtain rfl : _ = op := Option.some.inj (show some _ = some op from ho)
      have qc : l.getD 12 false = false := by
        cases q : l.getD 12 false
        · rfl
        · rw [hL1 q 6 (by omega)] at hnl; cases hnl
      have HW := (show Hid (Below w2.heap.size w2 w') from HM.1 qc)
      have HV := (show Hid (Rg.Vals l VV t) from hv)
      have HQ := (show Hid (Mk3 w2 (.cells #[.string (wordS k), .string (txt a b), .string (txt c d), .string (decS n)] 9) 4 12 l x y w') from HM)
      clear hv hd ho HM
      refine wpOp_step rfl fun K9 hK9 => ?_
      have HKK := (show Hid _ from hK9)
      clear hK9
      go_simp
      refine HKK.out _ _ ⟨by simp [hsz], fun j => if j = 6 then .pointer (some ⟨w.heap.size, 3, none⟩) else t j, x, y, by simp, HV.out.put 6 _ V6.symm, ?_, ?_, ?_⟩
      · exact fun _ => HW.out
      · intro h; rw [getD_set_ne false (by decide : (6 : Nat) ≠ 12), qc] at h; cases h
      · intro h; rw [getD_set_ne false (by decide : (6 : Nat) ≠ 13)] at h; exact HQ.out.2.2 h
    · obtain rfl : _ = op := Option.some.inj (show some _ = some op from ho)
      have e6 : t 6 = .pointer (some ⟨w.heap.size, 3, none⟩) := (hv 6 (hd { on := 6, ground := .data } (by simp) rfl)).trans V6
      have qc : l.getD 12 false = false := by
        cases q : l.getD 12 false
        · rfl
        · rw [hL1 q 7 (by omega)] at hnl; cases hnl
      have HW := (show Hid (Below w2.heap.size w2 w') from HM.1 qc)
      have yC0 : w'.cell? ⟨w.heap.size, 0, none⟩ = some (.int .i64 k) := (HW.out.cell (p := ⟨w.heap.size, 0, none⟩) hl).trans C0
      have yC1 : w'.cell? ⟨w.heap.size, 1, none⟩ = some (.int .i64 a) := (HW.out.cell (p := ⟨w.heap.size, 1, none⟩) hl).trans C1
      have yC2 : w'.cell? ⟨w.heap.size, 2, none⟩ = some (.int .i64 b) := (HW.out.cell (p := ⟨w.heap.size, 2, none⟩) hl).trans C2
      have yC3 : w'.cell? ⟨w.heap.size, 3, none⟩ = some (.int .i64 c) := (HW.out.cell (p := ⟨w.heap.size, 3, none⟩) hl).trans C3
      have yC4 : w'.cell? ⟨w.heap.size, 4, none⟩ = some (.int .i64 d) := (HW.out.cell (p := ⟨w.heap.size, 4, none⟩) hl).trans C4
      have yC5 : w'.cell? ⟨w.heap.size, 5, none⟩ = some (.int .i64 n) := (HW.out.cell (p := ⟨w.heap.size, 5, none⟩) hl).trans C5
      have HV := (show Hid (Rg.Vals l VV t) from hv)
      have HQ := (show Hid (Mk3 w2 (.cells #[.string (wordS k), .string (txt a b), .string (txt c d), .string (decS n)] 9) 4 12 l x y w') from HM)
      clear hv hd ho HM
      refine wpOp_step rfl fun K9 hK9 => ?_
      have HKK := (show Hid _ from hK9)
      clear hK9
      go_simp
      refine HKK.out _ _ ⟨by simp [hsz], fun j => if j = 7 then .agg #[.int .i64 c, .int .i64 d] else t j, x, y, by simp [e6], HV.out.put 7 _ V7.symm, ?_, ?_, ?_⟩
      · exact fun _ => HW.out
      · intro h; rw [getD_set_ne false (by decide : (7 : Nat) ≠ 12), qc] at h; cases h
      · intro h; rw [getD_set_ne false (by decide : (7 : Nat) ≠ 13)] at h; exact HQ.out.2.2 h
    · obtain rfl : _ = op := Option.some.inj (show some _ = some op from ho)
      have e7 : t 7 = .agg #[.int .i64 c, .int .i64 d] := (hv 7 (hd { on := 7, ground := .data } (by simp) rfl)).trans V7
      have qc : l.getD 12 false = false := by
        cases q : l.getD 12 false
        · rfl
        · rw [hL1 q 8 (by omega)] at hnl; cases hnl
      have HW := (show Hid (Below w2.heap.size w2 w') from HM.1 qc)
      have HV := (show Hid (Rg.Vals l VV t) from hv)
      have HQ := (show Hid (Mk3 w2 (.cells #[.string (wordS k), .string (txt a b), .string (txt c d), .string (decS n)] 9) 4 12 l x y w') from HM)
      clear hv hd ho HM
      refine wpOp_step rfl fun K9 hK9 => ?_
      have HKK := (show Hid _ from hK9)
      clear hK9
      go_simp
      refine (implText _ _ _).mono ?_
      rintro e w9 ⟨rfl, k9⟩
      refine HKK.out _ _ ⟨by simp [hsz], fun j => if j = 8 then .string (txt c d) else t j, x, y, by simp [e7], HV.out.put 8 _ V8.symm, ?_, ?_, ?_⟩
      · exact fun _ => HW.out.trans (k9.mono HW.out.size)
      · intro h; rw [getD_set_ne false (by decide : (8 : Nat) ≠ 12), qc] at h; cases h
      · intro h; rw [getD_set_ne false (by decide : (8 : Nat) ≠ 13)] at h; exact HQ.out.2.2 h
    · obtain rfl : _ = op := Option.some.inj (show some _ = some op from ho)
      have qc : l.getD 12 false = false := by
        cases q : l.getD 12 false
        · rfl
        · rw [hL1 q 9 (by omega)] at hnl; cases hnl
      have HW := (show Hid (Below w2.heap.size w2 w') from HM.1 qc)
      have HV := (show Hid (Rg.Vals l VV t) from hv)
      have HQ := (show Hid (Mk3 w2 (.cells #[.string (wordS k), .string (txt a b), .string (txt c d), .string (decS n)] 9) 4 12 l x y w') from HM)
      clear hv hd ho HM
      refine wpOp_step rfl fun K9 hK9 => ?_
      have HKK := (show Hid _ from hK9)
      clear hK9
      go_simp
      refine HKK.out _ _ ⟨by simp [hsz], fun j => if j = 9 then .pointer (some ⟨w.heap.size, 5, none⟩) else t j, x, y, by simp, HV.out.put 9 _ V9.symm, ?_, ?_, ?_⟩
      · exact fun _ => HW.out
      · intro h; rw [getD_set_ne false (by decide : (9 : Nat) ≠ 12), qc] at h; cases h
      · intro h; rw [getD_set_ne false (by decide : (9 : Nat) ≠ 13)] at h; exact HQ.out.2.2 h
    · obtain rfl : _ = op := Option.some.inj (show some _ = some op from ho)
      have e9 : t 9 = .pointer (some ⟨w.heap.size, 5, none⟩) := (hv 9 (hd { on := 9, ground := .data } (by simp) rfl)).trans V9
      have qc : l.getD 12 false = false := by
        cases q : l.getD 12 false
        · rfl
        · rw [hL1 q 10 (by omega)] at hnl; cases hnl
      have HW := (show Hid (Below w2.heap.size w2 w') from HM.1 qc)
      have yC0 : w'.cell? ⟨w.heap.size, 0, none⟩ = some (.int .i64 k) := (HW.out.cell (p := ⟨w.heap.size, 0, none⟩) hl).trans C0
      have yC1 : w'.cell? ⟨w.heap.size, 1, none⟩ = some (.int .i64 a) := (HW.out.cell (p := ⟨w.heap.size, 1, none⟩) hl).trans C1
      have yC2 : w'.cell? ⟨w.heap.size, 2, none⟩ = some (.int .i64 b) := (HW.out.cell (p := ⟨w.heap.size, 2, none⟩) hl).trans C2
      have yC3 : w'.cell? ⟨w.heap.size, 3, none⟩ = some (.int .i64 c) := (HW.out.cell (p := ⟨w.heap.size, 3, none⟩) hl).trans C3
      have yC4 : w'.cell? ⟨w.heap.size, 4, none⟩ = some (.int .i64 d) := (HW.out.cell (p := ⟨w.heap.size, 4, none⟩) hl).trans C4
      have yC5 : w'.cell? ⟨w.heap.size, 5, none⟩ = some (.int .i64 n) := (HW.out.cell (p := ⟨w.heap.size, 5, none⟩) hl).trans C5
      have HV := (show Hid (Rg.Vals l VV t) from hv)
      have HQ := (show Hid (Mk3 w2 (.cells #[.string (wordS k), .string (txt a b), .string (txt c d), .string (decS n)] 9) 4 12 l x y w') from HM)
      clear hv hd ho HM
      refine wpOp_step rfl fun K9 hK9 => ?_
      have HKK := (show Hid _ from hK9)
      clear hK9
      go_simp
      refine HKK.out _ _ ⟨by simp [hsz], fun j => if j = 10 then .int .i64 n else t j, x, y, by simp [e9], HV.out.put 10 _ V10.symm, ?_, ?_, ?_⟩
      · exact fun _ => HW.out
      · intro h; rw [getD_set_ne false (by decide : (10 : Nat) ≠ 12), qc] at h; cases h
      · intro h; rw [getD_set_ne false (by decide : (10 : Nat) ≠ 13)] at h; exact HQ.out.2.2 h
    · obtain rfl : _ = op := Option.some.inj (show some _ = some op from ho)
      have e10 : t 10 = .int .i64 n := (hv 10 (hd { on := 10, ground := .data } (by simp) rfl)).trans V10
      have qc : l.getD 12 false = false := by
        cases q : l.getD 12 false
        · rfl
        · rw [hL1 q 11 (by omega)] at hnl; cases hnl
      have HW := (show Hid (Below w2.heap.size w2 w') from HM.1 qc)
      have HV := (show Hid (Rg.Vals l VV t) from hv)
      have HQ := (show Hid (Mk3 w2 (.cells #[.string (wordS k), .string (txt a b), .string (txt c d), .string (decS n)] 9) 4 12 l x y w') from HM)
      clear hv hd ho HM
      refine wpOp_step rfl fun K9 hK9 => ?_
      have HKK := (show Hid _ from hK9)
      clear hK9
      go_simp
      refine (itoa_b _ _ h0 h9).mono ?_
      rintro e w9 ⟨rfl, k9⟩
      refine HKK.out _ _ ⟨by simp [hsz], fun j => if j = 11 then .string (decS n) else t j, x, y, by simp [e10], HV.out.put 11 _ V11.symm, ?_, ?_, ?_⟩
      · exact fun _ => HW.out.trans (k9.mono HW.out.size)
      · intro h; rw [getD_set_ne false (by decide : (11 : Nat) ≠ 12), qc] at h; cases h
      · intro h; rw [getD_set_ne false (by decide : (11 : Nat) ≠ 13)] at h; exact HQ.out.2.2 h
    · obtain rfl : _ = op := Option.some.inj (show some _ = some op from ho)
      have e2 : t 2 = .string (wordS k) := (hv 2 (hd { on := 2, ground := .data } (by simp) rfl)).trans V2
      have e5 : t 5 = .string (txt a b) := (hv 5 (hd { on := 5, ground := .data } (by simp) rfl)).trans V5
      have e8 : t 8 = .string (txt c d) := (hv 8 (hd { on := 8, ground := .data } (by simp) rfl)).trans V8
      have e11 : t 11 = .string (decS n) := (hv 11 (hd { on := 11, ground := .data } (by simp) rfl)).trans V11
      have qc : l.getD 12 false = false := by
        cases q : l.getD 12 false
        · rfl
        · rw [q] at hnl; cases hnl
      have HW := (show Hid (Below w2.heap.size w2 w') from HM.1 qc)
      have HV := (show Hid (Rg.Vals l VV t) from hv)
      have HQ := (show Hid (Mk3 w2 (.cells #[.string (wordS k), .string (txt a b), .string (txt c d), .string (decS n)] 9) 4 12 l x y w') from HM)
      clear hv hd ho HM
      refine wpOp_step rfl fun K9 hK9 => ?_
      have HKK := (show Hid _ from hK9)
      clear hK9
      go_simp
      refine HKK.out _ _ ⟨by simp [hsz], fun j => if j = 12 then undef else t j, .slice (some ⟨w'.heap.size, 0, none⟩) 4 4, y, by simp [e2, e5, e8, e11], HV.out.put 12 _ V12.symm, ?_, ?_, ?_⟩
      · intro h; rw [Rg.set_same (by omega)] at h; cases h
      · exact fun _ => ⟨_, HW.out, rfl, rfl⟩
      · intro h; rw [getD_set_ne false (by decide : (12 : Nat) ≠ 13)] at h; rw [hL2 h 12 (by omega)] at qc; cases qc
    · obtain rfl : _ = op := Option.some.inj (show some _ = some op from ho)
      have qx : l.getD 12 false = true := hd { on := 12, ground := .data } (by simp) rfl
      have HV := (show Hid (Rg.Vals l VV t) from hv)
      have HQ := (show Hid (Mk3 w2 (.cells #[.string (wordS k), .string (txt a b), .string (txt c d), .string (decS n)] 9) 4 12 l x y w') from HM)
      clear hv hd ho HM
      refine wpOp_step rfl fun K9 hK9 => ?_
      have HKK := (show Hid _ from hK9)
      clear hK9
      go_simp
      refine HKK.out _ _ ⟨by simp [hsz], fun j => if j = 13 then undef else t j, x, x, by simp, HV.out.put 13 _ V13.symm, ?_, ?_, ?_⟩
      · intro h; rw [getD_set_ne false (by decide : (13 : Nat) ≠ 12), qx] at h; cases h
      · intro _; exact HQ.out.2.1 qx
      · exact fun _ => rfl
  case fin =>
    rintro l a' w' ⟨hsz, t, x, y, rfl, hv, HM⟩ hall
    obtain ⟨u, hu, rfl, rfl⟩ := HM.2.1 (hall 12 (by simp))
    obtain rfl := HM.2.2 (hall 13 (by simp))
    clear hall hv HM
    have hu0 := hu.size
    have C0' := (hu.cell (p := ⟨w.heap.size, 0, none⟩) hl).trans C0
    have C6' := (hu.cell (p := ⟨w.heap.size, 6, none⟩) hl).trans C6
    have hlu : w.heap.size < u.heap.size := by omega
    have bel3 := bel2.trans (hu.mono (by omega))
    clear hu C0 C1 C2 C3 C4 C5 C6 bel2
    rcases hkind with ⟨rfl, he, ho⟩ | ⟨rfl, rfl⟩
    · have hrow := World.ownsRow_lit (base := u.heap.size) (e := 9) (size := 1) u #[.string (wordS 1), .string (txt a b), .string (txt c d), .string (decS n)] 4 (Nat.le_refl _) (by decide) rfl
      obtain ⟨i0, hi, hi2⟩ := Option.map_eq_some_iff.1 (show (Tryz.prog.info? 9).map (fun i => (i.zero, i.size, i.bytes)) = some (some (.string ByteArray.empty), 1, 16) by kernel_rfl)
      simp only [Prod.mk.injEq] at hi2
      obtain ⟨hz0, hz1, hz2⟩ := hi2
      have belN := bel3.alloc (by omega) (.cells #[.string (wordS 1), .string (txt a b), .string (txt c d), .string (decS n)] 9)
      have hal : ∀ j v, [Value.string t'][j]? = some v → ((u.alloc (.cells #[.string (wordS 1), .string (txt a b), .string (txt c d), .string (decS n)] 9)).alloc (.cells #[.string t'] 9)).cell? ((⟨u.heap.size + 1, 0, none⟩ : Addr).add j) = some v := by
        intro j v hj
        match j with
        | 0 => simp at hj; subst hj; simp [Addr.add]
        | j + 1 => simp at hj
      go_wp2_with (at_builtin; refine wpList_append_own_at _ rfl _ _ 39 rfl u.heap.size 9 i0 (.string ByteArray.empty) 1 16 Tryz.underlying39 hi hz0 hz1 hz2 rfl (by decide) _ 4 _ rfl (hrow.alloc _) ⟨u.heap.size + 1, 0, none⟩ 1 1 [.string t'] rfl rfl hal (by simp [Value.oneCell']) (by decide) (by decide) (by simp <;> omega) ?_; intro v' w5 hown hgrow _ hwh)
      have hs5 := hgrow.size
      simp at hs5
      have bel5 := (belN.alloc (o := .cells #[.string t'] 9) (by simp; omega)).grown hgrow (by simp; omega) (fun j ej => by have := (hrow.lt j ej).1; omega)
      have hj := join_ws 1 a b c d n t'
      have hjl := pktL_len 1 a b c d n t'
      have h40 := ok_forty ho
      refine (join_row (pktWs 1 a b c d n t') _ v' _ hown (by show 0 < 5; omega) (by show 5 ≤ 1000; omega) (by rw [hj]; omega)).mono ?_
      rintro e w6 ⟨rfl, k6⟩
      rw [hj]
      go_wp2
      go_ret
      exact ⟨rfl, bel5.trans (k6.mono (by omega))⟩
    · have hrow := World.ownsRow_lit (base := u.heap.size) (e := 9) (size := 1) u #[.string (wordS 2), .string (txt a b), .string (txt c d), .string (decS n)] 4 (Nat.le_refl _) (by decide) rfl
      have belN := bel3.alloc (by omega) (.cells #[.string (wordS 2), .string (txt a b), .string (txt c d), .string (decS n)] 9)
      have hj := join_ws 2 a b c d n ⟨#[]⟩
      have hjl := pktL_len 2 a b c d n ⟨#[]⟩
      have h0s : (⟨#[]⟩ : ByteArray).size = 0 := rfl
      go_wp2_with fail
      refine (join_row (pktWs 2 a b c d n ⟨#[]⟩) _ _ _ hrow (by show 0 < 4; omega) (by show 4 ≤ 1000; omega) (by rw [hj]; omega)).mono ?_
      rintro e w6 ⟨rfl, k6⟩
      rw [hj]
      go_wp2
      go_ret
      exact ⟨rfl, belN.trans (k6.mono (by simp; omega))⟩

set_option maxHeartbeats 1000000 in
theorem pktText (k a b c d n : Int) (t : ByteArray) (w : World) :
    Calls Tryz.prog 7 #[pktV k a b c d n t] w fun e w' => e = .returned (.string (pktS k a b c d n t)) ∧ Below w.heap.size w w' := by
  cases hB : pktB k a b c d n t
  · have hS : pktS k a b c d n t = ⟨#[]⟩ := by unfold pktS; rw [hB]; rfl
    rw [hS]; clear hS
    have bel0 : Below w.heap.size w (w.alloc (.cells #[.int .i64 k, .int .i64 a, .int .i64 b, .int .i64 c, .int .i64 d, .int .i64 n, .string t] 26)) := (Below.refl _ _).alloc (Nat.le_refl _) _
    go_enter Tryz.func7, Tryz.ntmps7
    go_wp2_with fail
    refine (pktOk_is k a b c d n t false hB _).mono ?_
    rintro e w2 ⟨rfl, k2⟩
    go_wp2
    go_ret
    exact ⟨rfl, bel0.trans (k2.mono (by simp))⟩
  · exact pktText_ok k a b c d n t w hB
end Go.Proofs.YtnjggammbebpkaaGreatDoor.Pk

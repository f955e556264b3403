/- The walk of the law on what went on of a stream: it answers true. -/
import Derived.Test.YtihhegjkliolhaaGreatDoorDrawQ
import Derived.Test.YtihhegjkliolhaaGreatDoorStE
import Derived.Test.YtihhegjkliolhaaGreatDoorSsA
import Derived.Test.YtihhegjkliolhaaGreatDoorSsC
import Derived.Test.YtihhegjkliolhaaGreatDoorLzP
import Derived.Test.YtihhegjkliolhaaGreatDoorLaid
import Derived.Test.YtihhegjkliolhaaGreatDoorPp
import Derived.Deep.Cut
import Derived.Test.YtihhegjkliolhaaGreatDoorRi
import Derived.Test.YtihhegjkliolhaaGreatDoorSt9
namespace Go.Proofs.YtihhegjkliolhaaGreatDoor.LStreamOut
open Go.RowKit Go.Shelf Go.Proofs.YtihhegjkliolhaaGreatDoor.Kit Go.Proofs.YtihhegjkliolhaaGreatDoor.Tx Go.Proofs.YtihhegjkliolhaaGreatDoor.Nm Go.Proofs.YtihhegjkliolhaaGreatDoor.App Go.Proofs.YtihhegjkliolhaaGreatDoor.St Go.Proofs.YtihhegjkliolhaaGreatDoor.StP Go.Proofs.YtihhegjkliolhaaGreatDoor.Lz Go.Proofs.YtihhegjkliolhaaGreatDoor.LzP
open Go.Proofs.YtihhegjkliolhaaGreatDoor.Read (Errs)
set_option linter.unusedSimpArgs false
set_option linter.unusedVariables false

theorem fold_tx (ps : List (Int × ByteArray)) : ∀ x : ByteArray, ps.foldl (fun a p => a ++ p.2) x = x ++ txW ps := by
  induction ps with
  | nil => intro x; simp [txW]
  | cons p ps ih =>
    intro x
    show ps.foldl _ (x ++ p.2) = x ++ ps.foldl _ (ByteArray.empty ++ p.2)
    rw [ih, ih, ByteArray.append_assoc]; simp [ByteArray.append_assoc]
theorem txW_app (a b : List (Int × ByteArray)) : txW (a ++ b) = txW a ++ txW b := by
  show (a ++ b).foldl _ _ = _
  rw [List.foldl_append, fold_tx]; rfl
theorem ext0 (S : ByteArray) (k : Nat) : (S.extract 0 k).data.toList = S.data.toList.take k := by rw [ext_to]; rfl
theorem tx_begin (ps : List (Int × ByteArray)) (k : Nat) : (txW (ps.take k)).size ≤ (txW ps).size ∧ (txW ps).extract 0 (txW (ps.take k)).size = txW (ps.take k) := by
  have e : txW ps = txW (ps.take k) ++ txW (ps.drop k) := by rw [← txW_app, List.take_append_drop]
  refine ⟨by rw [e, ByteArray.size_append]; omega, ?_⟩
  refine ba_ext ?_
  rw [ext0, e]
  have : (txW (ps.take k) ++ txW (ps.drop k)).data.toList = (txW (ps.take k)).data.toList ++ (txW (ps.drop k)).data.toList := by simp
  rw [this, ← lenL, List.take_left]
theorem pie_less {S : ByteArray} {ps : List (Int × ByteArray)} (h : stB S ps = true) (k : Nat) :
    (pieL (S.data.toList.take k)).length ≤ ps.length ∧ stB (S.extract 0 k) (ps.take (pieL (S.data.toList.take k)).length) = true := by
  obtain ⟨h1, h2, h3⟩ := stB_parts.1 h
  have hL : S.data.toList.take k ++ S.data.toList.drop k = S.data.toList := List.take_append_drop k _
  obtain ⟨q1, _, _, _⟩ := pie_split (S.data.toList.take k) (S.data.toList.drop k) (by rw [hL]; exact h1)
  rw [hL] at q1
  have hle : (pieL (S.data.toList.take k)).length ≤ ps.length := by rw [← h2, q1, List.length_append]; omega
  refine ⟨hle, stB_parts.2 ⟨?_, ?_, ?_⟩⟩
  · rw [ext0]; exact ok_take _ k h1
  · rw [ext0, List.length_take]; omega
  · intro i x p hx hp
    rw [ext0] at hx
    rw [List.getElem?_take] at hp
    split at hp
    · refine h3 i x p ?_ hp
      rw [q1, List.getElem?_append_left (by omega)]; exact hx
    · cases hp
theorem isT_take {W : World} {a : Option Addr} {n c : Nat} {ps : List (Int × ByteArray)} (h : IsT W (.slice a n c) ps) (k : Nat) (hk : k ≤ ps.length) : IsT W (.slice a k c) (ps.take k) := by
  obtain ⟨a', c', e, h1, h2, h3⟩ := h
  simp only [Value.slice.injEq] at e
  obtain ⟨rfl, -, rfl⟩ := e
  have hl : (ps.take k).length = k := by rw [List.length_take]; omega
  refine ⟨a, c, by rw [hl], by omega, h2, ?_⟩
  rcases h3 with rfl | ⟨g, o, rfl, hat⟩
  · exact .inl (by simp)
  · refine .inr ⟨g, o, rfl, fun i p hp => hat i p ?_⟩
    rw [List.getElem?_take] at hp
    split at hp
    · exact hp
    · cases hp
theorem pieces_sl (s : ByteArray) (J : Nat) (h : (pieL s.data.toList).length = J) (w : World) (herr : Errs w) : Calls Tryz.prog 24 #[.string s] w fun e w' => ∃ a c, e = .returned (.slice a J c) ∧ Below w.heap.size w w' := by
  refine (pieces_is s _ rfl w herr).mono ?_
  rintro e w9 ⟨v, rfl, hP, k⟩
  obtain ⟨a, c, rfl⟩ := isP_slice hP
  exact ⟨a, c, by rw [h], k⟩
set_option maxHeartbeats 1000000 in
theorem begins_any (a b : ByteArray) (h1 : a.size ≤ b.size) (h2 : b.extract 0 a.size = a) (w : World) :
    Calls Tryz.prog 17 #[.string a, .string b] w fun e w' => e = .returned (.bool true) ∧ w' = w := by
  have h1' : (a.size : Int) ≤ (b.size : Int) := by omega
  go_enter Tryz.func17, Tryz.ntmps17
  go_wp2
  go_ret
  exact ⟨by simp [h2], rfl⟩
theorem isT_set2 {W : World} {R : Nat} {v : Value} {ps : List (Int × ByteArray)} {s : ByteArray} {T : TypeId} {a : Option Addr} {n c : Nat} {fl : Nat × Nat} (h : IsT W v ps) (hR : W.heap[R]? = some (.cells #[.string s, .slice a n c] T fl)) (x y : Value) :
    IsT ((W.setCell ⟨R, 0, none⟩ x).setCell ⟨R, 1, none⟩ y) v ps := by
  obtain ⟨a', c', rfl, h1, h2, h3⟩ := h
  refine ⟨a', c', rfl, h1, h2, ?_⟩
  rcases h3 with rfl | ⟨g, o, rfl, hat⟩
  · exact .inl rfl
  · refine .inr ⟨g, o, rfl, fun i p hp => ?_⟩
    obtain ⟨q0, q1⟩ := hat i p hp
    have hne : g ≠ R := by
      rintro rfl
      unfold World.cell? at q0
      simp only [hR] at q0
      generalize o + i * 2 = j at q0
      rcases j with _ | _ | j <;> simp at q0
    have k : ∀ j, ((W.setCell ⟨R, 0, none⟩ x).setCell ⟨R, 1, none⟩ y).cell? ⟨g, j, none⟩ = W.cell? ⟨g, j, none⟩ := fun j => by
      unfold World.setCell World.cell?
      simp [Array.getElem?_modify, Ne.symm hne]
    exact ⟨(k _).trans q0, (k _).trans q1⟩
set_option maxHeartbeats 1000000 in
theorem drawStreamOut (a : Option Addr) (len cap : Nat) (z : Nat → Int) (w : World) (h : CodeIn w a len cap z) :
    Calls Tryz.prog 22 #[.slice a len cap] w fun e w' => ∃ S pv ps, e = .returned (.agg #[.string S, pv]) ∧ IsT w' pv ps ∧ Sm S ps ∧ Below w.heap.size w w' := by
  have bA : Below w.heap.size w (w.alloc (.cells #[.string ⟨#[]⟩, .slice none 0 0] 26)) := (Below.refl _ _).alloc (Nat.le_refl _) _
  go_enter Tryz.func22, Tryz.ntmps22
  go_wp2_with fail
  refine (drawStreamOk a len cap z _ (h.below bA)).mono ?_
  rintro e w1 ⟨S, pv, ps, rfl, hT, hS, k1⟩
  have hbel := bA.trans (k1.mono (by simp))
  have z1 : w.heap.size < w1.heap.size := by have := k1.size; simp at this; omega
  have c1 := fun j => k1.cell (p := ⟨w.heap.size, j, none⟩) (by simp)
  have f1 := fun j => k1.frozen (p := ⟨w.heap.size, j, none⟩) (by simp)
  have e0 : w1.cell? ⟨w.heap.size, 0, none⟩ = some (.string ⟨#[]⟩) := by rw [c1 0]; simp
  have e1 : w1.cell? ⟨w.heap.size, 1, none⟩ = some (.slice none 0 0) := by rw [c1 1]; simp
  have ef : ∀ j, w1.frozen? ⟨w.heap.size, j, none⟩ = false := fun j => by rw [f1 j]; simp
  have HT := (show Hid (IsT w1 pv ps) from hT)
  have hR : w1.heap[w.heap.size]? = some (.cells #[.string ⟨#[]⟩, .slice none 0 0] 26 (0, 0)) := by rw [k1.block _ (by simp)]; exact heap_alloc_new w _
  have hne : w1.heap.size ≠ w.heap.size := by omega
  clear c1 f1 k1 bA
  obtain ⟨pa, pc, rfl, hpt⟩ := hT
  have q := set_two e0 e1 (.string S) (.slice pa ps.length pc)
  have bw : Below w1.heap.size ((w1.setCell ⟨w.heap.size, 0, none⟩ (.string S)).setCell ⟨w.heap.size, 1, none⟩ (.slice pa ps.length pc)) ((w1.setCell ⟨w.heap.size, 0, none⟩ (.string S)).setCell ⟨w.heap.size, 1, none⟩ (.slice pa ps.length pc)) := Below.refl _ _
  go_wp2
  refine bodyPost_ret (v := .agg #[.string S, .slice pa ps.length pc]) ?_ rfl ?_
  · simp [results, Tryz.results22, go_sem, q.1, q.2]
  · exact ⟨S, _, ps, rfl, isT_set2 HT.out hR _ _, hS, (hbel.setCell (p := ⟨w.heap.size, 0, none⟩) (Nat.le_refl _) _).setCell (p := ⟨w.heap.size, 1, none⟩) (Nat.le_refl _) _⟩
set_option maxHeartbeats 400000 in
theorem long (a0 a1 : Option Addr) (len0 cap0 len1 cap1 : Nat) (w : World) (h : (1048576 : Int) < (len0 : Int)) :
    Calls Tryz.prog 7 #[.slice a0 len0 cap0, .slice a1 len1 cap1] w fun e w' => e = .returned (.bool true) ∧ Below w.heap.size w w' := by
  go_enter Tryz.func7, Tryz.ntmps7
  go_wp2
  go_ret
  exact ⟨rfl, Below.refl _ _⟩
set_option maxHeartbeats 400000 in
theorem long2 (a0 a1 : Option Addr) (len0 cap0 len1 cap1 : Nat) (w : World) (h0 : (len0 : Int) ≤ 1048576) (h : (1048576 : Int) < (len1 : Int)) :
    Calls Tryz.prog 7 #[.slice a0 len0 cap0, .slice a1 len1 cap1] w fun e w' => e = .returned (.bool true) ∧ Below w.heap.size w w' := by
  go_enter Tryz.func7, Tryz.ntmps7
  go_wp2
  go_ret
  exact ⟨rfl, Below.refl _ _⟩
set_option maxRecDepth 8000 in
set_option maxHeartbeats 16000000 in
theorem short (a0 a1 : Option Addr) (len0 cap0 len1 cap1 : Nat) (z y : Nat → Int) (w : World) (hc : CodeIn w a0 len0 cap0 z) (hc1 : CodeIn w a1 len1 cap1 y) (h : (len0 : Int) ≤ 1048576) (h1 : (len1 : Int) ≤ 1048576) (herr : Errs w) :
    Calls Tryz.prog 7 #[.slice a0 len0 cap0, .slice a1 len1 cap1] w fun e w' => e = .returned (.bool true) ∧ Below w.heap.size w w' := by
  go_enter Tryz.func7, Tryz.ntmps7
  go_wp2_with fail
  refine (drawStreamOut a0 len0 cap0 z _ hc).mono ?_
  rintro e w1 ⟨S, pv, ps, rfl, hT, ⟨hS, hpl, hpb⟩, k1⟩
  obtain ⟨pa, pc, rfl, hT'⟩ := id hT
  clear hT'
  have he1 := herr.below k1
  have bA : Below w1.heap.size w1 (w1.alloc (.cells #[.string S, .slice pa ps.length pc] 26)) := (Below.refl _ _).alloc (Nat.le_refl _) _
  have hps : ∀ p ∈ ps, p.2.size ≤ 1073741824 := fun p hp => by have := (hpb p hp).2; omega
  have H8 := (show Hid (ps.length ≤ 40 ∧ ∀ q ∈ ps, q.2.size ≤ 8) from ⟨hpl, fun q hq => (hpb q hq).2⟩)
  have HPS := (show Hid (∀ p ∈ ps, p.2.size ≤ 1073741824) from hps)
  have HE := (show Hid (Errs (w1.alloc (.cells #[.string S, .slice pa ps.length pc] 26))) from he1.below bA)
  have HT := (show Hid (IsT (w1.alloc (.cells #[.string S, .slice pa ps.length pc] 26)) (.slice pa ps.length pc) ps) from hT.below bA)
  have HB := (show Hid (Below w.heap.size w (w1.alloc (.cells #[.string S, .slice pa ps.length pc] 26))) from k1.trans (bA.mono k1.size))
  clear hps hpb he1 hT k1 bA herr
  go_wp2_with fail
  refine (out_stream S _ ps _ HT.out HE.out).mono ?_
  rintro e w2 ⟨rfl, k2⟩
  have c2 := keepc k2 w1.heap.size (by simp)
  have e0 : w2.cell? ⟨w1.heap.size, 0, none⟩ = some (.string S) := by rw [c2 0]; simp [go_sem]
  have e1 : w2.cell? ⟨w1.heap.size, 1, none⟩ = some (.slice pa ps.length pc) := by rw [c2 1]; simp [go_sem]
  have hl2 : w1.heap.size < w2.heap.size := by have := k2.size; simp at this; omega
  have HT2 := (show Hid (IsT w2 (.slice pa ps.length pc) ps) from HT.out.below k2)
  have HE2 := (show Hid (Errs w2) from HE.out.below k2)
  have HB2 := (show Hid (Below w.heap.size w w2) from HB.out.trans (k2.mono HB.out.size))
  clear k2 c2 HT HE HB
  obtain ⟨X, hX⟩ : ∃ X, w1.heap.size = X := ⟨_, rfl⟩
  rw [hX] at e0 e1 hl2 ⊢
  clear hX
  obtain ⟨O, hO⟩ : ∃ O, outB S ps = O := ⟨_, rfl⟩
  rw [hO]
  go_wp2_with fail
  refine (StS.sout_any S _ ps _ HT2.out (by omega) HPS.out).mono ?_
  rintro e w3 ⟨rfl, k3⟩
  rw [hO]
  have f0 := (k3.cell (p := ⟨X, 0, none⟩) hl2).trans e0
  have f1 := (k3.cell (p := ⟨X, 1, none⟩) hl2).trans e1
  have hl3 : X < w3.heap.size := by have := k3.size; omega
  have HT3 := (show Hid (IsT w3 (.slice pa ps.length pc) ps) from HT2.out.below k3)
  have HE3 := (show Hid (Errs w3) from HE2.out.below k3)
  have HB3 := (show Hid (Below w.heap.size w w3) from HB2.out.trans (k3.mono HB2.out.size))
  clear k3 e0 e1 HT2 HE2 HB2
  go_wp2_with fail
  refine (StS.sstream_any S _ ps _ HT3.out (by omega) HPS.out).mono ?_
  rintro e w4 ⟨rfl, k4⟩
  have g0 := (k4.cell (p := ⟨X, 0, none⟩) hl3).trans f0
  have g1 := (k4.cell (p := ⟨X, 1, none⟩) hl3).trans f1
  have hl4 : X < w4.heap.size := by have := k4.size; omega
  have HT4 := (show Hid (IsT w4 (.slice pa ps.length pc) ps) from HT3.out.below k4)
  have HE4 := (show Hid (Errs w4) from HE3.out.below k4)
  have HB4 := (show Hid (Below w.heap.size w w4) from HB3.out.trans (k4.mono HB3.out.size))
  clear k4 f0 f1 HT3 HE3 HB3
  cases hst : stB S ps
  · go_wp2_with fail
    refine (StS.sout_any S _ ps _ HT4.out (by omega) HPS.out).mono ?_
    rintro e w5 ⟨rfl, k5⟩
    rw [hO]
    go_wp2
    go_ret
    exact ⟨by simp, HB4.out.trans (k5.mono HB4.out.size)⟩
  · rw [outB_ok hst] at hO
    have HST := (show Hid (stB S ps = true) from hst)
    have HO := (show Hid (txW ps = O) from hO)
    clear hst hO
    go_wp2
    go_loopw [7, 8] (fun o i wr => ∃ k : Nat, k ≤ ps.length ∧ i = .int .i64 k ∧ o = .string (txW (ps.take k)) ∧ (txW (ps.take k)).size ≤ 8 * k ∧ Below w4.heap.size w4 wr) (fun o i wr => ps.length - (intOf i).toNat)
    case atStart => exact ⟨0, Nat.zero_le _, rfl, rfl, Nat.le_refl _, Below.refl _ _⟩
    case round =>
      obtain ⟨k, hk, rfl, rfl, h6, hb⟩ := hrel
      have m0 := (hb.cell (p := ⟨X, 0, none⟩) hl4).trans g0
      have m1 := (hb.cell (p := ⟨X, 1, none⟩) hl4).trans g1
      by_cases hlt : k < ps.length
      · have hlt' : (k : Int) < (ps.length : Int) := by omega
        have hp : ps[k]? = some ps[k] := List.getElem?_eq_getElem hlt
        obtain ⟨a', c', ev', -, -, hr⟩ := HT4.out.below hb
        simp only [Value.slice.injEq] at ev'
        obtain ⟨rfl, -, rfl⟩ := ev'
        obtain ⟨g, o, rfl, x0, x1⟩ := StS.isT_at (cap := pc) hr k _ hp
        have hz := H8.out.2 _ (List.mem_of_getElem? hp)
        have hst := takeT_snoc hp
        generalize ps[k] = p at hp x0 x1 hst hz
        have hn : (txW (ps.take (k + 1))) = txW (ps.take k) ++ p.2 := by rw [hst, txW_snoc]
        have HN := (show Hid (txW (ps.take (k + 1)) = txW (ps.take k) ++ p.2) from hn)
        have HBW := (show Hid (Below w4.heap.size w4 wr) from hb)
        clear hn hst hp hr hb
        go_wp2
        go_roundw
        case rel => exact ⟨k + 1, by omega, by go_num, by rw [HN.out], by rw [HN.out, ByteArray.size_append]; omega, HBW.out⟩
        case measure => simp [intOf]; omega
      · have hge : (ps.length : Int) ≤ (k : Int) := by omega
        have htk : ps.take k = ps := List.take_of_length_le (by omega)
        rw [htk, HO.out]
        obtain ⟨r, hr⟩ : ∃ r : Nat, len1 % (S.size + 1) = r := ⟨_, rfl⟩
        have hrs : r ≤ S.size := by have := Nat.mod_lt len1 (Nat.succ_pos S.size); rw [Nat.succ_eq_add_one, hr] at this; omega
        have hrz : ((len1 : Int) % ((S.size : Int) + 1)) = (r : Int) := by rw [← hr]; simp
        have hrt : ((len1 : Int).tmod ((S.size : Int) + 1)) = (r : Int) := by rw [Int.tmod_eq_emod_of_nonneg (by omega)]; exact hrz
        have hlr : X < wr.heap.size := by have := hb.size; omega
        obtain ⟨hJle, hJst⟩ := pie_less HST.out r
        obtain ⟨J, hJ⟩ : ∃ J, (pieL (S.data.toList.take r)).length = J := ⟨_, rfl⟩
        rw [hJ] at hJle hJst
        have HJ := (show Hid ((pieL (S.extract 0 r).data.toList).length = J) from by rw [ext0]; exact hJ)
        have HJS := (show Hid (stB (S.extract 0 r) (ps.take J) = true) from hJst)
        have HTR := (show Hid (IsT wr (.slice pa J pc) (ps.take J)) from isT_take (HT4.out.below hb) J hJle)
        have HER := (show Hid (Errs wr) from HE4.out.below hb)
        have HBR := (show Hid (Below w.heap.size w wr) from HB4.out.trans (hb.mono HB4.out.size))
        have hJc : (J : Int) ≤ (pc : Int) := by
          obtain ⟨a', c', ev', hcc, -, -⟩ := HT4.out
          simp only [Value.slice.injEq] at ev'
          obtain ⟨-, -, rfl⟩ := ev'
          omega
        have hJl : (J : Int) ≤ (ps.length : Int) := by omega
        have hrs' : (r : Int) ≤ (S.size : Int) := by omega
        have htl : (ps.take J).length = J := by rw [List.length_take]; omega
        clear hJst hJ hr hb hJle
        have hmix : Tryz.prog.follows .mixedOrders = true := by kernel_rfl
        obtain ⟨VV, hVV⟩ : ∃ VV : Nat → Value, VV = fun j => [((.pointer (some ⟨X, 0, none⟩) : Value) : Value), (.string S : Value), (.int .i64 (r : Nat) : Value), (.string (S.extract 0 r) : Value), (.pointer (some ⟨X, 1, none⟩) : Value), (.slice pa ps.length pc : Value), (.pointer (some ⟨X, 0, none⟩) : Value), (.string S : Value), (.int .i64 (r : Nat) : Value), (.string (S.extract 0 r) : Value), undef, (.int .i64 (J : Nat) : Value), (.slice pa J pc : Value), (.agg #[.string (S.extract 0 r), .slice pa J pc] : Value), undef, undef].getD j undef := ⟨_, rfl⟩
        have V0 : VV 0 = (.pointer (some ⟨X, 0, none⟩) : Value) := by rw [hVV]; rfl
        have V1 : VV 1 = (.string S : Value) := by rw [hVV]; rfl
        have V2 : VV 2 = (.int .i64 (r : Nat) : Value) := by rw [hVV]; rfl
        have V3 : VV 3 = (.string (S.extract 0 r) : Value) := by rw [hVV]; rfl
        have V4 : VV 4 = (.pointer (some ⟨X, 1, none⟩) : Value) := by rw [hVV]; rfl
        have V5 : VV 5 = (.slice pa ps.length pc : Value) := by rw [hVV]; rfl
        have V6 : VV 6 = (.pointer (some ⟨X, 0, none⟩) : Value) := by rw [hVV]; rfl
        have V7 : VV 7 = (.string S : Value) := by rw [hVV]; rfl
        have V8 : VV 8 = (.int .i64 (r : Nat) : Value) := by rw [hVV]; rfl
        have V9 : VV 9 = (.string (S.extract 0 r) : Value) := by rw [hVV]; rfl
        have V10 : VV 10 = undef := by rw [hVV]; rfl
        have V11 : VV 11 = (.int .i64 (J : Nat) : Value) := by rw [hVV]; rfl
        have V12 : VV 12 = (.slice pa J pc : Value) := by rw [hVV]; rfl
        have V13 : VV 13 = (.agg #[.string (S.extract 0 r), .slice pa J pc] : Value) := by rw [hVV]; rfl
        have V14 : VV 14 = undef := by rw [hVV]; rfl
        have V15 : VV 15 = undef := by rw [hVV]; rfl
        clear hVV
        go_upto_region 13 with fail
        refine wp_region_any hmix ?_
        refine Ri.any_inv (I := fun l a' w' => l.size = 16 ∧ ∃ (t : Nat → Value) (x y : Value), a' = { tmps := #[(Value.slice a0 len0 cap0 : Value), Value.slice a1 len1 cap1, undef, undef, Value.bool false, Value.pointer (some { block := X, off := 0 }), Value.string O, Value.string O, Value.int IntKind.i64 ↑k, Value.int IntKind.i64 ↑r, x, Value.slice a0 len0 cap0, Value.int IntKind.i64 ↑len0, Value.bool (decide ((1048576 : Int) < (len0 : Int))), Value.bool (decide ((1048576 : Int) < (len0 : Int))), Value.slice a1 len1 cap1, Value.int IntKind.i64 ↑len1, Value.bool (decide ((1048576 : Int) < (len1 : Int))), Value.bool (decide ((1048576 : Int) < (len0 : Int)) || decide ((1048576 : Int) < (len1 : Int))), Value.slice a0 len0 cap0, Value.agg #[Value.string S, Value.slice pa ps.length pc], Value.agg #[Value.string S, Value.slice pa ps.length pc], Value.string O, Value.string O, Value.agg #[Value.string S, Value.slice pa ps.length pc], Value.string O, Value.bool false, Value.bool false, Value.agg #[Value.string S, Value.slice pa ps.length pc], Value.bool true, Value.bool false, Value.bool false, undef, undef, undef, undef, Value.int IntKind.i64 ↑k, Value.pointer (some { block := X, off := 1 }), Value.slice pa ps.length pc, Value.int IntKind.i64 ↑ps.length, Value.bool false, u41, u42, u43, u44, u45, u46, u47, u48, u49, u50, Value.slice a1 len1 cap1, Value.int IntKind.i64 ↑len1, Value.pointer (some { block := X, off := 0 }), Value.string S, Value.int IntKind.i64 ↑S.size, Value.int IntKind.i64 (↑S.size + 1), Value.int IntKind.i64 ↑r, t 0, t 1, t 2, t 3, t 4, t 5, t 6, t 7, t 8, t 9, y, t 11, t 12, t 13, undef, undef, undef, undef, undef, undef, undef, undef, undef, undef, undef, undef, undef], defers := [] } ∧ Rg.Vals l VV t ∧ Ri.St9 wr 26 (.string ⟨#[]⟩) (.slice none 0 0) (.string (S.extract 0 r)) (.slice pa J pc) 14 15 10 J l x y w') ?sz ?low ?step ?fin _ _ _ _ ?start (Ri.closed_none _ _ _) (Rg.left_all _)
        case sz => exact fun l a' w' h => h.1
        case start => exact ⟨by simp, fun j => ([undef, undef, undef, undef, undef, undef, undef, undef, undef, undef, undef, undef, undef, undef, undef, undef] : List Value).getD j undef, undef, undef, rfl, Rg.vals_none _ _ _, Ri.St9.start _ (Below.refl _ _).drew⟩
        case low => exact Ri.low_of (by kernel_rfl)
        case step =>
          rintro l a' w' i ⟨hsz, t, x, y, rfl, hv, HM⟩ hcl hi
          obtain ⟨h0, op, ho, hd⟩ := mem_ready.1 hi
          have hin : i < 16 := (Array.getElem?_eq_some_iff.1 ho).1
          have hnl := Rg.not_listed h0
          have hL1 : l.getD 15 false = true → ∀ j, j < 15 → l.getD j false = true := Ri.up_of (by kernel_rfl) hcl
          clear h0 hi hcl
          have hc : i = 0 ∨ i = 1 ∨ i = 2 ∨ i = 3 ∨ i = 4 ∨ i = 5 ∨ i = 6 ∨ i = 7 ∨ i = 8 ∨ i = 9 ∨ i = 10 ∨ i = 11 ∨ i = 12 ∨ i = 13 ∨ i = 14 ∨ i = 15 := by omega
          rcases hc with rfl | rfl | rfl | rfl | rfl | rfl | rfl | rfl | rfl | rfl | rfl | rfl | rfl | rfl | rfl | rfl
          · obtain rfl : _ = op := Option.some.inj (show some _ = some op from ho)
            have q9 : l.getD 15 false = false := by
              cases q : l.getD 15 false
              · rfl
              · rw [hL1 q 0 (by omega)] at hnl; cases hnl
            have HV := (show Hid (Rg.Vals l VV t) from hv)
            have HQ := (show Hid (Ri.St9 wr 26 (.string ⟨#[]⟩) (.slice none 0 0) (.string (S.extract 0 r)) (.slice pa J pc) 14 15 10 J l x y w') from HM)
            clear hv hd ho HM
            refine wpOp_step rfl fun K9 hK9 => ?_
            have HKK := (show Hid _ from hK9)
            clear hK9
            go_simp
            exact HKK.out _ _ ⟨by simp [hsz], fun j => if j = 0 then (.pointer (some ⟨X, 0, none⟩) : Value) else t j, x, y, by simp, HV.out.put 0 _ V0.symm, HQ.out.other (by decide) (by decide) (by decide)⟩
          · obtain rfl : _ = op := Option.some.inj (show some _ = some op from ho)
            have e0 : t 0 = (.pointer (some ⟨X, 0, none⟩) : Value) := (hv 0 (hd { on := 0, ground := .data } (by simp) rfl)).trans V0
            have q9 : l.getD 15 false = false := by
              cases q : l.getD 15 false
              · rfl
              · rw [hL1 q 1 (by omega)] at hnl; cases hnl
            have HW := (show Hid (Below wr.heap.size wr w') from HM.bel)
            have ym0 : w'.cell? ⟨X, 0, none⟩ = some (.string S) := (HW.out.cell (p := ⟨X, 0, none⟩) hlr).trans m0
            have ym1 : w'.cell? ⟨X, 1, none⟩ = some (.slice pa ps.length pc) := (HW.out.cell (p := ⟨X, 1, none⟩) hlr).trans m1
            have HV := (show Hid (Rg.Vals l VV t) from hv)
            have HQ := (show Hid (Ri.St9 wr 26 (.string ⟨#[]⟩) (.slice none 0 0) (.string (S.extract 0 r)) (.slice pa J pc) 14 15 10 J l x y w') from HM)
            clear hv hd ho HM
            refine wpOp_step rfl fun K9 hK9 => ?_
            have HKK := (show Hid _ from hK9)
            clear hK9
            go_simp
            exact HKK.out _ _ ⟨by simp [hsz], fun j => if j = 1 then (.string S : Value) else t j, x, y, by simp [e0], HV.out.put 1 _ V1.symm, HQ.out.other (by decide) (by decide) (by decide)⟩
          · obtain rfl : _ = op := Option.some.inj (show some _ = some op from ho)
            have q9 : l.getD 15 false = false := by
              cases q : l.getD 15 false
              · rfl
              · rw [hL1 q 2 (by omega)] at hnl; cases hnl
            have HV := (show Hid (Rg.Vals l VV t) from hv)
            have HQ := (show Hid (Ri.St9 wr 26 (.string ⟨#[]⟩) (.slice none 0 0) (.string (S.extract 0 r)) (.slice pa J pc) 14 15 10 J l x y w') from HM)
            clear hv hd ho HM
            refine wpOp_step rfl fun K9 hK9 => ?_
            have HKK := (show Hid _ from hK9)
            clear hK9
            go_simp
            exact HKK.out _ _ ⟨by simp [hsz], fun j => if j = 2 then (.int .i64 (r : Nat) : Value) else t j, x, y, by simp, HV.out.put 2 _ V2.symm, HQ.out.other (by decide) (by decide) (by decide)⟩
          · obtain rfl : _ = op := Option.some.inj (show some _ = some op from ho)
            have e1 : t 1 = (.string S : Value) := (hv 1 (hd { on := 1, ground := .data } (by simp) rfl)).trans V1
            have e2 : t 2 = (.int .i64 (r : Nat) : Value) := (hv 2 (hd { on := 2, ground := .data } (by simp) rfl)).trans V2
            have q9 : l.getD 15 false = false := by
              cases q : l.getD 15 false
              · rfl
              · rw [hL1 q 3 (by omega)] at hnl; cases hnl
            have HV := (show Hid (Rg.Vals l VV t) from hv)
            have HQ := (show Hid (Ri.St9 wr 26 (.string ⟨#[]⟩) (.slice none 0 0) (.string (S.extract 0 r)) (.slice pa J pc) 14 15 10 J l x y w') from HM)
            clear hv hd ho HM
            refine wpOp_step rfl fun K9 hK9 => ?_
            have HKK := (show Hid _ from hK9)
            clear hK9
            go_simp
            exact HKK.out _ _ ⟨by simp [hsz], fun j => if j = 3 then (.string (S.extract 0 r) : Value) else t j, x, y, by simp [e1, e2], HV.out.put 3 _ V3.symm, HQ.out.other (by decide) (by decide) (by decide)⟩
          · obtain rfl : _ = op := Option.some.inj (show some _ = some op from ho)
            have q9 : l.getD 15 false = false := by
              cases q : l.getD 15 false
              · rfl
              · rw [hL1 q 4 (by omega)] at hnl; cases hnl
            have HV := (show Hid (Rg.Vals l VV t) from hv)
            have HQ := (show Hid (Ri.St9 wr 26 (.string ⟨#[]⟩) (.slice none 0 0) (.string (S.extract 0 r)) (.slice pa J pc) 14 15 10 J l x y w') from HM)
            clear hv hd ho HM
            refine wpOp_step rfl fun K9 hK9 => ?_
            have HKK := (show Hid _ from hK9)
            clear hK9
            go_simp
            exact HKK.out _ _ ⟨by simp [hsz], fun j => if j = 4 then (.pointer (some ⟨X, 1, none⟩) : Value) else t j, x, y, by simp, HV.out.put 4 _ V4.symm, HQ.out.other (by decide) (by decide) (by decide)⟩
          · obtain rfl : _ = op := Option.some.inj (show some _ = some op from ho)
            have e4 : t 4 = (.pointer (some ⟨X, 1, none⟩) : Value) := (hv 4 (hd { on := 4, ground := .data } (by simp) rfl)).trans V4
            have q9 : l.getD 15 false = false := by
              cases q : l.getD 15 false
              · rfl
              · rw [hL1 q 5 (by omega)] at hnl; cases hnl
            have HW := (show Hid (Below wr.heap.size wr w') from HM.bel)
            have ym0 : w'.cell? ⟨X, 0, none⟩ = some (.string S) := (HW.out.cell (p := ⟨X, 0, none⟩) hlr).trans m0
            have ym1 : w'.cell? ⟨X, 1, none⟩ = some (.slice pa ps.length pc) := (HW.out.cell (p := ⟨X, 1, none⟩) hlr).trans m1
            have HV := (show Hid (Rg.Vals l VV t) from hv)
            have HQ := (show Hid (Ri.St9 wr 26 (.string ⟨#[]⟩) (.slice none 0 0) (.string (S.extract 0 r)) (.slice pa J pc) 14 15 10 J l x y w') from HM)
            clear hv hd ho HM
            refine wpOp_step rfl fun K9 hK9 => ?_
            have HKK := (show Hid _ from hK9)
            clear hK9
            go_simp
            exact HKK.out _ _ ⟨by simp [hsz], fun j => if j = 5 then (.slice pa ps.length pc : Value) else t j, x, y, by simp [e4], HV.out.put 5 _ V5.symm, HQ.out.other (by decide) (by decide) (by decide)⟩
          · obtain rfl : _ = op := Option.some.inj (show some _ = some op from ho)
            have q9 : l.getD 15 false = false := by
              cases q : l.getD 15 false
              · rfl
              · rw [hL1 q 6 (by omega)] at hnl; cases hnl
            have HV := (show Hid (Rg.Vals l VV t) from hv)
            have HQ := (show Hid (Ri.St9 wr 26 (.string ⟨#[]⟩) (.slice none 0 0) (.string (S.extract 0 r)) (.slice pa J pc) 14 15 10 J l x y w') from HM)
            clear hv hd ho HM
            refine wpOp_step rfl fun K9 hK9 => ?_
            have HKK := (show Hid _ from hK9)
            clear hK9
            go_simp
            exact HKK.out _ _ ⟨by simp [hsz], fun j => if j = 6 then (.pointer (some ⟨X, 0, none⟩) : Value) else t j, x, y, by simp, HV.out.put 6 _ V6.symm, HQ.out.other (by decide) (by decide) (by decide)⟩
          · obtain rfl : _ = op := Option.some.inj (show some _ = some op from ho)
            have e6 : t 6 = (.pointer (some ⟨X, 0, none⟩) : Value) := (hv 6 (hd { on := 6, ground := .data } (by simp) rfl)).trans V6
            have q9 : l.getD 15 false = false := by
              cases q : l.getD 15 false
              · rfl
              · rw [hL1 q 7 (by omega)] at hnl; cases hnl
            have HW := (show Hid (Below wr.heap.size wr w') from HM.bel)
            have ym0 : w'.cell? ⟨X, 0, none⟩ = some (.string S) := (HW.out.cell (p := ⟨X, 0, none⟩) hlr).trans m0
            have ym1 : w'.cell? ⟨X, 1, none⟩ = some (.slice pa ps.length pc) := (HW.out.cell (p := ⟨X, 1, none⟩) hlr).trans m1
            have HV := (show Hid (Rg.Vals l VV t) from hv)
            have HQ := (show Hid (Ri.St9 wr 26 (.string ⟨#[]⟩) (.slice none 0 0) (.string (S.extract 0 r)) (.slice pa J pc) 14 15 10 J l x y w') from HM)
            clear hv hd ho HM
            refine wpOp_step rfl fun K9 hK9 => ?_
            have HKK := (show Hid _ from hK9)
            clear hK9
            go_simp
            exact HKK.out _ _ ⟨by simp [hsz], fun j => if j = 7 then (.string S : Value) else t j, x, y, by simp [e6], HV.out.put 7 _ V7.symm, HQ.out.other (by decide) (by decide) (by decide)⟩
          · obtain rfl : _ = op := Option.some.inj (show some _ = some op from ho)
            have q9 : l.getD 15 false = false := by
              cases q : l.getD 15 false
              · rfl
              · rw [hL1 q 8 (by omega)] at hnl; cases hnl
            have HV := (show Hid (Rg.Vals l VV t) from hv)
            have HQ := (show Hid (Ri.St9 wr 26 (.string ⟨#[]⟩) (.slice none 0 0) (.string (S.extract 0 r)) (.slice pa J pc) 14 15 10 J l x y w') from HM)
            clear hv hd ho HM
            refine wpOp_step rfl fun K9 hK9 => ?_
            have HKK := (show Hid _ from hK9)
            clear hK9
            go_simp
            exact HKK.out _ _ ⟨by simp [hsz], fun j => if j = 8 then (.int .i64 (r : Nat) : Value) else t j, x, y, by simp, HV.out.put 8 _ V8.symm, HQ.out.other (by decide) (by decide) (by decide)⟩
          · obtain rfl : _ = op := Option.some.inj (show some _ = some op from ho)
            have e7 : t 7 = (.string S : Value) := (hv 7 (hd { on := 7, ground := .data } (by simp) rfl)).trans V7
            have e8 : t 8 = (.int .i64 (r : Nat) : Value) := (hv 8 (hd { on := 8, ground := .data } (by simp) rfl)).trans V8
            have q9 : l.getD 15 false = false := by
              cases q : l.getD 15 false
              · rfl
              · rw [hL1 q 9 (by omega)] at hnl; cases hnl
            have HV := (show Hid (Rg.Vals l VV t) from hv)
            have HQ := (show Hid (Ri.St9 wr 26 (.string ⟨#[]⟩) (.slice none 0 0) (.string (S.extract 0 r)) (.slice pa J pc) 14 15 10 J l x y w') from HM)
            clear hv hd ho HM
            refine wpOp_step rfl fun K9 hK9 => ?_
            have HKK := (show Hid _ from hK9)
            clear hK9
            go_simp
            exact HKK.out _ _ ⟨by simp [hsz], fun j => if j = 9 then (.string (S.extract 0 r) : Value) else t j, x, y, by simp [e7, e8], HV.out.put 9 _ V9.symm, HQ.out.other (by decide) (by decide) (by decide)⟩
          · obtain rfl : _ = op := Option.some.inj (show some _ = some op from ho)
            have e9 : t 9 = (.string (S.extract 0 r) : Value) := (hv 9 (hd { on := 9, ground := .data } (by simp) rfl)).trans V9
            have q9 : l.getD 15 false = false := by
              cases q : l.getD 15 false
              · rfl
              · rw [hL1 q 10 (by omega)] at hnl; cases hnl
            have hbw := HM.bel
            have HV := (show Hid (Rg.Vals l VV t) from hv)
            have HQ := (show Hid (Ri.St9 wr 26 (.string ⟨#[]⟩) (.slice none 0 0) (.string (S.extract 0 r)) (.slice pa J pc) 14 15 10 J l x y w') from HM)
            clear hv hd ho HM
            refine wpOp_step rfl fun K9 hK9 => ?_
            have HKK := (show Hid _ from hK9)
            clear hK9
            go_simp
            refine (pieces_sl (S.extract 0 r) J HJ.out _ (HER.out.below hbw)).mono ?_
            rintro e w9 ⟨ya, yc, rfl, k9⟩
            exact HKK.out _ _ ⟨by simp [hsz], fun j => if j = 10 then undef else t j, x, (.slice ya J yc), by simp [e9], HV.out.put 10 _ V10.symm, HQ.out.call (by decide) (by decide) q9 k9 ya yc⟩
          · obtain rfl : _ = op := Option.some.inj (show some _ = some op from ho)
            have q9 : l.getD 15 false = false := by
              cases q : l.getD 15 false
              · rfl
              · rw [hL1 q 11 (by omega)] at hnl; cases hnl
            obtain ⟨ya, yc, rfl⟩ := HM.called (hd { on := 10, ground := .data } (by simp) rfl)
            have HV := (show Hid (Rg.Vals l VV t) from hv)
            have HQ := (show Hid (Ri.St9 wr 26 (.string ⟨#[]⟩) (.slice none 0 0) (.string (S.extract 0 r)) (.slice pa J pc) 14 15 10 J l x (.slice ya J yc) w') from HM)
            clear hv hd ho HM
            refine wpOp_step rfl fun K9 hK9 => ?_
            have HKK := (show Hid _ from hK9)
            clear hK9
            go_simp
            exact HKK.out _ _ ⟨by simp [hsz], fun j => if j = 11 then (.int .i64 (J : Nat) : Value) else t j, x, (.slice ya J yc), by simp, HV.out.put 11 _ V11.symm, HQ.out.other (by decide) (by decide) (by decide)⟩
          · obtain rfl : _ = op := Option.some.inj (show some _ = some op from ho)
            have e5 : t 5 = (.slice pa ps.length pc : Value) := (hv 5 (hd { on := 5, ground := .data } (by simp) rfl)).trans V5
            have e11 : t 11 = (.int .i64 (J : Nat) : Value) := (hv 11 (hd { on := 11, ground := .data } (by simp) rfl)).trans V11
            have q9 : l.getD 15 false = false := by
              cases q : l.getD 15 false
              · rfl
              · rw [hL1 q 12 (by omega)] at hnl; cases hnl
            have HV := (show Hid (Rg.Vals l VV t) from hv)
            have HQ := (show Hid (Ri.St9 wr 26 (.string ⟨#[]⟩) (.slice none 0 0) (.string (S.extract 0 r)) (.slice pa J pc) 14 15 10 J l x y w') from HM)
            clear hv hd ho HM
            refine wpOp_step rfl fun K9 hK9 => ?_
            have HKK := (show Hid _ from hK9)
            clear hK9
            go_simp
            exact HKK.out _ _ ⟨by simp [hsz], fun j => if j = 12 then (.slice pa J pc : Value) else t j, x, y, by simp [e5, e11], HV.out.put 12 _ V12.symm, HQ.out.other (by decide) (by decide) (by decide)⟩
          · obtain rfl : _ = op := Option.some.inj (show some _ = some op from ho)
            have e3 : t 3 = (.string (S.extract 0 r) : Value) := (hv 3 (hd { on := 3, ground := .data } (by simp) rfl)).trans V3
            have e12 : t 12 = (.slice pa J pc : Value) := (hv 12 (hd { on := 12, ground := .data } (by simp) rfl)).trans V12
            have q9 : l.getD 15 false = false := by
              cases q : l.getD 15 false
              · rfl
              · rw [hL1 q 13 (by omega)] at hnl; cases hnl
            have HV := (show Hid (Rg.Vals l VV t) from hv)
            have HQ := (show Hid (Ri.St9 wr 26 (.string ⟨#[]⟩) (.slice none 0 0) (.string (S.extract 0 r)) (.slice pa J pc) 14 15 10 J l x y w') from HM)
            clear hv hd ho HM
            refine wpOp_step rfl fun K9 hK9 => ?_
            have HKK := (show Hid _ from hK9)
            clear hK9
            go_simp
            exact HKK.out _ _ ⟨by simp [hsz], fun j => if j = 13 then (.agg #[.string (S.extract 0 r), .slice pa J pc] : Value) else t j, x, y, by simp [e3, e12], HV.out.put 13 _ V13.symm, HQ.out.other (by decide) (by decide) (by decide)⟩
          · obtain rfl : _ = op := Option.some.inj (show some _ = some op from ho)
            have q9 : l.getD 15 false = false := by
              cases q : l.getD 15 false
              · rfl
              · rw [hL1 q 14 (by omega)] at hnl; cases hnl
            have HV := (show Hid (Rg.Vals l VV t) from hv)
            have HQ := (show Hid (Ri.St9 wr 26 (.string ⟨#[]⟩) (.slice none 0 0) (.string (S.extract 0 r)) (.slice pa J pc) 14 15 10 J l x y w') from HM)
            clear hv hd ho HM
            refine wpOp_step rfl fun K9 hK9 => ?_
            have HKK := (show Hid _ from hK9)
            clear hK9
            go_simp
            exact HKK.out _ _ ⟨by simp [hsz], fun j => if j = 14 then undef else t j, _, y, by simp, HV.out.put 14 _ V14.symm, HQ.out.make (by omega) (by decide) (by decide) q9⟩
          · obtain rfl : _ = op := Option.some.inj (show some _ = some op from ho)
            have e13 : t 13 = (.agg #[.string (S.extract 0 r), .slice pa J pc] : Value) := (hv 13 (hd { on := 13, ground := .data } (by simp) rfl)).trans V13
            have q9 : l.getD 15 false = false := by
              cases q : l.getD 15 false
              · rfl
              · rw [q] at hnl; cases hnl
            obtain ⟨gg, rfl, hgg, m1, _⟩ := HM.made (hd { on := 14, ground := .data } (by simp) rfl)
            have m2 := m1 q9
            have s0 : w'.cell? ⟨gg, 0, none⟩ = some (.string ⟨#[]⟩) := by unfold World.cell?; rw [m2]; rfl
            have s1 : w'.cell? ⟨gg, 1, none⟩ = some (.slice none 0 0) := by unfold World.cell?; rw [m2]; rfl
            have sf : ∀ j, w'.frozen? ⟨gg, j, none⟩ = false := fun j => by unfold World.frozen?; rw [m2]; simp
            have HM2 := (show Hid (w'.heap[gg]? = some (.cells #[.string ⟨#[]⟩, .slice none 0 0] 26 (0, 0))) from m2)
            clear m1 m2
            have HV := (show Hid (Rg.Vals l VV t) from hv)
            have HQ := (show Hid (Ri.St9 wr 26 (.string ⟨#[]⟩) (.slice none 0 0) (.string (S.extract 0 r)) (.slice pa J pc) 14 15 10 J l (.pointer (some ⟨gg, 0, none⟩)) y w') from HM)
            clear hv hd ho HM
            refine wpOp_step rfl fun K9 hK9 => ?_
            have HKK := (show Hid _ from hK9)
            clear hK9
            go_simp
            exact HKK.out _ _ ⟨by simp [hsz], fun j => if j = 15 then undef else t j, _, y, by simp [e13], HV.out.put 15 _ V15.symm, HQ.out.put (by omega) (by decide) (by decide) rfl hgg HM2.out⟩
        case fin =>
          rintro l a' w' ⟨hsz, t, x, y, rfl, hv, HM⟩ hall

          obtain ⟨gg, rfl, hgg, -, m2⟩ := HM.made (hall 14 (by simp))
          have m3 := m2 (hall 15 (by simp))
          have s0 : w'.cell? ⟨gg, 0, none⟩ = some (.string (S.extract 0 r)) := by unfold World.cell?; rw [m3]; rfl
          have s1 : w'.cell? ⟨gg, 1, none⟩ = some (.slice pa J pc) := by unfold World.cell?; rw [m3]; rfl
          have hgl : gg < w'.heap.size := (Array.getElem?_eq_some_iff.1 m3).1
          have HT6 := (show Hid (IsT w' (.slice pa J pc) (ps.take J)) from HTR.out.below HM.bel)
          have HE6 := (show Hid (Errs w') from HER.out.below HM.bel)
          have HB6 := (show Hid (Below w.heap.size w w') from HBR.out.trans (HM.bel.mono HBR.out.size))
          clear hv hall m2 m3 HM
          go_wp2_with fail
          refine (out_stream (S.extract 0 r) _ (ps.take J) _ HT6.out HE6.out).mono ?_
          rintro e w5 ⟨rfl, k5⟩
          rw [outB_ok HJS.out]
          have n0 := (k5.cell (p := ⟨gg, 0, none⟩) hgl).trans s0
          have n1 := (k5.cell (p := ⟨gg, 1, none⟩) hgl).trans s1
          have HT7 := (show Hid (IsT w5 (.slice pa J pc) (ps.take J)) from HT6.out.below k5)
          have HE7 := (show Hid (Errs w5) from HE6.out.below k5)
          have HB7 := (show Hid (Below w.heap.size w w5) from HB6.out.trans (k5.mono HB6.out.size))
          have hbg := tx_begin ps J
          rw [HO.out] at hbg
          have HBG := (show Hid _ from hbg)
          clear k5 s0 s1 hbg HT6 HE6 HB6
          go_wp2_with fail
          refine (begins_any _ O HBG.out.1 HBG.out.2 _).mono ?_
          rintro e w6 ⟨rfl, rfl⟩
          go_wp2_with fail
          refine (ok_stream (S.extract 0 r) _ (ps.take J) _ HT7.out HE7.out).mono ?_
          rintro e w7 ⟨rfl, k7⟩
          rw [HJS.out]
          go_wp2
          go_ret
          exact ⟨rfl, HB7.out.trans (k7.mono HB7.out.size)⟩
end Go.Proofs.YtihhegjkliolhaaGreatDoor.LStreamOut

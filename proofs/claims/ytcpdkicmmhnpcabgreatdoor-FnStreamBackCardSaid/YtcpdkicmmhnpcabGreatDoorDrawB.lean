/- Walks: a stream that is drawn, and how many bytes went on. -/
import Derived.Test.YtcpdkicmmhnpcabGreatDoorDrawQ
import Derived.Test.YtcpdkicmmhnpcabGreatDoorRi
import Derived.Deep.Cut
namespace Go.Proofs.YtcpdkicmmhnpcabGreatDoor.StP
open Go.RowKit Go.Shelf Go.Proofs.YtcpdkicmmhnpcabGreatDoor.Kit Go.Proofs.YtcpdkicmmhnpcabGreatDoor.Rd Go.Proofs.YtcpdkicmmhnpcabGreatDoor.Draw Go.Proofs.YtcpdkicmmhnpcabGreatDoor.Tx Go.Proofs.YtcpdkicmmhnpcabGreatDoor.Mp Go.Proofs.YtcpdkicmmhnpcabGreatDoor.Mm Go.Proofs.YtcpdkicmmhnpcabGreatDoor.Ms Go.Proofs.YtcpdkicmmhnpcabGreatDoor.Nm Go.Proofs.YtcpdkicmmhnpcabGreatDoor.App Go.Proofs.YtcpdkicmmhnpcabGreatDoor.St Go.Proofs.YtcpdkicmmhnpcabGreatDoor.SpA
set_option linter.unusedSimpArgs false
set_option linter.unusedVariables false

theorem txW_eight {ps : List (Int × ByteArray)} (h : ps.length ≤ 40 ∧ ∀ q ∈ ps, q.2.size ≤ 8) : (txW ps).size ≤ 320 := by
  have key : ∀ (qs : List (Int × ByteArray)) (a : ByteArray), (∀ p ∈ qs, p.2.size ≤ 8) → (qs.foldl (fun a p => a ++ p.2) a).size ≤ a.size + 8 * qs.length := by
    intro qs
    induction qs with
    | nil => intro a _; simp
    | cons q qs ih =>
      intro a hq
      have h1 := hq q (by simp)
      have h2 := ih (a ++ q.2) (fun p hp => hq p (by simp [hp]))
      rw [List.foldl_cons, List.length_cons]
      rw [ByteArray.size_append] at h2
      omega
  have := key ps ByteArray.empty h.2
  have e : ByteArray.empty.size = 0 := rfl
  have h1 := h.1
  unfold txW; omega
/-- how many numbers were picked -/
def cntB (l : Array Bool) : Nat := (if l.getD 6 false = true then 1 else 0) + (if l.getD 8 false = true then 1 else 0)
theorem cntB_le (l : Array Bool) : cntB l ≤ 2 := by unfold cntB; split <;> split <;> omega
theorem cntB_ne {l : Array Bool} {i : Nat} (h6 : i ≠ 6) (h8 : i ≠ 8) : cntB (l.setIfInBounds i true) = cntB l := by unfold cntB; rw [getD_set_ne false h6, getD_set_ne false h8]
theorem cntB_6 {l : Array Bool} (h : l.getD 6 false = false) (hz : 6 < l.size) : cntB (l.setIfInBounds 6 true) = cntB l + 1 := by unfold cntB; rw [Rg.set_same hz, getD_set_ne false (by omega), h]; simp; omega
theorem cntB_8 {l : Array Bool} (h : l.getD 8 false = false) (hz : 8 < l.size) : cntB (l.setIfInBounds 8 true) = cntB l + 1 := by unfold cntB; rw [Rg.set_same hz, getD_set_ne false (by omega), h]; simp
/-- the world ahead of a store, and behind it -/
def PhB (F : World → Prop) (st : World → World) : Bool → World → Prop
  | false, w => F w
  | true, w => ∃ W, F W ∧ w = st W
theorem Pk.outs {w W : World} {b : Nat} {a : Option Addr} {len cap : Nat} {z : Nat → Int} {p X base : Nat} {S : ByteArray} {pv : Value} {ps : List (Int × ByteArray)} (h : Pk w W b a len cap z p X base S pv ps) (hs : ps.length ≤ 40 ∧ ∀ q ∈ ps, q.2.size ≤ 8) (O : ByteArray) (hO : txW ps = O) :
    Calls Tryz.prog 33 #[.agg #[.string S, pv]] W fun e W' => e = .returned (.string O) ∧ Hid (Pk w W' b a len cap z p X base S pv ps) ∧ W'.cell? ⟨X, 0, none⟩ = some (.string S) ∧ W'.cell? ⟨X, 1, none⟩ = some pv ∧ W'.cell? ⟨w.heap.size, 0, none⟩ = some (.string ⟨#[]⟩) ∧ W'.cell? ⟨w.heap.size, 1, none⟩ = some (.slice none 0 0) ∧ (∀ j, W'.frozen? ⟨w.heap.size, j, none⟩ = false) := by
  subst hO
  refine (StS.lout_any8 S pv ps W (isT_of_row h.row) hs).mono ?_
  rintro e W' ⟨rfl, k⟩
  have hX : X < W.heap.size := blk h.x0
  have hR : w.heap.size < W.heap.size := blk h.r0
  have h' : Pk w W' b a len cap z p X base S pv ps := ⟨h.rd.below k, (k.cell (p := ⟨X, 0, none⟩) hX).trans h.x0, (k.cell (p := ⟨X, 1, none⟩) hX).trans h.x1, (k.cell (p := ⟨w.heap.size, 0, none⟩) hR).trans h.r0, (k.cell (p := ⟨w.heap.size, 1, none⟩) hR).trans h.r1, fun j => (k.frozen (p := ⟨w.heap.size, j, none⟩) hR).trans (h.rf j), h.hx, h.hr, h.hb, row_below h.row k, h.bel.trans (k.mono h.bel.size)⟩
  exact ⟨rfl, h', h'.x0, h'.x1, h'.r0, h'.r1, h'.rf⟩

set_option maxRecDepth 8000 in
set_option maxHeartbeats 8000000 in
theorem drawStreamBack (a : Option Addr) (len cap : Nat) (z : Nat → Int) (w : World) (h : CodeIn w a len cap z) :
    Calls Tryz.prog 8 #[.slice a len cap] w fun e w' => ∃ S pv ps n, e = .returned (.tuple #[.agg #[.string S, pv], .int .i64 n]) ∧ IsT w' pv ps ∧ Sm S ps ∧ Below w.heap.size w w' := by
  have bA : Below w.heap.size w (w.alloc (.cells #[.string ⟨#[]⟩, .slice none 0 0] 25)) := (Below.refl _ _).alloc (Nat.le_refl _) _
  go_enter Tryz.func8, Tryz.ntmps8
  go_wp2_with fail
  refine (open_any a len cap z _ (h.below bA)).mono ?_
  rintro e w1 ⟨b, len', rfl, hbs, r1, k1⟩
  have hb1 : w.heap.size < b := by rw [hbs]; simp
  have z1 : w.heap.size < w1.heap.size := by have := k1.size; simp at this; omega
  have c1 := fun j => k1.cell (p := ⟨w.heap.size, j, none⟩) (by simp)
  have f1 := fun j => k1.frozen (p := ⟨w.heap.size, j, none⟩) (by simp)
  have bel1 := bA.trans (k1.mono (by simp))
  have hbl1 : b < w1.heap.size := blk r1.c0
  clear hbs k1
  go_wp2_with fail
  refine (stream_any b a len' cap z 0 _ r1 (by omega)).mono ?_
  rintro e w2 ⟨v, es, S, pv, ps, p2, rfl, hg, hm, hrow, hS, hpl, hpb, hp2, r2, k2⟩
  obtain ⟨va0, vc0, rfl⟩ := hm.slice
  obtain ⟨pa, pc, rfl⟩ := row_slice hrow
  have c2 := fun j => (k2.cell (p := ⟨w.heap.size, j, none⟩) z1 (by simp; omega)).trans (c1 j)
  have f2 := fun j => (k2.frozen (p := ⟨w.heap.size, j, none⟩) z1 (by simp; omega)).trans (f1 j)
  have e0 : w2.cell? ⟨w.heap.size, 0, none⟩ = some (.string ⟨#[]⟩) := by rw [c2 0]; simp
  have e1 : w2.cell? ⟨w.heap.size, 1, none⟩ = some (.slice none 0 0) := by rw [c2 1]; simp
  have ef : ∀ j, w2.frozen? ⟨w.heap.size, j, none⟩ = false := fun j => by rw [f2 j]; simp
  have bel2 := bel1.trans (k2.below (by omega) (by omega))
  have z2 : w1.heap.size ≤ w2.heap.size := k2.size
  have HR := (show Hid (w2.ownsRow w1.heap.size 36 2 (.slice pa ps.length pc) ps.length (cellsT ps)) from hrow)
  have HB := (show Hid (Below w.heap.size w w2) from bel2)
  clear c1 f1 c2 f2 r1 k2 hrow hm bel1 bel2 hg bA h
  have bA2 : Below w2.heap.size w2 (w2.alloc (.cells #[.string S, .slice pa ps.length pc] 25)) := (Below.refl _ _).alloc (Nat.le_refl _) _
  have hpk : Pk w (w2.alloc (.cells #[.string S, .slice pa ps.length pc] 25)) b a len' cap z p2 w2.heap.size w1.heap.size S (.slice pa ps.length pc) ps :=
    ⟨r2.below bA2, by simp, by simp, (bA2.cell (p := ⟨w.heap.size, 0, none⟩) (by simp; omega)).trans e0, (bA2.cell (p := ⟨w.heap.size, 1, none⟩) (by simp; omega)).trans e1, fun j => (bA2.frozen (p := ⟨w.heap.size, j, none⟩) (by simp; omega)).trans (ef j), by omega, hb1, hbl1, HR.out.alloc _, HB.out.trans (bA2.mono (by omega))⟩
  have HK := (show Hid (Pk w (w2.alloc (.cells #[.string S, .slice pa ps.length pc] 25)).drew b a len' cap z p2 w2.heap.size w1.heap.size S (.slice pa ps.length pc) ps) from hpk.drew)
  have z2' : w.heap.size < w2.heap.size := by omega
  have hwS : IntKind.i64.wrap ((S.size : Int) + 1) = (S.size : Int) + 1 := by simp [IntKind.wrap, IntKind.bits, IntKind.signed]; omega
  clear bA2 hpk e0 e1 ef HR HB r2
  go_upto_region 3 with fail
  have hsz8 : ps.length ≤ 40 ∧ ∀ q ∈ ps, q.2.size ≤ 8 := ⟨hpl, fun q hq => (hpb q hq).2⟩
  have hTx := txW_eight hsz8
  have KK := HK
  obtain ⟨OT, hOT⟩ : ∃ OT, txW ps = OT := ⟨_, rfl⟩
  rw [hOT] at hTx
  have HOT := (show Hid (txW ps = OT) from hOT)
  have HS8 := (show Hid (ps.length ≤ 40 ∧ ∀ q ∈ ps, q.2.size ≤ 8) from hsz8)
  have hwO : IntKind.i64.wrap ((OT.size : Int) + 1) = (OT.size : Int) + 1 := by simp [IntKind.wrap, IntKind.bits, IntKind.signed]; omega
  clear HK hwS hsz8 hOT
  have hmix : Tryz.prog.follows .mixedOrders = true := by kernel_rfl
  obtain ⟨PE, hPE⟩ : ∃ PE : Nat → World → Prop, PE = fun n W => ∃ p, p ≤ p2 + n ∧ Pk w W b a len' cap z p w2.heap.size w1.heap.size S (.slice pa ps.length pc) ps := ⟨_, rfl⟩
  obtain ⟨VV, hVV⟩ : ∃ VV : Int → Int → Nat → Value, VV = fun va vb j => [(.agg #[.string S, .slice pa ps.length pc] : Value), .pointer (some ⟨b, 0, none⟩), .agg #[.string S, .slice pa ps.length pc], .string OT, .int .i64 ((OT.size : Nat)), .int .i64 ((OT.size : Int) + 1), .int .i64 (va), .pointer (some ⟨b, 0, none⟩), .int .i64 (vb), .int .i64 (IntKind.i64.wrap (vb.tdiv 19)), .int .i64 (IntKind.i64.wrap (IntKind.i64.wrap (vb.tdiv 19) * 50)), .int .i64 (IntKind.i64.wrap (va + IntKind.i64.wrap (IntKind.i64.wrap (vb.tdiv 19) * 50))), undef, .int .i64 (IntKind.i64.wrap (va + IntKind.i64.wrap (IntKind.i64.wrap (vb.tdiv 19) * 50)))].getD j undef := ⟨_, rfl⟩
  have V0 : ∀ va vb, VV va vb 0 = .agg #[.string S, .slice pa ps.length pc] := fun va vb => by rw [hVV]; rfl
  have V1 : ∀ va vb, VV va vb 1 = .pointer (some ⟨b, 0, none⟩) := fun va vb => by rw [hVV]; rfl
  have V2 : ∀ va vb, VV va vb 2 = .agg #[.string S, .slice pa ps.length pc] := fun va vb => by rw [hVV]; rfl
  have V3 : ∀ va vb, VV va vb 3 = .string OT := fun va vb => by rw [hVV]; rfl
  have V4 : ∀ va vb, VV va vb 4 = .int .i64 ((OT.size : Nat)) := fun va vb => by rw [hVV]; rfl
  have V5 : ∀ va vb, VV va vb 5 = .int .i64 ((OT.size : Int) + 1) := fun va vb => by rw [hVV]; rfl
  have V6 : ∀ va vb, VV va vb 6 = .int .i64 (va) := fun va vb => by rw [hVV]; rfl
  have V7 : ∀ va vb, VV va vb 7 = .pointer (some ⟨b, 0, none⟩) := fun va vb => by rw [hVV]; rfl
  have V8 : ∀ va vb, VV va vb 8 = .int .i64 (vb) := fun va vb => by rw [hVV]; rfl
  have V9 : ∀ va vb, VV va vb 9 = .int .i64 (IntKind.i64.wrap (vb.tdiv 19)) := fun va vb => by rw [hVV]; rfl
  have V10 : ∀ va vb, VV va vb 10 = .int .i64 (IntKind.i64.wrap (IntKind.i64.wrap (vb.tdiv 19) * 50)) := fun va vb => by rw [hVV]; rfl
  have V11 : ∀ va vb, VV va vb 11 = .int .i64 (IntKind.i64.wrap (va + IntKind.i64.wrap (IntKind.i64.wrap (vb.tdiv 19) * 50))) := fun va vb => by rw [hVV]; rfl
  have V12 : ∀ va vb, VV va vb 12 = undef := fun va vb => by rw [hVV]; rfl
  have V13 : ∀ va vb, VV va vb 13 = .int .i64 (IntKind.i64.wrap (va + IntKind.i64.wrap (IntKind.i64.wrap (vb.tdiv 19) * 50))) := fun va vb => by rw [hVV]; rfl
  have VA : ∀ va vb va' j, j ≠ 6 → j ≠ 11 → j ≠ 13 → VV va vb j = VV va' vb j := by
    intro va vb va' j h1 h2 h3
    by_cases h14 : j < 14
    · have hc : j = 0 ∨ j = 1 ∨ j = 2 ∨ j = 3 ∨ j = 4 ∨ j = 5 ∨ j = 6 ∨ j = 7 ∨ j = 8 ∨ j = 9 ∨ j = 10 ∨ j = 11 ∨ j = 12 ∨ j = 13 := by omega
      rcases hc with rfl | rfl | rfl | rfl | rfl | rfl | rfl | rfl | rfl | rfl | rfl | rfl | rfl | rfl <;> first | (exact absurd rfl h1) | (exact absurd rfl h2) | (exact absurd rfl h3) | (rw [hVV]; rfl)
    · rw [hVV]; simp only []; rw [List.getD_eq_getElem?_getD, List.getD_eq_getElem?_getD, List.getElem?_eq_none (by simp; omega), List.getElem?_eq_none (by simp; omega)]
  have VB : ∀ va vb vb' j, j ≠ 8 → j ≠ 9 → j ≠ 10 → j ≠ 11 → j ≠ 13 → VV va vb j = VV va vb' j := by
    intro va vb vb' j h1 h2 h3 h4 h5
    by_cases h14 : j < 14
    · have hc : j = 0 ∨ j = 1 ∨ j = 2 ∨ j = 3 ∨ j = 4 ∨ j = 5 ∨ j = 6 ∨ j = 7 ∨ j = 8 ∨ j = 9 ∨ j = 10 ∨ j = 11 ∨ j = 12 ∨ j = 13 := by omega
      rcases hc with rfl | rfl | rfl | rfl | rfl | rfl | rfl | rfl | rfl | rfl | rfl | rfl | rfl | rfl <;> first | (exact absurd rfl h1) | (exact absurd rfl h2) | (exact absurd rfl h3) | (exact absurd rfl h4) | (exact absurd rfl h5) | (rw [hVV]; rfl)
    · rw [hVV]; simp only []; rw [List.getD_eq_getElem?_getD, List.getD_eq_getElem?_getD, List.getElem?_eq_none (by simp; omega), List.getElem?_eq_none (by simp; omega)]
  clear hVV
  have hK0 : PE 0 (w2.alloc (.cells #[.string S, .slice pa ps.length pc] 25)).drew := by rw [hPE]; exact ⟨p2, by omega, KK.out⟩
  have HK0 := (show Hid _ from hK0)
  clear hK0 KK
  refine wp_region_any hmix ?_
  refine Ri.any_inv (I := fun l a' w' => l.size = 14 ∧ ∃ (t : Nat → Value) (va vb : Int), a' = { tmps := #[.slice a len cap, undef, .pointer (some ⟨w.heap.size, 0, none⟩), t 13, .pointer (some ⟨b, 0, none⟩), .slice va0 es.length vc0, .pointer (some ⟨w2.heap.size, 0, none⟩), .slice a len cap, .pointer (some ⟨b, 0, none⟩), .tuple #[.slice va0 es.length vc0, .agg #[.string S, .slice pa ps.length pc]], .pointer (some ⟨b, 0, none⟩), .tuple #[.slice va0 es.length vc0, .agg #[.string S, .slice pa ps.length pc]], .slice va0 es.length vc0, .agg #[.string S, .slice pa ps.length pc], t 0, t 1, t 2, t 3, t 4, t 5, t 6, t 7, t 8, t 9, t 10, t 11], defers := [] } ∧ Rg.Vals l (VV va vb) t ∧ PhB (PE (cntB l)) (fun W => (W.setCell ⟨w.heap.size, 0, none⟩ (.string S)).setCell ⟨w.heap.size, 1, none⟩ (.slice pa ps.length pc)) (l.getD 12 false) w') ?sz ?low ?step ?fin _ _ _ _ ?start (Ri.closed_none _ _ _) (Rg.left_all _)
  case sz => exact fun l a' w' h => h.1
  case start => exact ⟨by simp, fun j => ([undef, undef, undef, undef, undef, undef, undef, undef, undef, undef, undef, undef, undef, .int .i64 0] : List Value).getD j undef, 0, 0, rfl, Rg.vals_none _ _ _, by rw [Rg.rep_none]; unfold cntB; rw [Rg.rep_none, Rg.rep_none]; exact HK0.out⟩
  case low => exact Ri.low_of (by kernel_rfl)
  case step =>
    rintro l a' w' i ⟨hsz, t, va, vb, rfl, hv, hw⟩ hcl hi
    obtain ⟨h0, op, ho, hd⟩ := mem_ready.1 hi
    have hin : i < 14 := (Array.getElem?_eq_some_iff.1 ho).1
    have hnl := Rg.not_listed h0
    have hL12 : l.getD 12 false = true → ∀ j, j < 9 → l.getD j false = true := Ri.up_of (by kernel_rfl) hcl
    have hup := fun n m hB h => @Ri.reach_sound _ _ _ hcl 10 n m hB h
    clear h0 hi
    have hc : i = 0 ∨ i = 1 ∨ i = 2 ∨ i = 3 ∨ i = 4 ∨ i = 5 ∨ i = 6 ∨ i = 7 ∨ i = 8 ∨ i = 9 ∨ i = 10 ∨ i = 11 ∨ i = 12 ∨ i = 13 := by omega
    rcases hc with rfl | rfl | rfl | rfl | rfl | rfl | rfl | rfl | rfl | rfl | rfl | rfl | rfl | rfl
    · obtain rfl : _ = op := Option.some.inj (show some _ = some op from ho)
      have q12 : l.getD 12 false = false := by
        cases q : l.getD 12 false
        · rfl
        · rw [hL12 q 0 (by omega)] at hnl; cases hnl
      rw [q12] at hw
      have hP : PE (cntB l) w' := hw
      have HP := (show Hid _ from hP)
      rw [hPE] at hP
      obtain ⟨p, hp, hk⟩ := hP
      have hc2 := cntB_le l
      have c0 := hk.x0
      have c1 := hk.x1
      have HKK2 := (show Hid _ from hk)
      have HV := (show Hid (Rg.Vals l (VV va vb) t) from hv)
      clear hv hd ho hw hk hcl hup
      refine wpOp_step rfl fun K9 hK9 => ?_
      have HKK := (show Hid _ from hK9)
      clear hK9
      go_simp
      exact HKK.out _ _ ⟨by simp [hsz], fun j => if j = 0 then .agg #[.string S, .slice pa ps.length pc] else t j, va, vb, by simp, HV.out.put 0 _ (V0 _ _).symm, by rw [getD_set_ne false (by omega), q12, cntB_ne (by omega) (by omega)]; exact HP.out⟩
    · obtain rfl : _ = op := Option.some.inj (show some _ = some op from ho)
      have q12 : l.getD 12 false = false := by
        cases q : l.getD 12 false
        · rfl
        · rw [hL12 q 1 (by omega)] at hnl; cases hnl
      rw [q12] at hw
      have hP : PE (cntB l) w' := hw
      have HP := (show Hid _ from hP)
      rw [hPE] at hP
      obtain ⟨p, hp, hk⟩ := hP
      have hc2 := cntB_le l
      have c0 := hk.x0
      have c1 := hk.x1
      have HKK2 := (show Hid _ from hk)
      have HV := (show Hid (Rg.Vals l (VV va vb) t) from hv)
      clear hv hd ho hw hk hcl hup
      refine wpOp_step rfl fun K9 hK9 => ?_
      have HKK := (show Hid _ from hK9)
      clear hK9
      go_simp
      exact HKK.out _ _ ⟨by simp [hsz], fun j => if j = 1 then .pointer (some ⟨b, 0, none⟩) else t j, va, vb, by simp, HV.out.put 1 _ (V1 _ _).symm, by rw [getD_set_ne false (by omega), q12, cntB_ne (by omega) (by omega)]; exact HP.out⟩
    · obtain rfl : _ = op := Option.some.inj (show some _ = some op from ho)
      have q12 : l.getD 12 false = false := by
        cases q : l.getD 12 false
        · rfl
        · rw [hL12 q 2 (by omega)] at hnl; cases hnl
      rw [q12] at hw
      have hP : PE (cntB l) w' := hw
      have HP := (show Hid _ from hP)
      rw [hPE] at hP
      obtain ⟨p, hp, hk⟩ := hP
      have hc2 := cntB_le l
      have c0 := hk.x0
      have c1 := hk.x1
      have HKK2 := (show Hid _ from hk)
      have HV := (show Hid (Rg.Vals l (VV va vb) t) from hv)
      clear hv hd ho hw hk hcl hup
      refine wpOp_step rfl fun K9 hK9 => ?_
      have HKK := (show Hid _ from hK9)
      clear hK9
      go_simp
      exact HKK.out _ _ ⟨by simp [hsz], fun j => if j = 2 then .agg #[.string S, .slice pa ps.length pc] else t j, va, vb, by simp, HV.out.put 2 _ (V2 _ _).symm, by rw [getD_set_ne false (by omega), q12, cntB_ne (by omega) (by omega)]; exact HP.out⟩
    · obtain rfl : _ = op := Option.some.inj (show some _ = some op from ho)
      have e2 : t 2 = .agg #[.string S, .slice pa ps.length pc] := (hv 2 (hd { on := 2, ground := .data } (by simp) rfl)).trans (V2 va vb)
      have q12 : l.getD 12 false = false := by
        cases q : l.getD 12 false
        · rfl
        · rw [hL12 q 3 (by omega)] at hnl; cases hnl
      rw [q12] at hw
      have hP : PE (cntB l) w' := hw
      have HP := (show Hid _ from hP)
      rw [hPE] at hP
      obtain ⟨p, hp, hk⟩ := hP
      have hc2 := cntB_le l
      have c0 := hk.x0
      have c1 := hk.x1
      have HKK2 := (show Hid _ from hk)
      have HV := (show Hid (Rg.Vals l (VV va vb) t) from hv)
      clear hv hd ho hw hk hcl hup
      refine wpOp_step rfl fun K9 hK9 => ?_
      have HKK := (show Hid _ from hK9)
      clear hK9
      go_simp
      refine (HKK2.out.outs HS8.out OT HOT.out).mono ?_
      rintro e w9 ⟨rfl, hk9, -, -, -, -, -⟩
      refine HKK.out _ _ ⟨by simp [hsz], fun j => if j = 3 then .string OT else t j, va, vb, by simp [e2], HV.out.put 3 _ (V3 _ _).symm, ?_⟩
      rw [getD_set_ne false (by omega), q12, cntB_ne (by omega) (by omega)]
      show PE _ w9
      rw [hPE]; exact ⟨p, hp, hk9.out⟩
    · obtain rfl : _ = op := Option.some.inj (show some _ = some op from ho)
      have e3 : t 3 = .string OT := (hv 3 (hd { on := 3, ground := .data } (by simp) rfl)).trans (V3 va vb)
      have q12 : l.getD 12 false = false := by
        cases q : l.getD 12 false
        · rfl
        · rw [hL12 q 4 (by omega)] at hnl; cases hnl
      rw [q12] at hw
      have hP : PE (cntB l) w' := hw
      have HP := (show Hid _ from hP)
      rw [hPE] at hP
      obtain ⟨p, hp, hk⟩ := hP
      have hc2 := cntB_le l
      have c0 := hk.x0
      have c1 := hk.x1
      have HKK2 := (show Hid _ from hk)
      have HV := (show Hid (Rg.Vals l (VV va vb) t) from hv)
      clear hv hd ho hw hk hcl hup
      refine wpOp_step rfl fun K9 hK9 => ?_
      have HKK := (show Hid _ from hK9)
      clear hK9
      go_simp
      exact HKK.out _ _ ⟨by simp [hsz], fun j => if j = 4 then .int .i64 ((OT.size : Nat)) else t j, va, vb, by simp [e3], HV.out.put 4 _ (V4 _ _).symm, by rw [getD_set_ne false (by omega), q12, cntB_ne (by omega) (by omega)]; exact HP.out⟩
    · obtain rfl : _ = op := Option.some.inj (show some _ = some op from ho)
      have e4 : t 4 = .int .i64 ((OT.size : Nat)) := (hv 4 (hd { on := 4, ground := .data } (by simp) rfl)).trans (V4 va vb)
      have q12 : l.getD 12 false = false := by
        cases q : l.getD 12 false
        · rfl
        · rw [hL12 q 5 (by omega)] at hnl; cases hnl
      rw [q12] at hw
      have hP : PE (cntB l) w' := hw
      have HP := (show Hid _ from hP)
      rw [hPE] at hP
      obtain ⟨p, hp, hk⟩ := hP
      have hc2 := cntB_le l
      have c0 := hk.x0
      have c1 := hk.x1
      have HKK2 := (show Hid _ from hk)
      have HV := (show Hid (Rg.Vals l (VV va vb) t) from hv)
      clear hv hd ho hw hk hcl hup
      refine wpOp_step rfl fun K9 hK9 => ?_
      have HKK := (show Hid _ from hK9)
      clear hK9
      go_simp
      exact HKK.out _ _ ⟨by simp [hsz], fun j => if j = 5 then .int .i64 ((OT.size : Int) + 1) else t j, va, vb, by simp [e4, hwO], HV.out.put 5 _ (V5 _ _).symm, by rw [getD_set_ne false (by omega), q12, cntB_ne (by omega) (by omega)]; exact HP.out⟩
    · obtain rfl : _ = op := Option.some.inj (show some _ = some op from ho)
      have e1 : t 1 = .pointer (some ⟨b, 0, none⟩) := (hv 1 (hd { on := 1, ground := .data } (by simp) rfl)).trans (V1 va vb)
      have e5 : t 5 = .int .i64 ((OT.size : Int) + 1) := (hv 5 (hd { on := 5, ground := .data } (by simp) rfl)).trans (V5 va vb)
      have q12 : l.getD 12 false = false := by
        cases q : l.getD 12 false
        · rfl
        · rw [hL12 q 6 (by omega)] at hnl; cases hnl
      rw [q12] at hw
      have hP : PE (cntB l) w' := hw
      have HP := (show Hid _ from hP)
      rw [hPE] at hP
      obtain ⟨p, hp, hk⟩ := hP
      have hc2 := cntB_le l
      have c0 := hk.x0
      have c1 := hk.x1
      have HKK2 := (show Hid _ from hk)
      have HV := (show Hid (Rg.Vals l (VV va vb) t) from hv)
      have n11 : l.getD 11 false = false := by
        cases q : l.getD 11 false
        · rfl
        · rw [hup 11 6 (by kernel_rfl) q] at hnl; cases hnl
      have n13 : l.getD 13 false = false := by
        cases q : l.getD 13 false
        · rfl
        · rw [hup 13 6 (by kernel_rfl) q] at hnl; cases hnl
      clear hv hd ho hw hk hcl hup
      refine wpOp_step rfl fun K9 hK9 => ?_
      have HKK := (show Hid _ from hK9)
      clear hK9
      go_simp
      refine (HKK2.out.pick (by omega) _ (by omega)).mono ?_
      rintro e w9 ⟨x9, rfl, h90, h91, hk9, -, -, -, -, -⟩
      refine HKK.out _ _ ⟨by simp [hsz], fun j => if j = 6 then .int .i64 x9 else t j, x9, vb, by simp [e1, e5], ?_, ?_⟩
      · have hv9 : Rg.Vals l (VV x9 vb) t := fun j hj => by
          have d : ∀ n, l.getD n false = false → j ≠ n := fun n hn e => by rw [e] at hj; rw [hn] at hj; cases hj
          rw [← VA va vb x9 j (d 6 hnl) (d 11 n11) (d 13 n13)]; exact HV.out j hj
        exact hv9.put 6 _ (V6 _ _).symm
      · rw [getD_set_ne false (by omega), q12]
        show PE _ w9
        rw [hPE, cntB_6 hnl (by omega)]
        exact ⟨p + 1, by omega, hk9.out⟩
    · obtain rfl : _ = op := Option.some.inj (show some _ = some op from ho)
      have q12 : l.getD 12 false = false := by
        cases q : l.getD 12 false
        · rfl
        · rw [hL12 q 7 (by omega)] at hnl; cases hnl
      rw [q12] at hw
      have hP : PE (cntB l) w' := hw
      have HP := (show Hid _ from hP)
      rw [hPE] at hP
      obtain ⟨p, hp, hk⟩ := hP
      have hc2 := cntB_le l
      have c0 := hk.x0
      have c1 := hk.x1
      have HKK2 := (show Hid _ from hk)
      have HV := (show Hid (Rg.Vals l (VV va vb) t) from hv)
      clear hv hd ho hw hk hcl hup
      refine wpOp_step rfl fun K9 hK9 => ?_
      have HKK := (show Hid _ from hK9)
      clear hK9
      go_simp
      exact HKK.out _ _ ⟨by simp [hsz], fun j => if j = 7 then .pointer (some ⟨b, 0, none⟩) else t j, va, vb, by simp, HV.out.put 7 _ (V7 _ _).symm, by rw [getD_set_ne false (by omega), q12, cntB_ne (by omega) (by omega)]; exact HP.out⟩
    · obtain rfl : _ = op := Option.some.inj (show some _ = some op from ho)
      have e7 : t 7 = .pointer (some ⟨b, 0, none⟩) := (hv 7 (hd { on := 7, ground := .data } (by simp) rfl)).trans (V7 va vb)
      have q12 : l.getD 12 false = false := by
        cases q : l.getD 12 false
        · rfl
        · rw [hL12 q 8 (by omega)] at hnl; cases hnl
      rw [q12] at hw
      have hP : PE (cntB l) w' := hw
      have HP := (show Hid _ from hP)
      rw [hPE] at hP
      obtain ⟨p, hp, hk⟩ := hP
      have hc2 := cntB_le l
      have c0 := hk.x0
      have c1 := hk.x1
      have HKK2 := (show Hid _ from hk)
      have HV := (show Hid (Rg.Vals l (VV va vb) t) from hv)
      have n9 : l.getD 9 false = false := by
        cases q : l.getD 9 false
        · rfl
        · rw [hup 9 8 (by kernel_rfl) q] at hnl; cases hnl
      have n10 : l.getD 10 false = false := by
        cases q : l.getD 10 false
        · rfl
        · rw [hup 10 8 (by kernel_rfl) q] at hnl; cases hnl
      have n11 : l.getD 11 false = false := by
        cases q : l.getD 11 false
        · rfl
        · rw [hup 11 8 (by kernel_rfl) q] at hnl; cases hnl
      have n13 : l.getD 13 false = false := by
        cases q : l.getD 13 false
        · rfl
        · rw [hup 13 8 (by kernel_rfl) q] at hnl; cases hnl
      clear hv hd ho hw hk hcl hup
      refine wpOp_step rfl fun K9 hK9 => ?_
      have HKK := (show Hid _ from hK9)
      clear hK9
      go_simp
      refine (HKK2.out.pick (by omega) _ (by omega)).mono ?_
      rintro e w9 ⟨x9, rfl, h90, h91, hk9, -, -, -, -, -⟩
      refine HKK.out _ _ ⟨by simp [hsz], fun j => if j = 8 then .int .i64 x9 else t j, va, x9, by simp [e7], ?_, ?_⟩
      · have hv9 : Rg.Vals l (VV va x9) t := fun j hj => by
          have d : ∀ n, l.getD n false = false → j ≠ n := fun n hn e => by rw [e] at hj; rw [hn] at hj; cases hj
          rw [← VB va vb x9 j (d 8 hnl) (d 9 n9) (d 10 n10) (d 11 n11) (d 13 n13)]; exact HV.out j hj
        exact hv9.put 8 _ (V8 _ _).symm
      · rw [getD_set_ne false (by omega), q12]
        show PE _ w9
        rw [hPE, cntB_8 hnl (by omega)]
        exact ⟨p + 1, by omega, hk9.out⟩
    · obtain rfl : _ = op := Option.some.inj (show some _ = some op from ho)
      have e8 : t 8 = .int .i64 (vb) := (hv 8 (hd { on := 8, ground := .data } (by simp) rfl)).trans (V8 va vb)
      have HW := (show Hid _ from hw)
      have HV := (show Hid (Rg.Vals l (VV va vb) t) from hv)
      clear hv hd ho hw hcl hup
      refine wpOp_step rfl fun K9 hK9 => ?_
      have HKK := (show Hid _ from hK9)
      clear hK9
      go_simp
      exact HKK.out _ _ ⟨by simp [hsz], fun j => if j = 9 then .int .i64 (IntKind.i64.wrap (vb.tdiv 19)) else t j, va, vb, by simp [e8], HV.out.put 9 _ (V9 _ _).symm, by rw [getD_set_ne false (by omega), cntB_ne (by omega) (by omega)]; exact HW.out⟩
    · obtain rfl : _ = op := Option.some.inj (show some _ = some op from ho)
      have e9 : t 9 = .int .i64 (IntKind.i64.wrap (vb.tdiv 19)) := (hv 9 (hd { on := 9, ground := .data } (by simp) rfl)).trans (V9 va vb)
      have HW := (show Hid _ from hw)
      have HV := (show Hid (Rg.Vals l (VV va vb) t) from hv)
      clear hv hd ho hw hcl hup
      refine wpOp_step rfl fun K9 hK9 => ?_
      have HKK := (show Hid _ from hK9)
      clear hK9
      go_simp
      exact HKK.out _ _ ⟨by simp [hsz], fun j => if j = 10 then .int .i64 (IntKind.i64.wrap (IntKind.i64.wrap (vb.tdiv 19) * 50)) else t j, va, vb, by simp [e9], HV.out.put 10 _ (V10 _ _).symm, by rw [getD_set_ne false (by omega), cntB_ne (by omega) (by omega)]; exact HW.out⟩
    · obtain rfl : _ = op := Option.some.inj (show some _ = some op from ho)
      have e6 : t 6 = .int .i64 (va) := (hv 6 (hd { on := 6, ground := .data } (by simp) rfl)).trans (V6 va vb)
      have e10 : t 10 = .int .i64 (IntKind.i64.wrap (IntKind.i64.wrap (vb.tdiv 19) * 50)) := (hv 10 (hd { on := 10, ground := .data } (by simp) rfl)).trans (V10 va vb)
      have HW := (show Hid _ from hw)
      have HV := (show Hid (Rg.Vals l (VV va vb) t) from hv)
      clear hv hd ho hw hcl hup
      refine wpOp_step rfl fun K9 hK9 => ?_
      have HKK := (show Hid _ from hK9)
      clear hK9
      go_simp
      exact HKK.out _ _ ⟨by simp [hsz], fun j => if j = 11 then .int .i64 (IntKind.i64.wrap (va + IntKind.i64.wrap (IntKind.i64.wrap (vb.tdiv 19) * 50))) else t j, va, vb, by simp [e6, e10], HV.out.put 11 _ (V11 _ _).symm, by rw [getD_set_ne false (by omega), cntB_ne (by omega) (by omega)]; exact HW.out⟩
    · obtain rfl : _ = op := Option.some.inj (show some _ = some op from ho)
      have e0 : t 0 = .agg #[.string S, .slice pa ps.length pc] := (hv 0 (hd { on := 0, ground := .data } (by simp) rfl)).trans (V0 va vb)
      rw [hnl] at hw
      have hP : PE (cntB l) w' := hw
      have HP := (show Hid _ from hP)
      rw [hPE] at hP
      obtain ⟨p, hp, hk⟩ := hP
      have c0 := hk.r0
      have c1 := hk.r1
      have cf := hk.rf
      have HV := (show Hid (Rg.Vals l (VV va vb) t) from hv)
      clear hv hd ho hw hk hcl hup
      refine wpOp_step rfl fun K9 hK9 => ?_
      have HKK := (show Hid _ from hK9)
      clear hK9
      go_simp
      refine HKK.out _ _ ⟨by simp [hsz], fun j => if j = 12 then undef else t j, va, vb, by simp [e0], HV.out.put 12 _ (V12 _ _).symm, ?_⟩
      rw [Rg.set_same (by omega), cntB_ne (by omega) (by omega)]
      exact ⟨w', HP.out, rfl⟩
    · obtain rfl : _ = op := Option.some.inj (show some _ = some op from ho)
      have e11 : t 11 = .int .i64 (IntKind.i64.wrap (va + IntKind.i64.wrap (IntKind.i64.wrap (vb.tdiv 19) * 50))) := (hv 11 (hd { on := 11, ground := .data } (by simp) rfl)).trans (V11 va vb)
      have HW := (show Hid _ from hw)
      have HV := (show Hid (Rg.Vals l (VV va vb) t) from hv)
      clear hv hd ho hw hcl hup
      refine wpOp_step rfl fun K9 hK9 => ?_
      have HKK := (show Hid _ from hK9)
      clear hK9
      go_simp
      exact HKK.out _ _ ⟨by simp [hsz], fun j => if j = 13 then .int .i64 (IntKind.i64.wrap (va + IntKind.i64.wrap (IntKind.i64.wrap (vb.tdiv 19) * 50))) else t j, va, vb, by simp [e11], HV.out.put 13 _ (V13 _ _).symm, by rw [getD_set_ne false (by omega), cntB_ne (by omega) (by omega)]; exact HW.out⟩
  case fin =>
    rintro l a' w' ⟨hsz, t, va, vb, rfl, hv, hw⟩ hall
    rw [hall 12 (by simp)] at hw
    obtain ⟨W, hP, rfl⟩ := hw
    rw [hPE] at hP
    obtain ⟨p, hp, hk⟩ := hP
    have e13 : t 13 = .int .i64 (IntKind.i64.wrap (va + IntKind.i64.wrap (IntKind.i64.wrap (vb.tdiv 19) * 50))) := (hv 13 (hall 13 (by simp))).trans (V13 va vb)
    rw [e13]
    clear hv hall e13
    obtain ⟨r0, r1⟩ := set_two hk.r0 hk.r1 (.string S) (.slice pa ps.length pc)
    go_wp2
    refine bodyPost_ret (v := .tuple #[.agg #[.string S, .slice pa ps.length pc], .int .i64 (IntKind.i64.wrap (va + IntKind.i64.wrap (IntKind.i64.wrap (vb.tdiv 19) * 50)))]) (by simp [results, Tryz.results8, go_sem, r0, r1]; done) rfl ?_
    obtain ⟨i1, i2⟩ := hk.fin (.string S) (.slice pa ps.length pc)
    exact ⟨S, _, ps, _, rfl, i1, ⟨hS, hpl, hpb⟩, i2⟩
end Go.Proofs.YtcpdkicmmhnpcabGreatDoor.StP

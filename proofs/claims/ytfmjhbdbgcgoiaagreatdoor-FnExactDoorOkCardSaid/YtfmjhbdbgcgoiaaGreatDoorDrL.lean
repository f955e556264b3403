/- Walks: a doorway of a door, by the program; and whether it is ok. -/
import Derived.Test.YtfmjhbdbgcgoiaaGreatDoorDrK
import Derived.Test.YtfmjhbdbgcgoiaaGreatDoorAp
import Derived.Deep.Cut
namespace Go.Proofs.YtfmjhbdbgcgoiaaGreatDoor.DrI
open Go.RowKit Go.Shelf Go.Proofs.YtfmjhbdbgcgoiaaGreatDoor.Kit Go.Proofs.YtfmjhbdbgcgoiaaGreatDoor.St Go.Proofs.YtfmjhbdbgcgoiaaGreatDoor.App Go.Proofs.YtfmjhbdbgcgoiaaGreatDoor.Mp Go.Proofs.YtfmjhbdbgcgoiaaGreatDoor.Mm Go.Proofs.YtfmjhbdbgcgoiaaGreatDoor.Ms Go.Proofs.YtfmjhbdbgcgoiaaGreatDoor.Dr Go.Proofs.YtfmjhbdbgcgoiaaGreatDoor.DrP Go.Proofs.YtfmjhbdbgcgoiaaGreatDoor.EndW Go.Proofs.YtfmjhbdbgcgoiaaGreatDoor.Ap
open Go.Proofs.YtfmjhbdbgcgoiaaGreatDoor.Read (Errs)
set_option linter.unusedSimpArgs false
set_option linter.unusedVariables false

theorem cells_one (a b c d : Int) (us ds : ByteArray) (x y : Option Addr) (n n' k k' : Nat) : ∀ u ∈ ([.int .i64 a, .int .i64 b, .int .i64 c, .int .i64 d, .string us, .slice x n k, .string ds, .slice y n' k'] : List Value), u.oneCell' = true := by
  intro u hu
  simp at hu
  rcases hu with rfl | rfl | rfl | rfl | rfl | rfl | rfl | rfl <;> rfl
theorem take_snoc {rs : List RF} {k : Nat} {r : RF} (h : rs[k]? = some r) : cellsF (rs.take (k + 1)) = cellsF (rs.take k) ++ r.cells := by
  rw [List.take_add_one, h]; exact cellsF_snoc _ _
set_option maxRecDepth 8000 in
set_option maxHeartbeats 16000000 in
theorem doorwayOf_any (m : List (Int × Int × Int)) (mv fv : Value) (rs : List RF) (W : World) (hM : IsM W mv m) (hF : IsF W fv rs) (hn : rs.length ≤ 1073741824) :
    Calls Tryz.prog 31 #[.agg #[mv, fv]] W fun e W' => e = .returned (.pointer (some ⟨W.heap.size + 1, 0, none⟩)) ∧
      (∃ v, W'.heap[W.heap.size + 1]? = some (.cells #[mv, v] 97 (0, 0)) ∧ W'.ownsRow (W.heap.size + 2) 101 8 v rs.length (cellsF rs)) ∧ Below W.heap.size W W' := by
  obtain ⟨i0, hi0, hz0, hz1, hz2⟩ := info_parts infoG
  have bA : Below W.heap.size W ((W.alloc (.cells #[mv, fv] 31)).alloc (.cells #[mv, .slice none 0 0] 97)) := ((Below.refl _ _).alloc (Nat.le_refl _) _).alloc (by simp) _
  have hD0 : ((W.alloc (.cells #[mv, fv] 31)).alloc (.cells #[mv, .slice none 0 0] 97)).heap[W.heap.size + 1]? = some (.cells #[mv, .slice none 0 0] 97 (0, 0)) := by
    have := World.alloc_heap_new (W.alloc (.cells #[mv, fv] 31)) (.cells #[mv, .slice none 0 0] 97)
    rw [World.size_alloc] at this; exact this
  obtain ⟨⟨fa, fc, rfl, hc, hcm, hr⟩, hg⟩ := hF
  obtain ⟨ma, mc, rfl⟩ := isM_slice hM
  go_enter Tryz.func31, Tryz.ntmps31
  go_wp2
  generalize ((W.alloc (.cells #[.slice ma m.length mc, .slice fa rs.length fc] 31)).alloc (.cells #[.slice ma m.length mc, .slice none 0 0] 97)) = w1 at *
  obtain ⟨D, hDe⟩ : ∃ D, W.heap.size + 1 = D := ⟨_, rfl⟩
  rw [hDe] at hD0
  have hRow0 : w1.ownsRow (D + 1) 101 8 (.slice none 0 0) 0 [] := World.ownsRow_nil _ _ _ _
  have hDW : W.heap.size ≤ D := by omega
  have HR := (show Hid (∀ (e : Ending) (W' : World), ((e = .returned (.pointer (some ⟨D, 0, none⟩)) ∧ (∃ v, W'.heap[D]? = some (.cells #[.slice ma m.length mc, v] 97 (0, 0)) ∧ W'.ownsRow (D + 1) 101 8 v rs.length (cellsF rs)) ∧ Below W.heap.size W W')) → (e = .returned (.pointer (some ⟨W.heap.size + 1, 0, none⟩)) ∧ (∃ v, W'.heap[W.heap.size + 1]? = some (.cells #[.slice ma m.length mc, v] 97 (0, 0)) ∧ W'.ownsRow (W.heap.size + 2) 101 8 v rs.length (cellsF rs)) ∧ Below W.heap.size W W')) from fun e W' h => by subst hDe; exact h)
  try simp only [hDe]
  go_loopw [13] (fun i wr => ∃ (k : Nat) (v : Value), k ≤ rs.length ∧ i = .int .i64 k ∧ wr.heap[D]? = some (.cells #[.slice ma m.length mc, v] 97 (0, 0)) ∧ wr.ownsRow (D + 1) 101 8 v k (cellsF (rs.take k)) ∧ Below W.heap.size W wr) (fun i wr => rs.length - (intOf i).toNat)
  case atStart => exact ⟨0, .slice none 0 0, Nat.zero_le _, rfl, hD0, hRow0, bA⟩
  case round =>
    obtain ⟨k, v, hk, rfl, hD, hrow, hb⟩ := hrel
    by_cases hlt : k < rs.length
    · have hlt' : (k : Int) < (rs.length : Int) := by omega
      have hp : rs[k]? = some rs[k] := List.getElem?_eq_getElem hlt
      rcases hr with rfl | ⟨g, o, rfl, hat⟩
      · simp at hp
      obtain ⟨x0, x1, x2, x3, x4, x5, x6, x7⟩ := (hat k _ hp).below hb
      obtain ⟨g1, g2⟩ := hg _ (List.mem_of_getElem? hp)
      have hts := take_snoc hp
      generalize rs[k] = r at hp x0 x1 x2 x3 x4 x5 x6 x7 g1 g2 hts
      obtain ⟨a, b, c, d, us, uv, up, ds, dv, dn⟩ := r
      simp only at x0 x1 x2 x3 x4 x5 x6 x7 g1 g2
      obtain ⟨ua, uc, rfl, -⟩ := g1
      obtain ⟨da, dc, rfl, -⟩ := g2
      obtain ⟨va, vc, rfl⟩ := row_slice hrow
      have HTS := (show Hid (cellsF (rs.take (k + 1)) = cellsF (rs.take k) ++ [.int .i64 a, .int .i64 b, .int .i64 c, .int .i64 d, .string us, .slice ua up.length uc, .string ds, .slice da dn.length dc]) from hts)
      have hDl := lt_ob hD
      have bN : Below wr.heap.size wr (wr.alloc (.cells #[.int .i64 a, .int .i64 b, .int .i64 c, .int .i64 d, .string us, .slice ua up.length uc, .string ds, .slice da dn.length dc] 56)) := (Below.refl _ _).alloc (Nat.le_refl _) _
      have hN : (wr.alloc (.cells #[.int .i64 a, .int .i64 b, .int .i64 c, .int .i64 d, .string us, .slice ua up.length uc, .string ds, .slice da dn.length dc] 56)).heap[wr.heap.size]? = some (ob8 56 (.int .i64 a) (.int .i64 b) (.int .i64 c) (.int .i64 d) (.string us) (.slice ua up.length uc) (.string ds) (.slice da dn.length dc)) := World.alloc_heap_new _ _
      have hDn := (bN.block D hDl).trans hD
      have HRW := row_below hrow bN
      have HBN := (show Hid (Below W.heap.size W _) from hb.trans (bN.mono hb.size))
      clear hts hat hg hp hD hrow bN hD0 hRow0 bA hM hb
      go_upto_region 5 with fail
      clear x0 x1 x2 x3 x4 x5 x6 x7
      generalize (wr.alloc (.cells #[.int .i64 a, .int .i64 b, .int .i64 c, .int .i64 d, .string us, .slice ua up.length uc, .string ds, .slice da dn.length dc] 56)) = W0 at *
      generalize wr.heap.size = F at *
      obtain ⟨n0, n1, n2, n3, n4, n5, n6, n7, nf⟩ := ob8_in hN
      have lF := lt_ob hN
      have lD := lt_ob hDn
      have d1 : W0.cell? ⟨D, 1, none⟩ = some (.slice va k vc) := by simp [World.cell?, hDn]
      have df : ∀ j, W0.frozen? ⟨D, j, none⟩ = false := fun j => by simp [World.frozen?, hDn]
      have hnb : (Value.slice va k vc).ownBlock ≠ some D := fun q => by have := (HRW.lt D q).1; omega
      have HDN := (show Hid (W0.heap[D]? = some (.cells #[.slice ma m.length mc, .slice va k vc] 97 (0, 0))) from hDn)
      have HRN := (show Hid (W0.ownsRow (D + 1) 101 8 (.slice va k vc) k (cellsF (rs.take k))) from HRW)
      clear hN hDn HRW
      have hmix : Tryz.prog.follows .mixedOrders = true := by kernel_rfl
      obtain ⟨VV, hVV⟩ : ∃ VV : Nat → Value, VV = fun j => [(.pointer (some ⟨D, 0, none⟩) : Value), .pointer (some ⟨D, 0, none⟩), .pointer (some ⟨D, 0, none⟩), .pointer (some ⟨D, 1, none⟩), .slice va k vc, .agg #[.int .i64 a, .int .i64 b, .int .i64 c, .int .i64 d, .string us, .slice ua up.length uc, .string ds, .slice da dn.length dc], .agg #[.int .i64 a, .int .i64 b, .int .i64 c, .int .i64 d, .string us, .slice ua up.length uc, .string ds, .slice da dn.length dc], undef, undef, .pointer (some ⟨D, 0, none⟩), .pointer (some ⟨D, 1, none⟩), undef].getD j undef := ⟨_, rfl⟩
      have V0 : VV 0 = .pointer (some ⟨D, 0, none⟩) := by rw [hVV]; rfl
      have V1 : VV 1 = .pointer (some ⟨D, 0, none⟩) := by rw [hVV]; rfl
      have V2 : VV 2 = .pointer (some ⟨D, 0, none⟩) := by rw [hVV]; rfl
      have V3 : VV 3 = .pointer (some ⟨D, 1, none⟩) := by rw [hVV]; rfl
      have V4 : VV 4 = .slice va k vc := by rw [hVV]; rfl
      have V5 : VV 5 = .agg #[.int .i64 a, .int .i64 b, .int .i64 c, .int .i64 d, .string us, .slice ua up.length uc, .string ds, .slice da dn.length dc] := by rw [hVV]; rfl
      have V6 : VV 6 = .agg #[.int .i64 a, .int .i64 b, .int .i64 c, .int .i64 d, .string us, .slice ua up.length uc, .string ds, .slice da dn.length dc] := by rw [hVV]; rfl
      have V7 : VV 7 = undef := by rw [hVV]; rfl
      have V8 : VV 8 = undef := by rw [hVV]; rfl
      have V9 : VV 9 = .pointer (some ⟨D, 0, none⟩) := by rw [hVV]; rfl
      have V10 : VV 10 = .pointer (some ⟨D, 1, none⟩) := by rw [hVV]; rfl
      have V11 : VV 11 = undef := by rw [hVV]; rfl
      clear hVV
      refine wp_region_any hmix ?_
      refine Ri.any_inv (I := fun l a' w' => l.size = 12 ∧ ∃ (t : Nat → Value) (x y : Value), a' = { tmps := #[(Value.agg #[Value.slice ma m.length mc, Value.slice (some { block := g, off := o }) rs.length fc] : Value), Value.pointer (some { block := W.heap.size, off := 0 }), Value.pointer none, Value.pointer (some { block := D, off := 0 }), undef, Value.pointer (some { block := F, off := 0 }), Value.pointer (some { block := W.heap.size, off := 0 }), Value.slice ma m.length mc, Value.agg #[Value.slice ma m.length mc, Value.slice none 0 0], Value.pointer (some { block := D, off := 0 }), Value.pointer (some { block := W.heap.size, off := 1 }), Value.slice (some { block := g, off := o }) rs.length fc, Value.int IntKind.i64 ↑rs.length, Value.int IntKind.i64 ↑k, Value.bool true, Value.pointer (some { block := g, off := o + k * 8 }), Value.agg #[Value.int IntKind.i64 a, Value.int IntKind.i64 b, Value.int IntKind.i64 c, Value.int IntKind.i64 d, Value.string us, Value.slice ua up.length uc, Value.string ds, Value.slice da dn.length dc], t 0, t 1, t 2, t 3, t 4, t 5, t 6, x, y, t 9, t 10, u28, undef], defers := [] } ∧ Rg.Vals l VV t ∧ Ap 7 8 11 (fun u => Below W0.heap.size W0 u) (Pa1 W0 ([.int .i64 a, .int .i64 b, .int .i64 c, .int .i64 d, .string us, .slice ua up.length uc, .string ds, .slice da dn.length dc] : List Value)) (Pa2 W0 (.slice va k vc : Value).ownBlock (D + 1) 101 8 (k + 1) (cellsF (rs.take k) ++ ([.int .i64 a, .int .i64 b, .int .i64 c, .int .i64 d, .string us, .slice ua up.length uc, .string ds, .slice da dn.length dc] : List Value))) (Pa3 W0 (.slice va k vc : Value).ownBlock (D + 1) 101 8 (k + 1) (cellsF (rs.take k) ++ ([.int .i64 a, .int .i64 b, .int .i64 c, .int .i64 d, .string us, .slice ua up.length uc, .string ds, .slice da dn.length dc] : List Value)) ⟨D, 1, none⟩) l x y w') ?sz ?low ?step ?fin _ _ _ _ ?start (Ri.closed_none _ _ _) (Rg.left_all _)
      case sz => exact fun l a' w' h => h.1
      case start => exact ⟨by simp, fun j => ([u17, u18, u19, u20, u21, u22, u23, undef, undef, u26, u27, undef] : List Value).getD j undef, u24, u25, rfl, Rg.vals_none _ _ _, Ap.start _ (Below.refl _ _).drew⟩
      case low => exact Ri.low_of (by kernel_rfl)
      case step =>
        rintro l a' w' i ⟨hsz, t, x, y, rfl, hv, HM⟩ hcl hi
        obtain ⟨h0, op, ho, hd⟩ := mem_ready.1 hi
        have hin : i < 12 := (Array.getElem?_eq_some_iff.1 ho).1
        have hnl := Rg.not_listed h0
        have hA4 : l.getD 8 false = true → l.getD 4 false = true := Ri.reach_sound hcl 10 8 4 (by kernel_rfl)
        have hA5 : l.getD 8 false = true → l.getD 5 false = true := Ri.reach_sound hcl 10 8 5 (by kernel_rfl)
        have hA6 : l.getD 8 false = true → l.getD 6 false = true := Ri.reach_sound hcl 10 8 6 (by kernel_rfl)
        have hM6 : l.getD 7 false = true → l.getD 6 false = true := Ri.reach_sound hcl 10 7 6 (by kernel_rfl)
        clear h0 hi hcl
        have hc : i = 0 ∨ i = 1 ∨ i = 2 ∨ i = 3 ∨ i = 4 ∨ i = 5 ∨ i = 6 ∨ i = 7 ∨ i = 8 ∨ i = 9 ∨ i = 10 ∨ i = 11 := by omega
        rcases hc with rfl | rfl | rfl | rfl | rfl | rfl | rfl | rfl | rfl | rfl | rfl | rfl
        · obtain rfl : _ = op := Option.some.inj (show some _ = some op from ho)
          have nl : l.getD 0 false = false := by
            cases q : l.getD 0 false
            · rfl
            · rw [q] at hnl; cases hnl
          have HV := (show Hid (Rg.Vals l VV t) from hv)
          have HQ := (show Hid (Ap 7 8 11 (fun u => Below W0.heap.size W0 u) (Pa1 W0 ([.int .i64 a, .int .i64 b, .int .i64 c, .int .i64 d, .string us, .slice ua up.length uc, .string ds, .slice da dn.length dc] : List Value)) (Pa2 W0 (.slice va k vc : Value).ownBlock (D + 1) 101 8 (k + 1) (cellsF (rs.take k) ++ ([.int .i64 a, .int .i64 b, .int .i64 c, .int .i64 d, .string us, .slice ua up.length uc, .string ds, .slice da dn.length dc] : List Value))) (Pa3 W0 (.slice va k vc : Value).ownBlock (D + 1) 101 8 (k + 1) (cellsF (rs.take k) ++ ([.int .i64 a, .int .i64 b, .int .i64 c, .int .i64 d, .string us, .slice ua up.length uc, .string ds, .slice da dn.length dc] : List Value)) ⟨D, 1, none⟩) l x y w') from HM)
          clear hv hd ho HM hA4 hA5 hA6 hM6
          refine wpOp_step rfl fun K9 hK9 => ?_
          have HKK := (show Hid _ from hK9)
          clear hK9
          go_simp
          exact HKK.out _ _ ⟨by simp [hsz], fun j => if j = 0 then .pointer (some ⟨D, 0, none⟩) else t j, x, y, by simp, HV.out.put 0 _ V0.symm, HQ.out.other (by decide) (by decide) (by decide)⟩
        · obtain rfl : _ = op := Option.some.inj (show some _ = some op from ho)
          have nl : l.getD 1 false = false := by
            cases q : l.getD 1 false
            · rfl
            · rw [q] at hnl; cases hnl
          have HV := (show Hid (Rg.Vals l VV t) from hv)
          have HQ := (show Hid (Ap 7 8 11 (fun u => Below W0.heap.size W0 u) (Pa1 W0 ([.int .i64 a, .int .i64 b, .int .i64 c, .int .i64 d, .string us, .slice ua up.length uc, .string ds, .slice da dn.length dc] : List Value)) (Pa2 W0 (.slice va k vc : Value).ownBlock (D + 1) 101 8 (k + 1) (cellsF (rs.take k) ++ ([.int .i64 a, .int .i64 b, .int .i64 c, .int .i64 d, .string us, .slice ua up.length uc, .string ds, .slice da dn.length dc] : List Value))) (Pa3 W0 (.slice va k vc : Value).ownBlock (D + 1) 101 8 (k + 1) (cellsF (rs.take k) ++ ([.int .i64 a, .int .i64 b, .int .i64 c, .int .i64 d, .string us, .slice ua up.length uc, .string ds, .slice da dn.length dc] : List Value)) ⟨D, 1, none⟩) l x y w') from HM)
          clear hv hd ho HM hA4 hA5 hA6 hM6
          refine wpOp_step rfl fun K9 hK9 => ?_
          have HKK := (show Hid _ from hK9)
          clear hK9
          go_simp
          exact HKK.out _ _ ⟨by simp [hsz], fun j => if j = 1 then .pointer (some ⟨D, 0, none⟩) else t j, x, y, by simp, HV.out.put 1 _ V1.symm, HQ.out.other (by decide) (by decide) (by decide)⟩
        · obtain rfl : _ = op := Option.some.inj (show some _ = some op from ho)
          have e1 : t 1 = .pointer (some ⟨D, 0, none⟩) := (hv 1 (hd { on := 1, ground := .data } (by simp) rfl)).trans V1
          have nl : l.getD 2 false = false := by
            cases q : l.getD 2 false
            · rfl
            · rw [q] at hnl; cases hnl
          have HV := (show Hid (Rg.Vals l VV t) from hv)
          have HQ := (show Hid (Ap 7 8 11 (fun u => Below W0.heap.size W0 u) (Pa1 W0 ([.int .i64 a, .int .i64 b, .int .i64 c, .int .i64 d, .string us, .slice ua up.length uc, .string ds, .slice da dn.length dc] : List Value)) (Pa2 W0 (.slice va k vc : Value).ownBlock (D + 1) 101 8 (k + 1) (cellsF (rs.take k) ++ ([.int .i64 a, .int .i64 b, .int .i64 c, .int .i64 d, .string us, .slice ua up.length uc, .string ds, .slice da dn.length dc] : List Value))) (Pa3 W0 (.slice va k vc : Value).ownBlock (D + 1) 101 8 (k + 1) (cellsF (rs.take k) ++ ([.int .i64 a, .int .i64 b, .int .i64 c, .int .i64 d, .string us, .slice ua up.length uc, .string ds, .slice da dn.length dc] : List Value)) ⟨D, 1, none⟩) l x y w') from HM)
          clear hv hd ho HM hA4 hA5 hA6 hM6
          refine wpOp_step rfl fun K9 hK9 => ?_
          have HKK := (show Hid _ from hK9)
          clear hK9
          go_simp
          exact HKK.out _ _ ⟨by simp [hsz], fun j => if j = 2 then .pointer (some ⟨D, 0, none⟩) else t j, x, y, by simp [e1], HV.out.put 2 _ V2.symm, HQ.out.other (by decide) (by decide) (by decide)⟩
        · obtain rfl : _ = op := Option.some.inj (show some _ = some op from ho)
          have e2 : t 2 = .pointer (some ⟨D, 0, none⟩) := (hv 2 (hd { on := 2, ground := .data } (by simp) rfl)).trans V2
          have nl : l.getD 3 false = false := by
            cases q : l.getD 3 false
            · rfl
            · rw [q] at hnl; cases hnl
          have HV := (show Hid (Rg.Vals l VV t) from hv)
          have HQ := (show Hid (Ap 7 8 11 (fun u => Below W0.heap.size W0 u) (Pa1 W0 ([.int .i64 a, .int .i64 b, .int .i64 c, .int .i64 d, .string us, .slice ua up.length uc, .string ds, .slice da dn.length dc] : List Value)) (Pa2 W0 (.slice va k vc : Value).ownBlock (D + 1) 101 8 (k + 1) (cellsF (rs.take k) ++ ([.int .i64 a, .int .i64 b, .int .i64 c, .int .i64 d, .string us, .slice ua up.length uc, .string ds, .slice da dn.length dc] : List Value))) (Pa3 W0 (.slice va k vc : Value).ownBlock (D + 1) 101 8 (k + 1) (cellsF (rs.take k) ++ ([.int .i64 a, .int .i64 b, .int .i64 c, .int .i64 d, .string us, .slice ua up.length uc, .string ds, .slice da dn.length dc] : List Value)) ⟨D, 1, none⟩) l x y w') from HM)
          clear hv hd ho HM hA4 hA5 hA6 hM6
          refine wpOp_step rfl fun K9 hK9 => ?_
          have HKK := (show Hid _ from hK9)
          clear hK9
          go_simp
          exact HKK.out _ _ ⟨by simp [hsz], fun j => if j = 3 then .pointer (some ⟨D, 1, none⟩) else t j, x, y, by simp [e2], HV.out.put 3 _ V3.symm, HQ.out.other (by decide) (by decide) (by decide)⟩
        · obtain rfl : _ = op := Option.some.inj (show some _ = some op from ho)
          have e3 : t 3 = .pointer (some ⟨D, 1, none⟩) := (hv 3 (hd { on := 3, ground := .data } (by simp) rfl)).trans V3
          have nl : l.getD 4 false = false := by
            cases q : l.getD 4 false
            · rfl
            · rw [q] at hnl; cases hnl
          have na : l.getD 8 false = false := by
            cases q : l.getD 8 false
            · rfl
            · rw [hA4 q] at nl; cases nl
          have HW := (show Hid (Below W0.heap.size W0 w') from by
            cases q : l.getD 7 false
            · exact HM.a0 q
            · exact (HM.a1 q na).1)
          have yn0 : w'.cell? ⟨F, 0, none⟩ = some (.int .i64 a) := (HW.out.cell (p := ⟨F, 0, none⟩) lF).trans n0
          have yn1 : w'.cell? ⟨F, 1, none⟩ = some (.int .i64 b) := (HW.out.cell (p := ⟨F, 1, none⟩) lF).trans n1
          have yn2 : w'.cell? ⟨F, 2, none⟩ = some (.int .i64 c) := (HW.out.cell (p := ⟨F, 2, none⟩) lF).trans n2
          have yn3 : w'.cell? ⟨F, 3, none⟩ = some (.int .i64 d) := (HW.out.cell (p := ⟨F, 3, none⟩) lF).trans n3
          have yn4 : w'.cell? ⟨F, 4, none⟩ = some (.string us) := (HW.out.cell (p := ⟨F, 4, none⟩) lF).trans n4
          have yn5 : w'.cell? ⟨F, 5, none⟩ = some (.slice ua up.length uc) := (HW.out.cell (p := ⟨F, 5, none⟩) lF).trans n5
          have yn6 : w'.cell? ⟨F, 6, none⟩ = some (.string ds) := (HW.out.cell (p := ⟨F, 6, none⟩) lF).trans n6
          have yn7 : w'.cell? ⟨F, 7, none⟩ = some (.slice da dn.length dc) := (HW.out.cell (p := ⟨F, 7, none⟩) lF).trans n7
          have yd1 : w'.cell? ⟨D, 1, none⟩ = some (.slice va k vc) := (HW.out.cell (p := ⟨D, 1, none⟩) lD).trans d1
          have HV := (show Hid (Rg.Vals l VV t) from hv)
          have HQ := (show Hid (Ap 7 8 11 (fun u => Below W0.heap.size W0 u) (Pa1 W0 ([.int .i64 a, .int .i64 b, .int .i64 c, .int .i64 d, .string us, .slice ua up.length uc, .string ds, .slice da dn.length dc] : List Value)) (Pa2 W0 (.slice va k vc : Value).ownBlock (D + 1) 101 8 (k + 1) (cellsF (rs.take k) ++ ([.int .i64 a, .int .i64 b, .int .i64 c, .int .i64 d, .string us, .slice ua up.length uc, .string ds, .slice da dn.length dc] : List Value))) (Pa3 W0 (.slice va k vc : Value).ownBlock (D + 1) 101 8 (k + 1) (cellsF (rs.take k) ++ ([.int .i64 a, .int .i64 b, .int .i64 c, .int .i64 d, .string us, .slice ua up.length uc, .string ds, .slice da dn.length dc] : List Value)) ⟨D, 1, none⟩) l x y w') from HM)
          clear hv hd ho HM hA4 hA5 hA6 hM6
          refine wpOp_step rfl fun K9 hK9 => ?_
          have HKK := (show Hid _ from hK9)
          clear hK9
          go_simp
          exact HKK.out _ _ ⟨by simp [hsz], fun j => if j = 4 then .slice va k vc else t j, x, y, by simp [e3], HV.out.put 4 _ V4.symm, HQ.out.other (by decide) (by decide) (by decide)⟩
        · obtain rfl : _ = op := Option.some.inj (show some _ = some op from ho)
          have nl : l.getD 5 false = false := by
            cases q : l.getD 5 false
            · rfl
            · rw [q] at hnl; cases hnl
          have na : l.getD 8 false = false := by
            cases q : l.getD 8 false
            · rfl
            · rw [hA5 q] at nl; cases nl
          have HW := (show Hid (Below W0.heap.size W0 w') from by
            cases q : l.getD 7 false
            · exact HM.a0 q
            · exact (HM.a1 q na).1)
          have yn0 : w'.cell? ⟨F, 0, none⟩ = some (.int .i64 a) := (HW.out.cell (p := ⟨F, 0, none⟩) lF).trans n0
          have yn1 : w'.cell? ⟨F, 1, none⟩ = some (.int .i64 b) := (HW.out.cell (p := ⟨F, 1, none⟩) lF).trans n1
          have yn2 : w'.cell? ⟨F, 2, none⟩ = some (.int .i64 c) := (HW.out.cell (p := ⟨F, 2, none⟩) lF).trans n2
          have yn3 : w'.cell? ⟨F, 3, none⟩ = some (.int .i64 d) := (HW.out.cell (p := ⟨F, 3, none⟩) lF).trans n3
          have yn4 : w'.cell? ⟨F, 4, none⟩ = some (.string us) := (HW.out.cell (p := ⟨F, 4, none⟩) lF).trans n4
          have yn5 : w'.cell? ⟨F, 5, none⟩ = some (.slice ua up.length uc) := (HW.out.cell (p := ⟨F, 5, none⟩) lF).trans n5
          have yn6 : w'.cell? ⟨F, 6, none⟩ = some (.string ds) := (HW.out.cell (p := ⟨F, 6, none⟩) lF).trans n6
          have yn7 : w'.cell? ⟨F, 7, none⟩ = some (.slice da dn.length dc) := (HW.out.cell (p := ⟨F, 7, none⟩) lF).trans n7
          have yd1 : w'.cell? ⟨D, 1, none⟩ = some (.slice va k vc) := (HW.out.cell (p := ⟨D, 1, none⟩) lD).trans d1
          have HV := (show Hid (Rg.Vals l VV t) from hv)
          have HQ := (show Hid (Ap 7 8 11 (fun u => Below W0.heap.size W0 u) (Pa1 W0 ([.int .i64 a, .int .i64 b, .int .i64 c, .int .i64 d, .string us, .slice ua up.length uc, .string ds, .slice da dn.length dc] : List Value)) (Pa2 W0 (.slice va k vc : Value).ownBlock (D + 1) 101 8 (k + 1) (cellsF (rs.take k) ++ ([.int .i64 a, .int .i64 b, .int .i64 c, .int .i64 d, .string us, .slice ua up.length uc, .string ds, .slice da dn.length dc] : List Value))) (Pa3 W0 (.slice va k vc : Value).ownBlock (D + 1) 101 8 (k + 1) (cellsF (rs.take k) ++ ([.int .i64 a, .int .i64 b, .int .i64 c, .int .i64 d, .string us, .slice ua up.length uc, .string ds, .slice da dn.length dc] : List Value)) ⟨D, 1, none⟩) l x y w') from HM)
          clear hv hd ho HM hA4 hA5 hA6 hM6
          refine wpOp_step rfl fun K9 hK9 => ?_
          have HKK := (show Hid _ from hK9)
          clear hK9
          go_simp
          exact HKK.out _ _ ⟨by simp [hsz], fun j => if j = 5 then .agg #[.int .i64 a, .int .i64 b, .int .i64 c, .int .i64 d, .string us, .slice ua up.length uc, .string ds, .slice da dn.length dc] else t j, x, y, by simp, HV.out.put 5 _ V5.symm, HQ.out.other (by decide) (by decide) (by decide)⟩
        · obtain rfl : _ = op := Option.some.inj (show some _ = some op from ho)
          have e5 : t 5 = .agg #[.int .i64 a, .int .i64 b, .int .i64 c, .int .i64 d, .string us, .slice ua up.length uc, .string ds, .slice da dn.length dc] := (hv 5 (hd { on := 5, ground := .data } (by simp) rfl)).trans V5
          have nl : l.getD 6 false = false := by
            cases q : l.getD 6 false
            · rfl
            · rw [q] at hnl; cases hnl
          have na : l.getD 8 false = false := by
            cases q : l.getD 8 false
            · rfl
            · rw [hA6 q] at nl; cases nl
          have HW := (show Hid (Below W0.heap.size W0 w') from by
            cases q : l.getD 7 false
            · exact HM.a0 q
            · exact (HM.a1 q na).1)
          have nm : l.getD 7 false = false := by
            cases q : l.getD 7 false
            · rfl
            · rw [hM6 q] at nl; cases nl
          have HV := (show Hid (Rg.Vals l VV t) from hv)
          have HQ := (show Hid (Ap 7 8 11 (fun u => Below W0.heap.size W0 u) (Pa1 W0 ([.int .i64 a, .int .i64 b, .int .i64 c, .int .i64 d, .string us, .slice ua up.length uc, .string ds, .slice da dn.length dc] : List Value)) (Pa2 W0 (.slice va k vc : Value).ownBlock (D + 1) 101 8 (k + 1) (cellsF (rs.take k) ++ ([.int .i64 a, .int .i64 b, .int .i64 c, .int .i64 d, .string us, .slice ua up.length uc, .string ds, .slice da dn.length dc] : List Value))) (Pa3 W0 (.slice va k vc : Value).ownBlock (D + 1) 101 8 (k + 1) (cellsF (rs.take k) ++ ([.int .i64 a, .int .i64 b, .int .i64 c, .int .i64 d, .string us, .slice ua up.length uc, .string ds, .slice da dn.length dc] : List Value)) ⟨D, 1, none⟩) l x y w') from HM)
          clear hv hd ho HM hA4 hA5 hA6 hM6
          refine wpOp_step rfl fun K9 hK9 => ?_
          have HKK := (show Hid _ from hK9)
          clear hK9
          go_simp
          refine (flowOf_any a b c d us _ ds _ _ ⟨_, _, _, rfl⟩ ⟨_, _, _, rfl⟩).mono ?_
          rintro e w9 ⟨rfl, k9⟩
          exact HKK.out _ _ ⟨by simp [hsz], fun j => if j = 6 then .agg #[.int .i64 a, .int .i64 b, .int .i64 c, .int .i64 d, .string us, .slice ua up.length uc, .string ds, .slice da dn.length dc] else t j, x, y, by simp [e5], HV.out.put 6 _ V6.symm, HQ.out.call (by decide) (by decide) (by decide) nm (HW.out.trans (k9.mono HW.out.size))⟩
        · obtain rfl : _ = op := Option.some.inj (show some _ = some op from ho)
          have e6 : t 6 = .agg #[.int .i64 a, .int .i64 b, .int .i64 c, .int .i64 d, .string us, .slice ua up.length uc, .string ds, .slice da dn.length dc] := (hv 6 (hd { on := 6, ground := .data } (by simp) rfl)).trans V6
          have nl : l.getD 7 false = false := by
            cases q : l.getD 7 false
            · rfl
            · rw [q] at hnl; cases hnl
          have HW := (show Hid (Below W0.heap.size W0 w') from HM.a0 nl)
          have HV := (show Hid (Rg.Vals l VV t) from hv)
          have HQ := (show Hid (Ap 7 8 11 (fun u => Below W0.heap.size W0 u) (Pa1 W0 ([.int .i64 a, .int .i64 b, .int .i64 c, .int .i64 d, .string us, .slice ua up.length uc, .string ds, .slice da dn.length dc] : List Value)) (Pa2 W0 (.slice va k vc : Value).ownBlock (D + 1) 101 8 (k + 1) (cellsF (rs.take k) ++ ([.int .i64 a, .int .i64 b, .int .i64 c, .int .i64 d, .string us, .slice ua up.length uc, .string ds, .slice da dn.length dc] : List Value))) (Pa3 W0 (.slice va k vc : Value).ownBlock (D + 1) 101 8 (k + 1) (cellsF (rs.take k) ++ ([.int .i64 a, .int .i64 b, .int .i64 c, .int .i64 d, .string us, .slice ua up.length uc, .string ds, .slice da dn.length dc] : List Value)) ⟨D, 1, none⟩) l x y w') from HM)
          clear hv hd ho HM hA4 hA5 hA6 hM6
          refine wpOp_step rfl fun K9 hK9 => ?_
          have HKK := (show Hid _ from hK9)
          clear hK9
          go_simp
          exact HKK.out _ _ ⟨by simp [hsz], fun j => if j = 7 then undef else t j, (.slice (some ⟨w'.heap.size, 0, none⟩) 1 1), y, by simp [e6], HV.out.put 7 _ V7.symm, HQ.out.make (by decide) (by decide) (by omega) nl ⟨HW.out.alloc HW.out.size _, _, rfl, cell_eight_new _ _ _ _ _ _ _ _ _ _⟩⟩
        · obtain rfl : _ = op := Option.some.inj (show some _ = some op from ho)
          have e4 : t 4 = .slice va k vc := (hv 4 (hd { on := 4, ground := .data } (by simp) rfl)).trans V4
          have q7 : l.getD 7 false = true := hd { on := 7, ground := .data } (by simp) rfl
          have nl : l.getD 8 false = false := by
            cases q : l.getD 8 false
            · rfl
            · rw [q] at hnl; cases hnl
          obtain ⟨hb9, X, rfl, hnw⟩ := HM.a1 q7 nl
          have hrow := row_below HRN.out hb9
          have HV := (show Hid (Rg.Vals l VV t) from hv)
          have HQ := (show Hid (Ap 7 8 11 (fun u => Below W0.heap.size W0 u) (Pa1 W0 ([.int .i64 a, .int .i64 b, .int .i64 c, .int .i64 d, .string us, .slice ua up.length uc, .string ds, .slice da dn.length dc] : List Value)) (Pa2 W0 (.slice va k vc : Value).ownBlock (D + 1) 101 8 (k + 1) (cellsF (rs.take k) ++ ([.int .i64 a, .int .i64 b, .int .i64 c, .int .i64 d, .string us, .slice ua up.length uc, .string ds, .slice da dn.length dc] : List Value))) (Pa3 W0 (.slice va k vc : Value).ownBlock (D + 1) 101 8 (k + 1) (cellsF (rs.take k) ++ ([.int .i64 a, .int .i64 b, .int .i64 c, .int .i64 d, .string us, .slice ua up.length uc, .string ds, .slice da dn.length dc] : List Value)) ⟨D, 1, none⟩) l (.slice (some ⟨X, 0, none⟩) 1 1) y w') from HM)
          clear hv hd ho HM hA4 hA5 hA6 hM6
          refine wpOp_step rfl fun K9 hK9 => ?_
          have HKK := (show Hid _ from hK9)
          clear hK9
          rw [e4]
          refine op_append rfl _ _ 95 rfl (D + 1) 101 i0 (.agg #[.int .i64 0, .int .i64 0, .int .i64 0, .int .i64 0, .string ByteArray.empty, .slice none 0 0, .string ByteArray.empty, .slice none 0 0]) 8 112 Tryz.underlying95 hi0 hz0 hz1 hz2 rfl (by decide) (.slice va k vc) k (cellsF (rs.take k)) rfl hrow ⟨X, 0, none⟩ 1 1 ([.int .i64 a, .int .i64 b, .int .i64 c, .int .i64 d, .string us, .slice ua up.length uc, .string ds, .slice da dn.length dc] : List Value) rfl rfl hnw (cells_one _ _ _ _ _ _ _ _ _ _ _ _) (by unfold maxLen; omega) (by omega) (by have := hb9.size; omega) ?_
          intro v9 w9 hown9 hgr hwn
          exact HKK.out _ _ ⟨by simp [hsz], fun j => if j = 8 then undef else t j, (.slice (some ⟨X, 0, none⟩) 1 1), v9, by simp [e4, Act.put], HV.out.put 8 _ V8.symm, HQ.out.fill (by decide) (by decide) (by omega) nl q7 ⟨w', hb9, hgr, hown9, fun g hg => (hwn g hg).imp id (fun q => Nat.le_trans hb9.size q)⟩⟩
        · obtain rfl : _ = op := Option.some.inj (show some _ = some op from ho)
          have e0 : t 0 = .pointer (some ⟨D, 0, none⟩) := (hv 0 (hd { on := 0, ground := .data } (by simp) rfl)).trans V0
          have nl : l.getD 9 false = false := by
            cases q : l.getD 9 false
            · rfl
            · rw [q] at hnl; cases hnl
          have HV := (show Hid (Rg.Vals l VV t) from hv)
          have HQ := (show Hid (Ap 7 8 11 (fun u => Below W0.heap.size W0 u) (Pa1 W0 ([.int .i64 a, .int .i64 b, .int .i64 c, .int .i64 d, .string us, .slice ua up.length uc, .string ds, .slice da dn.length dc] : List Value)) (Pa2 W0 (.slice va k vc : Value).ownBlock (D + 1) 101 8 (k + 1) (cellsF (rs.take k) ++ ([.int .i64 a, .int .i64 b, .int .i64 c, .int .i64 d, .string us, .slice ua up.length uc, .string ds, .slice da dn.length dc] : List Value))) (Pa3 W0 (.slice va k vc : Value).ownBlock (D + 1) 101 8 (k + 1) (cellsF (rs.take k) ++ ([.int .i64 a, .int .i64 b, .int .i64 c, .int .i64 d, .string us, .slice ua up.length uc, .string ds, .slice da dn.length dc] : List Value)) ⟨D, 1, none⟩) l x y w') from HM)
          clear hv hd ho HM hA4 hA5 hA6 hM6
          refine wpOp_step rfl fun K9 hK9 => ?_
          have HKK := (show Hid _ from hK9)
          clear hK9
          go_simp
          exact HKK.out _ _ ⟨by simp [hsz], fun j => if j = 9 then .pointer (some ⟨D, 0, none⟩) else t j, x, y, by simp [e0], HV.out.put 9 _ V9.symm, HQ.out.other (by decide) (by decide) (by decide)⟩
        · obtain rfl : _ = op := Option.some.inj (show some _ = some op from ho)
          have e9 : t 9 = .pointer (some ⟨D, 0, none⟩) := (hv 9 (hd { on := 9, ground := .data } (by simp) rfl)).trans V9
          have nl : l.getD 10 false = false := by
            cases q : l.getD 10 false
            · rfl
            · rw [q] at hnl; cases hnl
          have HV := (show Hid (Rg.Vals l VV t) from hv)
          have HQ := (show Hid (Ap 7 8 11 (fun u => Below W0.heap.size W0 u) (Pa1 W0 ([.int .i64 a, .int .i64 b, .int .i64 c, .int .i64 d, .string us, .slice ua up.length uc, .string ds, .slice da dn.length dc] : List Value)) (Pa2 W0 (.slice va k vc : Value).ownBlock (D + 1) 101 8 (k + 1) (cellsF (rs.take k) ++ ([.int .i64 a, .int .i64 b, .int .i64 c, .int .i64 d, .string us, .slice ua up.length uc, .string ds, .slice da dn.length dc] : List Value))) (Pa3 W0 (.slice va k vc : Value).ownBlock (D + 1) 101 8 (k + 1) (cellsF (rs.take k) ++ ([.int .i64 a, .int .i64 b, .int .i64 c, .int .i64 d, .string us, .slice ua up.length uc, .string ds, .slice da dn.length dc] : List Value)) ⟨D, 1, none⟩) l x y w') from HM)
          clear hv hd ho HM hA4 hA5 hA6 hM6
          refine wpOp_step rfl fun K9 hK9 => ?_
          have HKK := (show Hid _ from hK9)
          clear hK9
          go_simp
          exact HKK.out _ _ ⟨by simp [hsz], fun j => if j = 10 then .pointer (some ⟨D, 1, none⟩) else t j, x, y, by simp [e9], HV.out.put 10 _ V10.symm, HQ.out.other (by decide) (by decide) (by decide)⟩
        · obtain rfl : _ = op := Option.some.inj (show some _ = some op from ho)
          have e10 : t 10 = .pointer (some ⟨D, 1, none⟩) := (hv 10 (hd { on := 10, ground := .data } (by simp) rfl)).trans V10
          have q8 : l.getD 8 false = true := hd { on := 8, ground := .data } (by simp) rfl
          have nl : l.getD 11 false = false := by
            cases q : l.getD 11 false
            · rfl
            · rw [q] at hnl; cases hnl
          have hp2 := HM.a2 q8 nl
          obtain ⟨ya, yc, rfl⟩ := row_slice hp2.choose_spec.2.2.1
          have hob := (hp2.block lD hnb).trans HDN.out
          have yd0 : w'.cell? ⟨D, 0, none⟩ = some (.slice ma m.length mc) := by simp [World.cell?, hob]
          have yd1 : w'.cell? ⟨D, 1, none⟩ = some (.slice va k vc) := by simp [World.cell?, hob]
          have ydf : ∀ j, w'.frozen? ⟨D, j, none⟩ = false := fun j => by simp [World.frozen?, hob]
          have HP2 := (show Hid (Pa2 W0 (.slice va k vc : Value).ownBlock (D + 1) 101 8 (k + 1) (cellsF (rs.take k) ++ ([.int .i64 a, .int .i64 b, .int .i64 c, .int .i64 d, .string us, .slice ua up.length uc, .string ds, .slice da dn.length dc] : List Value)) (.slice ya (k + 1) yc) w') from hp2)
          clear hp2 hob
          have HV := (show Hid (Rg.Vals l VV t) from hv)
          have HQ := (show Hid (Ap 7 8 11 (fun u => Below W0.heap.size W0 u) (Pa1 W0 ([.int .i64 a, .int .i64 b, .int .i64 c, .int .i64 d, .string us, .slice ua up.length uc, .string ds, .slice da dn.length dc] : List Value)) (Pa2 W0 (.slice va k vc : Value).ownBlock (D + 1) 101 8 (k + 1) (cellsF (rs.take k) ++ ([.int .i64 a, .int .i64 b, .int .i64 c, .int .i64 d, .string us, .slice ua up.length uc, .string ds, .slice da dn.length dc] : List Value))) (Pa3 W0 (.slice va k vc : Value).ownBlock (D + 1) 101 8 (k + 1) (cellsF (rs.take k) ++ ([.int .i64 a, .int .i64 b, .int .i64 c, .int .i64 d, .string us, .slice ua up.length uc, .string ds, .slice da dn.length dc] : List Value)) ⟨D, 1, none⟩) l x (.slice ya (k + 1) yc) w') from HM)
          clear hv hd ho HM hA4 hA5 hA6 hM6
          refine wpOp_step rfl fun K9 hK9 => ?_
          have HKK := (show Hid _ from hK9)
          clear hK9
          go_simp
          exact HKK.out _ _ ⟨by simp [hsz], fun j => if j = 11 then undef else t j, x, _, by simp [e10], HV.out.put 11 _ V11.symm, HQ.out.lay (by decide) (by decide) (by omega) q8 ⟨w', HP2.out, rfl⟩⟩
      case fin =>
        rintro l a' w' ⟨hsz, t, x, y, rfl, hv, HM⟩ hall
        obtain ⟨wa, hp2, rfl⟩ := HM.a3 (hall 11 (by simp))
        clear hv hall HM
        obtain ⟨ya, yc, rfl⟩ := row_slice hp2.choose_spec.2.2.1
        have hown := hp2.choose_spec.2.2.1
        have hob := (hp2.block lD hnb).trans HDN.out
        have hbel : Below W.heap.size W0 wa := hp2.below HBN.out.size (fun q hq => by have := (HRN.out.lt q hq).1; omega)
        have HP := (show Hid (Pa2 W0 _ _ _ _ _ _ _ wa) from hp2)
        rw [← HTS.out] at hown
        have HOW := (show Hid (wa.ownsRow (D + 1) 101 8 (.slice ya (k + 1) yc) (k + 1) (cellsF (rs.take (k + 1)))) from hown)
        have HOB := (show Hid (wa.heap[D]? = some (.cells #[.slice ma m.length mc, .slice va k vc] 97 (0, 0))) from hob)
        clear hp2 hown hob
        go_wp2
        go_roundw
        case rel =>
          refine ⟨k + 1, .slice ya (k + 1) yc, by omega, by go_num, ?_, ownsRow_setCell_below HOW.out (by show D < D + 1; omega) _, ((HBN.out.trans hbel).setCell (by show W.heap.size ≤ D; omega) _)⟩
          rw [setCell_obj HOB.out]; rfl
        case measure => simp [intOf]; omega
    · have hge : (rs.length : Int) ≤ (k : Int) := by omega
      have hkr : k = rs.length := by omega
      subst hkr
      rw [List.take_length] at hrow
      have HD := (show Hid (wr.heap[D]? = some (.cells #[.slice ma m.length mc, v] 97 (0, 0))) from hD)
      have HW := (show Hid (wr.ownsRow (D + 1) 101 8 v rs.length (cellsF rs)) from hrow)
      clear hD hrow
      go_wp2
      go_ret
      exact HR.out _ _ ⟨rfl, ⟨v, HD.out, HW.out⟩, hb⟩
end Go.Proofs.YtfmjhbdbgcgoiaaGreatDoor.DrI

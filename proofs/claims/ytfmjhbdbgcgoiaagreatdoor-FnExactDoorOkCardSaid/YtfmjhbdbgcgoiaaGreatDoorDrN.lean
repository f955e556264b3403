/- Walks: whether a doorway, and a door, is ok, by the program. -/
import Derived.Test.YtfmjhbdbgcgoiaaGreatDoorDrL
namespace Go.Proofs.YtfmjhbdbgcgoiaaGreatDoor.DrI
open Go.RowKit Go.Shelf Go.Proofs.YtfmjhbdbgcgoiaaGreatDoor.Kit Go.Proofs.YtfmjhbdbgcgoiaaGreatDoor.St Go.Proofs.YtfmjhbdbgcgoiaaGreatDoor.App Go.Proofs.YtfmjhbdbgcgoiaaGreatDoor.Mp Go.Proofs.YtfmjhbdbgcgoiaaGreatDoor.Mm Go.Proofs.YtfmjhbdbgcgoiaaGreatDoor.Ms Go.Proofs.YtfmjhbdbgcgoiaaGreatDoor.Dr Go.Proofs.YtfmjhbdbgcgoiaaGreatDoor.DrP Go.Proofs.YtfmjhbdbgcgoiaaGreatDoor.EndW Go.Proofs.YtfmjhbdbgcgoiaaGreatDoor.Ap
open Go.Proofs.YtfmjhbdbgcgoiaaGreatDoor.Read (Errs)
set_option linter.unusedSimpArgs false
set_option linter.unusedVariables false

/-- a doorway of the call's own -/
structure Dy (W : World) (D : Nat) (mv fv : Value) (m : List (Int × Int × Int)) (rs : List RF) : Prop where
  ob : W.heap[D]? = some (.cells #[mv, fv] 97 (0, 0))
  hm : IsM W mv m
  row : W.ownsRow (D + 1) 101 8 fv rs.length (cellsF rs)
  good : GoodF W rs
theorem Dy.below {W W' : World} {D : Nat} {mv fv : Value} {m : List (Int × Int × Int)} {rs : List RF} (h : Dy W D mv fv m rs) (k : Below W.heap.size W W') : Dy W' D mv fv m rs :=
  ⟨(k.block D (lt_ob h.ob)).trans h.ob, h.hm.below k, row_below h.row k, h.good.below k⟩
theorem Dy.dw {W : World} {D : Nat} {mv fv : Value} {m : List (Int × Int × Int)} {rs : List RF} (h : Dy W D mv fv m rs) : Dw W D mv fv m rs := ⟨h.ob, h.hm, isF_of_row h.row h.good⟩

set_option maxRecDepth 8000 in
set_option maxHeartbeats 8000000 in
theorem ok_any (m : List (Int × Int × Int)) (mv fv : Value) (rs : List RF) (D : Nat) (W : World) (h : Dy W D mv fv m rs) (hml : m.length ≤ 1073741824) (hn : rs.length ≤ 1073741824) (herr : Errs W) :
    Calls Tryz.prog 32 #[.pointer (some ⟨D, 0, none⟩)] W fun e W' => e = .returned (.bool (doorB m rs)) ∧ Below W.heap.size W W' := by
  obtain ⟨ma, mc, rfl⟩ := isM_slice h.hm
  obtain ⟨fa, fc, rfl⟩ := row_slice h.row
  have y0 := h.dw.c0
  have y1 := h.dw.c1
  go_enter Tryz.func32, Tryz.ntmps32
  go_wp2_with fail
  refine (Ml.ok_any _ _ m h.hm).mono ?_
  rintro e w1 ⟨rfl, k1⟩
  have h1 := h.below k1
  have herr1 := herr.below k1
  clear y0 y1
  have y0 := h1.dw.c0
  have y1 := h1.dw.c1
  cases hok : okM m
  · go_wp2
    go_ret
    exact ⟨by rw [doorB_map hok]; rfl, k1⟩
  · by_cases h4 : rs.length ≤ 4
    · have h4' : (rs.length : Int) ≤ 4 := by omega
      go_wp2
      go_loopw [23] (fun i wr => ∃ k : Nat, k ≤ rs.length ∧ i = .int .i64 k ∧ (∀ (j : Nat) (r : RF), j < k → rs[j]? = some r → flB m rs j r = true) ∧ Below w1.heap.size w1 wr) (fun i wr => rs.length - (intOf i).toNat)
      case atStart => exact ⟨0, Nat.zero_le _, rfl, fun j r hj => by omega, Below.refl _ _⟩
      case round =>
        obtain ⟨k, hk, rfl, hup, hb⟩ := hrel
        by_cases hkl : k < rs.length
        · have hkl' : (k : Int) < (rs.length : Int) := by omega
          have hp : rs[k]? = some rs[k] := List.getElem?_eq_getElem hkl
          have h2 := h1.below hb
          have herr2 := herr1.below hb
          obtain ⟨a', c', ha, hc, hcm, hr⟩ := h2.dw.hf.at_
          simp at ha
          obtain ⟨rfl, rfl⟩ := ha
          rcases hr with rfl | ⟨g, o, rfl, hat⟩
          · simp at hp
          have hgo : ∃ cur e, wr.heap[g]? = some (.cells cur e (0, 0)) := by
            rcases h2.row.2 with ⟨q, _⟩ | ⟨g', cap, cur, q, _, hh, _⟩
            · cases q
            · simp at q
              obtain ⟨⟨rfl, _⟩, _⟩ := q
              exact ⟨_, _, hh⟩
          have z0 := h2.dw.c0
          have z1 := h2.dw.c1
          have hat2 := hat k _ hp
          have hfb := @doorB_bad m rs k _ hp
          have hfg : flB m rs k rs[k] = true → ∀ (j : Nat) (r : RF), j < k + 1 → rs[j]? = some r → flB m rs j r = true := fun h j r hj hr => by
            by_cases e : j = k
            · subst e; rw [hp] at hr; cases hr; exact h
            · exact hup j r (by omega) hr
          generalize rs[k] = r at hp hat2 hfb hfg
          have HFB := (show Hid (flB m rs k r = false → doorB m rs = false) from hfb)
          have HFG := (show Hid (flB m rs k r = true → ∀ (j : Nat) (r : RF), j < k + 1 → rs[j]? = some r → flB m rs j r = true) from hfg)
          have HAT := (show Hid (At8 wr g (o + k * 8) r) from hat2)
          have HHP := (show Hid (rs[k]? = some r) from hp)
          have HB := (show Hid (Below w1.heap.size w1 wr) from hb)
          clear hup hat hat2 hfb hfg hp y0 y1 hb
          go_wp2_with fail
          refine (flowOk_any m _ g o _ rs D k r _ h2.dw hml hn HHP.out HAT.out hgo herr2).mono ?_
          rintro e w3 ⟨rfl, k3⟩
          have b3 := HB.out.trans (k3.mono HB.out.size)
          cases hf : flB m rs k r
          · have hbad := (show Hid _ from HFB.out hf)
            go_wp2
            go_ret
            exact ⟨by rw [hbad.out]; rfl, k1.trans (b3.mono k1.size)⟩
          · have hgood := (show Hid (∀ (j : Nat) (r : RF), j < k + 1 → rs[j]? = some r → flB m rs j r = true) from HFG.out hf)
            go_wp2
            go_roundw
            case rel => exact ⟨k + 1, by omega, by go_num, hgood.out, b3⟩
            case measure => simp [intOf]; omega
        · have hge : (rs.length : Int) ≤ (k : Int) := by omega
          have hall : doorB m rs = true := doorB_good hok h4 fun i r hr => hup i r (by have := (List.getElem?_eq_some_iff.1 hr).1; omega) hr
          go_wp2
          go_ret
          exact ⟨by rw [hall]; rfl, k1.trans (hb.mono k1.size)⟩
    · have h4' : (4 : Int) < (rs.length : Int) := by omega
      go_wp2
      go_ret
      exact ⟨by rw [doorB_many h4]; rfl, k1⟩

/-- a doorway of a door -/
theorem doorway_any (m : List (Int × Int × Int)) (mv fv : Value) (rs : List RF) (W : World) (hM : IsM W mv m) (hF : IsF W fv rs) (hn : rs.length ≤ 1073741824) :
    Calls Tryz.prog 31 #[.agg #[mv, fv]] W fun e W' => ∃ D v, e = .returned (.pointer (some ⟨D, 0, none⟩)) ∧ W.heap.size ≤ D ∧ Dy W' D mv v m rs ∧ Below W.heap.size W W' := by
  refine (doorwayOf_any m mv fv rs W hM hF hn).mono ?_
  rintro e w1 ⟨rfl, ⟨v, hob, hrow⟩, k1⟩
  exact ⟨_, v, rfl, by omega, ⟨hob, hM.below k1, hrow, hF.good.below k1⟩, k1⟩

set_option maxRecDepth 8000 in
set_option maxHeartbeats 8000000 in
theorem doorOk_any (m : List (Int × Int × Int)) (mv fv : Value) (rs : List RF) (W : World) (hM : IsM W mv m) (hF : IsF W fv rs) (hml : m.length ≤ 1073741824) (hn : rs.length ≤ 1073741824) (herr : Errs W) :
    Calls Tryz.prog 10 #[.agg #[mv, fv]] W fun e W' => e = .returned (.bool (doorB m rs)) ∧ Below W.heap.size W W' := by
  have bA : Below W.heap.size W (W.alloc (.cells #[mv, fv] 31)) := (Below.refl _ _).alloc (Nat.le_refl _) _
  have hM1 := hM.below bA
  have hF1 := hF.below bA
  have herr1 := herr.below bA
  obtain ⟨ma, mc, rfl⟩ := isM_slice hM
  obtain ⟨fa, fc, rfl, -⟩ := hF.at_
  go_enter Tryz.func10, Tryz.ntmps10
  go_wp2_with fail
  refine (doorway_any m _ _ rs _ hM1 hF1 hn).mono ?_
  rintro e w1 ⟨D, v, rfl, hD, hy, k1⟩
  have b1 := bA.trans (k1.mono (by simp))
  go_wp2_with fail
  refine (ok_any m _ v rs D _ hy hml hn (herr1.below k1)).mono ?_
  rintro e w2 ⟨rfl, k2⟩
  go_wp2
  go_ret
  exact ⟨rfl, b1.trans (k2.mono b1.size)⟩
end Go.Proofs.YtfmjhbdbgcgoiaaGreatDoor.DrI

/- Walks: DoorOk of the model. -/
import Derived.Test.YtfmjhbdbgcgoiaaGreatDoorDrP
import Derived.Test.YtfmjhbdbgcgoiaaGreatDoorMmOp
import Derived.Test.YtfmjhbdbgcgoiaaGreatDoorSsA
import Derived.Deep.RegionWith
import Derived.Deep.Cut
import Derived.Test.YtfmjhbdbgcgoiaaGreatDoorRi
namespace Go.Proofs.YtfmjhbdbgcgoiaaGreatDoor.DrS
open Go.RowKit Go.Proofs.YtfmjhbdbgcgoiaaGreatDoor.Kit Go.Proofs.YtfmjhbdbgcgoiaaGreatDoor.St Go.Proofs.YtfmjhbdbgcgoiaaGreatDoor.StS Go.Proofs.YtfmjhbdbgcgoiaaGreatDoor.App Go.Proofs.YtfmjhbdbgcgoiaaGreatDoor.Mp Go.Proofs.YtfmjhbdbgcgoiaaGreatDoor.Mm Go.Proofs.YtfmjhbdbgcgoiaaGreatDoor.Ms Go.Proofs.YtfmjhbdbgcgoiaaGreatDoor.Dr Go.Proofs.YtfmjhbdbgcgoiaaGreatDoor.DrP Go.Proofs.YtfmjhbdbgcgoiaaGreatDoor.EndW
open Go.Proofs.YtfmjhbdbgcgoiaaGreatDoor.EndW (endV)
set_option linter.unusedSimpArgs false
set_option linter.unusedVariables false

theorem lt_ob {W : World} {D : Nat} {ob : Obj} (h : W.heap[D]? = some ob) : D < W.heap.size := (Array.getElem?_eq_some_iff.1 h).1
/-- where it stands, as the model tells it -/
def flZ (rs : List RF) (a b c d : Int) : Int := if fI rs a b c d < rs.length then ((fI rs a b c d : Nat) : Int) else -1
set_option maxRecDepth 8000 in
set_option maxHeartbeats 8000000 in
theorem lflow_any (rs : List RF) (v : Value) (x0 x1 y0 y1 : Int) (W : World) (hF : IsF W v rs) (hn : rs.length ≤ 1073741824) :
    Calls Tryz.prog 28 #[v, endV x0 x1, endV y0 y1] W fun r W' => r = .returned (.int .i64 (flZ rs x0 x1 y0 y1)) ∧ Below W.heap.size W W' := by
  have bA : Below W.heap.size W ((W.alloc (.cells #[.int .i64 x0, .int .i64 x1] 40)).alloc (.cells #[.int .i64 y0, .int .i64 y1] 40)) := ((Below.refl _ _).alloc (Nat.le_refl _) _).alloc (by simp) _
  have hX : ((W.alloc (.cells #[.int .i64 x0, .int .i64 x1] 40)).alloc (.cells #[.int .i64 y0, .int .i64 y1] 40)).heap.size = W.heap.size + 2 := by simp
  have c0 : ((W.alloc (.cells #[.int .i64 x0, .int .i64 x1] 40)).alloc (.cells #[.int .i64 y0, .int .i64 y1] 40)).cell? ⟨W.heap.size, 0, none⟩ = some (.int .i64 x0) := by simp [go_sem]
  have c1 : ((W.alloc (.cells #[.int .i64 x0, .int .i64 x1] 40)).alloc (.cells #[.int .i64 y0, .int .i64 y1] 40)).cell? ⟨W.heap.size, 1, none⟩ = some (.int .i64 x1) := by simp [go_sem]
  have d0 : ((W.alloc (.cells #[.int .i64 x0, .int .i64 x1] 40)).alloc (.cells #[.int .i64 y0, .int .i64 y1] 40)).cell? ⟨W.heap.size + 1, 0, none⟩ = some (.int .i64 y0) := by simp [go_sem]
  have d1 : ((W.alloc (.cells #[.int .i64 x0, .int .i64 x1] 40)).alloc (.cells #[.int .i64 y0, .int .i64 y1] 40)).cell? ⟨W.heap.size + 1, 1, none⟩ = some (.int .i64 y1) := by simp [go_sem]
  obtain ⟨⟨a, cap, rfl, hc, hcm, hr⟩, hg⟩ := hF
  go_enter Tryz.func28, Tryz.ntmps28
  go_wp2
  go_loopw [7] (fun i wr => ∃ k : Nat, k ≤ rs.length ∧ i = .int .i64 k ∧ (∀ (j : Nat) (r : RF), j < k → rs[j]? = some r → sameB x0 x1 y0 y1 r = false) ∧ Below ((W.alloc (.cells #[.int .i64 x0, .int .i64 x1] 40)).alloc (.cells #[.int .i64 y0, .int .i64 y1] 40)).heap.size ((W.alloc (.cells #[.int .i64 x0, .int .i64 x1] 40)).alloc (.cells #[.int .i64 y0, .int .i64 y1] 40)) wr) (fun i wr => rs.length - (intOf i).toNat)
  case atStart => exact ⟨0, Nat.zero_le _, rfl, fun j r hj => by omega, Below.refl _ _⟩
  case round =>
    obtain ⟨k, hk, rfl, hno, hb⟩ := hrel
    by_cases hlt : k < rs.length
    · have hlt' : (k : Int) < (rs.length : Int) := by omega
      have hp : rs[k]? = some rs[k] := List.getElem?_eq_getElem hlt
      rcases hr with rfl | ⟨g, o, rfl, hat⟩
      · cases hp
      obtain ⟨q0, q1, q2, q3, u4, u5, u6, u7⟩ := ((hat k _ hp).below bA).below hb
      clear u4 u5 u6 u7
      have e0 := (hb.cell (p := ⟨W.heap.size, 0, none⟩) (by rw [hX]; show W.heap.size < _; omega)).trans c0
      have e1 := (hb.cell (p := ⟨W.heap.size, 1, none⟩) (by rw [hX]; show W.heap.size < _; omega)).trans c1
      have f0 := (hb.cell (p := ⟨W.heap.size + 1, 0, none⟩) (by rw [hX]; show W.heap.size + 1 < _; omega)).trans d0
      have f1 := (hb.cell (p := ⟨W.heap.size + 1, 1, none⟩) (by rw [hX]; show W.heap.size + 1 < _; omega)).trans d1
      generalize rs[k] = r at hp q0 q1 q2 q3
      obtain ⟨a, b, c, d, us, uv, up, ds, dv, dn⟩ := r
      simp only at q0 q1 q2 q3
      have HN := (show Hid (∀ (j : Nat) (r : RF), j < k → rs[j]? = some r → sameB x0 x1 y0 y1 r = false) from hno)
      have HB := (show Hid (Below ((W.alloc (.cells #[.int .i64 x0, .int .i64 x1] 40)).alloc (.cells #[.int .i64 y0, .int .i64 y1] 40)).heap.size ((W.alloc (.cells #[.int .i64 x0, .int .i64 x1] 40)).alloc (.cells #[.int .i64 y0, .int .i64 y1] 40)) wr) from hb)
      have HA := (show Hid (Below W.heap.size W ((W.alloc (.cells #[.int .i64 x0, .int .i64 x1] 40)).alloc (.cells #[.int .i64 y0, .int .i64 y1] 40))) from bA)
      have HP := (show Hid (rs[k]? = some ⟨a, b, c, d, us, uv, up, ds, dv, dn⟩) from hp)
      have HS : Hid (sameB x0 x1 y0 y1 ⟨a, b, c, d, us, uv, up, ds, dv, dn⟩ = (decide (a = x0 ∧ b = x1) && decide (c = y0 ∧ d = y1))) := rfl
      clear c0 c1 d0 d1 hno hat hg hp hb bA
      by_cases h1 : a = x0 ∧ b = x1
      · by_cases h2 : c = y0 ∧ d = y1
        · obtain ⟨rfl, rfl⟩ := h1
          obtain ⟨rfl, rfl⟩ := h2
          have hf : Hid (flZ rs a b c d = (k : Int)) := by
            have e : fI rs a b c d = k := fI_some HP.out (by rw [HS.out]; simp) HN.out
            show flZ rs a b c d = (k : Int)
            unfold flZ; rw [e, if_pos hlt]
          go_wp2_with fail
          go_quiet (fail)
          go_wp2
          go_ret
          exact ⟨by rw [hf.out]; rfl, HA.out.trans ((HB.out.trans (Ms.below_drewN _ _ _)).mono HA.out.size)⟩
        · have hs := (show sameB x0 x1 y0 y1 ⟨a, b, c, d, us, uv, up, ds, dv, dn⟩ = false by rw [HS.out]; simp [h2])
          have HN2 : Hid (∀ (j : Nat) (r : RF), j < k + 1 → rs[j]? = some r → sameB x0 x1 y0 y1 r = false) := fun j r hj hr => by
            by_cases e : j = k
            · subst e; rw [HP.out] at hr; cases hr; exact hs
            · exact HN.out j r (by omega) hr
          obtain ⟨rfl, rfl⟩ := h1
          clear HN HS hs
          by_cases h3 : c = y0
          · have h4 : (d == y1) = false := by simp; exact fun h => h2 ⟨h3, h⟩
            subst h3
            go_wp2_with fail
            go_quiet (fail)
            go_wp2
            go_roundw
            case rel => exact ⟨k + 1, by omega, by go_num, HN2.out, HB.out.trans (Ms.below_drewN _ _ _)⟩
            case measure => simp [intOf]; omega
          · have h4 : (c == y0) = false := by simp; exact h3
            go_wp2_with fail
            go_quiet (fail)
            go_wp2
            go_roundw
            case rel => exact ⟨k + 1, by omega, by go_num, HN2.out, HB.out.trans (Ms.below_drewN _ _ _)⟩
            case measure => simp [intOf]; omega
      · have hs := (show sameB x0 x1 y0 y1 ⟨a, b, c, d, us, uv, up, ds, dv, dn⟩ = false by rw [HS.out]; simp [h1])
        have HN2 : Hid (∀ (j : Nat) (r : RF), j < k + 1 → rs[j]? = some r → sameB x0 x1 y0 y1 r = false) := fun j r hj hr => by
          by_cases e : j = k
          · subst e; rw [HP.out] at hr; cases hr; exact hs
          · exact HN.out j r (by omega) hr
        clear HN HS hs
        by_cases h3 : a = x0
        · have h4 : (b == x1) = false := by simp; exact fun h => h1 ⟨h3, h⟩
          subst h3
          go_wp2_with fail
          go_quiet (fail)
          go_wp2
          go_roundw
          case rel => exact ⟨k + 1, by omega, by go_num, HN2.out, HB.out.trans (Ms.below_drewN _ _ _)⟩
          case measure => simp [intOf]; omega
        · have h4 : (a == x0) = false := by simp; exact h3
          go_wp2_with fail
          go_quiet (fail)
          go_wp2
          go_roundw
          case rel => exact ⟨k + 1, by omega, by go_num, HN2.out, HB.out.trans (Ms.below_drewN _ _ _)⟩
          case measure => simp [intOf]; omega
    · have hge : (rs.length : Int) ≤ (k : Int) := by omega
      have hf : flZ rs x0 x1 y0 y1 = -1 := by
        have e : fI rs x0 x1 y0 y1 = rs.length := fI_none fun j r hr => hno j r (by have := (List.getElem?_eq_some_iff.1 hr).1; omega) hr
        unfold flZ; rw [e, if_neg (Nat.lt_irrefl _)]
      go_wp2
      go_ret
      exact ⟨by rw [hf]; rfl, bA.trans (hb.mono bA.size)⟩
set_option maxRecDepth 8000 in
set_option maxHeartbeats 16000000 in
theorem sdoor_any (m : List (Int × Int × Int)) (mv fv : Value) (rs : List RF) (W : World) (hM : IsM W mv m) (hF : IsF W fv rs) (hml : m.length ≤ 1073741824) (hfl : rs.length ≤ 1073741824)
    (hsz : ∀ r ∈ rs, r.us.size ≤ 1073741824 ∧ (∀ p ∈ r.up, p.2.size ≤ 1073741824) ∧ r.ds.size ≤ 1073741824 ∧ ∀ p ∈ r.dn, p.2.size ≤ 1073741824) :
    Calls Tryz.prog 8 #[.agg #[mv, fv]] W fun r W' => r = .returned (.bool (doorB m rs)) ∧ Below W.heap.size W W' := by
  have bA : Below W.heap.size W (W.alloc (.cells #[mv, fv] 31)) := (Below.refl _ _).alloc (Nat.le_refl _) _
  have c0 : (W.alloc (.cells #[mv, fv] 31)).cell? ⟨W.heap.size, 0, none⟩ = some mv := by simp [go_sem]
  have c1 : (W.alloc (.cells #[mv, fv] 31)).cell? ⟨W.heap.size, 1, none⟩ = some fv := by simp [go_sem]
  have hlA : W.heap.size < (W.alloc (.cells #[mv, fv] 31)).heap.size := by simp
  obtain ⟨⟨fa, fc, rfl, hc, hcm, hr⟩, hg⟩ := id hF
  obtain ⟨ma, mc, rfl⟩ := isM_slice hM
  go_enter Tryz.func8, Tryz.ntmps8
  go_wp2_with fail
  refine (sok_any _ _ m (hM.below bA) hml).mono ?_
  rintro e w1 ⟨rfl, k1⟩
  have a0 := (k1.cell (p := ⟨W.heap.size, 0, none⟩) hlA).trans c0
  have a1 := (k1.cell (p := ⟨W.heap.size, 1, none⟩) hlA).trans c1
  have b1 := bA.trans (k1.mono (by simp))
  have l1 := Nat.lt_of_lt_of_le hlA k1.size
  clear k1 c0 c1 hlA bA
  cases hok : okM m
  · go_wp2
    go_ret
    exact ⟨by rw [doorB_map hok]; rfl, b1⟩
  · by_cases h4 : rs.length ≤ 4
    · have h4' : (rs.length : Int) ≤ 4 := by omega
      go_wp2
      go_loopw [3] (fun i wr => ∃ k : Nat, k ≤ rs.length ∧ i = .int .i64 k ∧ (∀ (j : Nat) (r : RF), j < k → rs[j]? = some r → flB m rs j r = true) ∧ Below w1.heap.size w1 wr) (fun i wr => rs.length - (intOf i).toNat)
      case atStart => exact ⟨0, Nat.zero_le _, rfl, fun j r hj => by omega, Below.refl _ _⟩
      case round =>
        obtain ⟨k, hk, rfl, hup, hb⟩ := hrel
        by_cases hkl : k < rs.length
        · have hkl' : (k : Int) < (rs.length : Int) := by omega
          have hp : rs[k]? = some rs[k] := List.getElem?_eq_getElem hkl
          have hmem : rs[k] ∈ rs := List.getElem_mem hkl
          rcases hr with rfl | ⟨g, o, rfl, hat⟩
          · simp at hp
          obtain ⟨x0, x1, x2, x3, x4, x5, x6, x7⟩ := ((hat k _ hp).below b1).below hb
          obtain ⟨z1, z2, z3, z4⟩ := hsz _ hmem
          obtain ⟨g1, g2⟩ := (hg.below (b1.trans (hb.mono b1.size))) _ hmem
          have y0 := (hb.cell (p := ⟨W.heap.size, 0, none⟩) l1).trans a0
          have y1 := (hb.cell (p := ⟨W.heap.size, 1, none⟩) l1).trans a1
          have bw := b1.trans (hb.mono b1.size)
          have lw := Nat.lt_of_lt_of_le l1 hb.size
          have hMw := hM.below bw
          have hFw := hF.below bw
          have hft := fI_take hp
          have hfb := @doorB_bad m rs k _ hp
          have hfg : flB m rs k rs[k] = true → ∀ (j : Nat) (r : RF), j < k + 1 → rs[j]? = some r → flB m rs j r = true := fun h j r hj hr => by
            by_cases e : j = k
            · subst e; rw [hp] at hr; cases hr; exact h
            · exact hup j r (by omega) hr
          generalize rs[k] = r at hp x0 x1 x2 x3 x4 x5 x6 x7 hmem z1 z2 z3 z4 g1 g2 hft hfb hfg
          obtain ⟨a, b, c, d, us, uv, up, ds, dv, dn⟩ := r
          simp only at x0 x1 x2 x3 x4 x5 x6 x7 z1 z2 z3 z4 g1 g2 hft
          have HFB := (show Hid (flB m rs k ⟨a, b, c, d, us, uv, up, ds, dv, dn⟩ = false → doorB m rs = false) from hfb)
          have HFG := (show Hid (flB m rs k ⟨a, b, c, d, us, uv, up, ds, dv, dn⟩ = true → ∀ (j : Nat) (r : RF), j < k + 1 → rs[j]? = some r → flB m rs j r = true) from hfg)
          have HFT := (show Hid (fI (rs.take k) a b c d = k ↔ fI rs a b c d = k) from hft)
          have HB := (show Hid (Below w1.heap.size w1 wr) from hb)
          have HBW := (show Hid (Below W.heap.size W wr) from bw)
          obtain ⟨ua, uc, rfl, -⟩ := id g1
          obtain ⟨da, dc, rfl, -⟩ := id g2
          clear hup hb hp hmem hft hfb hfg a0 a1 hat hg hM hF b1 hsz bw
          have hN : (wr.alloc (.cells #[.int .i64 a, .int .i64 b, .int .i64 c, .int .i64 d, .string us, .slice ua up.length uc, .string ds, .slice da dn.length dc] 56)).heap[wr.heap.size]? = some (ob8 56 (.int .i64 a) (.int .i64 b) (.int .i64 c) (.int .i64 d) (.string us) (.slice ua up.length uc) (.string ds) (.slice da dn.length dc)) := World.alloc_heap_new _ _
          have bN : Below wr.heap.size wr (wr.alloc (.cells #[.int .i64 a, .int .i64 b, .int .i64 c, .int .i64 d, .string us, .slice ua up.length uc, .string ds, .slice da dn.length dc] 56)) := (Below.refl _ _).alloc (Nat.le_refl _) _
          go_wp2
          clear x0 x1 x2 x3 x4 x5 x6 x7
          generalize (wr.alloc (.cells #[.int .i64 a, .int .i64 b, .int .i64 c, .int .i64 d, .string us, .slice ua up.length uc, .string ds, .slice da dn.length dc] 56)) = wn at *
          have hln := lt_ob hN
          have v0 := (bN.cell (p := ⟨W.heap.size, 0, none⟩) lw).trans y0
          have v1 := (bN.cell (p := ⟨W.heap.size, 1, none⟩) lw).trans y1
          have ln := Nat.lt_of_lt_of_le lw bN.size
          have hMn := hMw.below bN
          have hFn := hFw.below bN
          have gn1 := g1.below bN
          have gn2 := g2.below bN
          have HBW2 := (show Hid (Below W.heap.size W wn) from HBW.out.trans (bN.mono HBW.out.size))
          have HB2 := (show Hid (Below w1.heap.size w1 wn) from HB.out.trans (bN.mono HB.out.size))
          clear y0 y1 hMw hFw g1 g2 bN HB HBW lw
          generalize wr.heap.size = F at *
          go_loopw [5, 6] (fun hv i wq => ∃ q : Nat, q ≤ m.length ∧ i = .int .i64 q ∧ hv = .bool (hasB (m.take q) a b) ∧ Below wn.heap.size wn wq) (fun hv i wq => m.length - (intOf i).toNat)
          case atStart => exact ⟨0, Nat.zero_le _, rfl, by simp [hasB], Below.refl _ _⟩
          case round =>
            obtain ⟨q, hq, rfl, rfl, hbq⟩ := hrel
            obtain ⟨n0, n1, n2, n3, n4, n5, n6, n7, nf⟩ := ob8_in ((hbq.block _ hln).trans hN)
            have t0 := (hbq.cell (p := ⟨W.heap.size, 0, none⟩) ln).trans v0
            have t1 := (hbq.cell (p := ⟨W.heap.size, 1, none⟩) ln).trans v1
            by_cases hql : q < m.length
            · have hql' : (q : Int) < (m.length : Int) := by omega
              have hpq : m[q]? = some m[q] := List.getElem?_eq_getElem hql
              have hst := hasB_step hpq a b
              obtain ⟨_, _, ea, _, _, _, r0, r1, r2⟩ := isM_at (hMn.below hbq) q _ hpq
              subst ea
              generalize m[q] = p at hpq r0 r1 r2 hst
              obtain ⟨po, pa, pb⟩ := p
              simp only at r0 r1 r2 hst
              have HS := (show Hid (hasB (m.take (q + 1)) a b = (hasB (m.take q) a b || decide ((pa, pb) = (a, b)))) from hst)
              have HQ := (show Hid (Below wn.heap.size wn _) from hbq)
              clear hst hpq hbq n2 n3 n4 n5 n6 n7 nf r0 v0 v1 hN hMn hFn gn1 gn2
              cases hh : hasB (m.take q) a b
              · by_cases e1 : pa = a
                · by_cases e2 : pb = b
                  · subst e1 e2
                    have hs2 := HS.out
                    rw [hh] at hs2
                    simp at hs2
                    go_wp2_with fail
                    go_quiet (fail)
                    go_wp2
                    go_roundw
                    case rel => exact ⟨q + 1, by omega, by go_num, by rw [hs2], HQ.out.trans (Ms.below_drewN _ _ _)⟩
                    case measure => simp [intOf]; omega
                  · have h2 : (pb == b) = false := by simpa using e2
                    have hs2 := HS.out
                    rw [hh, decide_eq_false (by simp [e2])] at hs2
                    subst e1
                    clear e2
                    go_wp2_with fail
                    go_quiet (fail)
                    go_wp2
                    go_roundw
                    case rel => exact ⟨q + 1, by omega, by go_num, by rw [hs2]; rfl, HQ.out.trans (Ms.below_drewN _ _ _)⟩
                    case measure => simp [intOf]; omega
                · have h2 : (pa == a) = false := by simpa using e1
                  have hs2 := HS.out
                  rw [hh, decide_eq_false (by simp [e1])] at hs2
                  clear e1
                  go_wp2_with fail
                  go_quiet (fail)
                  go_wp2
                  go_roundw
                  case rel => exact ⟨q + 1, by omega, by go_num, by rw [hs2]; rfl, HQ.out.trans (Ms.below_drewN _ _ _)⟩
                  case measure => simp [intOf]; omega
              · have hs2 := HS.out
                rw [hh] at hs2
                go_wp2_with fail
                go_quiet (fail)
                go_wp2
                go_roundw
                case rel => exact ⟨q + 1, by omega, by go_num, by rw [hs2]; rfl, HQ.out.trans (Ms.below_drewN _ _ _)⟩
                case measure => simp [intOf]; omega
            · have hge : (m.length : Int) ≤ (q : Int) := by omega
              have htk : m.take q = m := List.take_of_length_le (by omega)
              rw [htk]
              have HFL := (show Hid (flB m rs k ⟨a, b, c, d, us, .slice ua up.length uc, up, ds, .slice da dn.length dc, dn⟩ = (hasB m a b && isB 2 c d && decide (fI rs a b c d = k) && stB us up && stB ds dn)) from rfl)
              have hFq := isF_take (hFn.below hbq) k (Nat.le_of_lt hkl)
              have gq1 := gn1.below hbq
              have gq2 := gn2.below hbq
              have HB3 := (show Hid (Below w1.heap.size w1 wr) from HB2.out.trans (hbq.mono HB2.out.size))
              have HBW3 := (show Hid (Below W.heap.size W wr) from HBW2.out.trans (hbq.mono HBW2.out.size))
              have lF := Nat.lt_of_lt_of_le hln hbq.size
              have lW := Nat.lt_of_lt_of_le ln hbq.size
              clear hbq htk hFn gn1 gn2 HB2 HBW2 hln ln hge hN v0 v1
              cases hh : hasB m a b
              · have hbad := (show Hid _ from HFB.out (by rw [HFL.out, hh]; rfl))
                go_wp2_with fail
                go_quiet (fail)
                go_wp2
                go_ret
                exact ⟨by rw [hbad.out]; rfl, HBW3.out.trans (Ms.below_drewN _ _ _)⟩
              · go_upto_region 12 with fail
                cases ho : isB 2 c d
                · have hmix : Tryz.prog.follows .mixedOrders = true := by kernel_rfl
                  obtain ⟨VV, hVV⟩ : ∃ VV : Nat → Value, VV = fun j => [(.bool true : Value), .bool false, .bool false, .pointer (some ⟨F, 2, none⟩), .agg #[.int .i64 c, .int .i64 d], .bool false, .bool true, .bool true, .bool true, undef, undef, undef, undef, .bool true, .bool true, undef, undef, undef, undef, .bool true, .bool true, undef, undef, undef, undef, undef, undef, undef, undef, undef, undef, .bool true].getD j undef := ⟨_, rfl⟩
                  have V0 : VV 0 = .bool true := by rw [hVV]; rfl
                  have V1 : VV 1 = .bool false := by rw [hVV]; rfl
                  have V2 : VV 2 = .bool false := by rw [hVV]; rfl
                  have V3 : VV 3 = .pointer (some ⟨F, 2, none⟩) := by rw [hVV]; rfl
                  have V4 : VV 4 = .agg #[.int .i64 c, .int .i64 d] := by rw [hVV]; rfl
                  have V5 : VV 5 = .bool false := by rw [hVV]; rfl
                  have V6 : VV 6 = .bool true := by rw [hVV]; rfl
                  have V7 : VV 7 = .bool true := by rw [hVV]; rfl
                  have V8 : VV 8 = .bool true := by rw [hVV]; rfl
                  have V9 : VV 9 = undef := by rw [hVV]; rfl
                  have V10 : VV 10 = undef := by rw [hVV]; rfl
                  have V11 : VV 11 = undef := by rw [hVV]; rfl
                  have V12 : VV 12 = undef := by rw [hVV]; rfl
                  have V13 : VV 13 = .bool true := by rw [hVV]; rfl
                  have V14 : VV 14 = .bool true := by rw [hVV]; rfl
                  have V15 : VV 15 = undef := by rw [hVV]; rfl
                  have V16 : VV 16 = undef := by rw [hVV]; rfl
                  have V17 : VV 17 = undef := by rw [hVV]; rfl
                  have V18 : VV 18 = undef := by rw [hVV]; rfl
                  have V19 : VV 19 = .bool true := by rw [hVV]; rfl
                  have V20 : VV 20 = .bool true := by rw [hVV]; rfl
                  have V21 : VV 21 = undef := by rw [hVV]; rfl
                  have V22 : VV 22 = undef := by rw [hVV]; rfl
                  have V23 : VV 23 = undef := by rw [hVV]; rfl
                  have V24 : VV 24 = undef := by rw [hVV]; rfl
                  have V25 : VV 25 = undef := by rw [hVV]; rfl
                  have V26 : VV 26 = undef := by rw [hVV]; rfl
                  have V27 : VV 27 = undef := by rw [hVV]; rfl
                  have V28 : VV 28 = undef := by rw [hVV]; rfl
                  have V29 : VV 29 = undef := by rw [hVV]; rfl
                  have V30 : VV 30 = undef := by rw [hVV]; rfl
                  have V31 : VV 31 = .bool true := by rw [hVV]; rfl
                  clear hVV
                  refine wp_region_any hmix ?_
                  refine Ri.any_inv (I := fun l a' w' => l.size = 32 ∧ ∃ t : Nat → Value, a' = { tmps := #[(Value.agg #[Value.slice ma m.length mc, Value.slice (some { block := g, off := o }) rs.length fc] : Value), Value.pointer (some { block := W.heap.size, off := 0 }), u2, Value.int IntKind.i64 ↑k, Value.pointer (some { block := F, off := 0 }), Value.bool true, Value.int IntKind.i64 ↑q, Value.pointer (some { block := W.heap.size, off := 0 }), Value.slice ma m.length mc, Value.bool true, Value.bool false, Value.bool false, Value.pointer (some { block := W.heap.size, off := 1 }), Value.slice (some { block := g, off := o }) rs.length fc, Value.int IntKind.i64 ↑rs.length, Value.bool (decide ((4 : Int) < ((rs.length : Nat) : Int))), Value.bool (decide ((4 : Int) < ((rs.length : Nat) : Int))), Value.int IntKind.i64 ↑k, Value.pointer (some { block := W.heap.size, off := 1 }), Value.slice (some { block := g, off := o }) rs.length fc, Value.int IntKind.i64 ↑rs.length, Value.bool true, u22, u23, Value.pointer (some { block := W.heap.size, off := 1 }), Value.slice (some { block := g, off := o }) rs.length fc, Value.int IntKind.i64 ↑k, Value.pointer (some { block := g, off := o + k * 8 }), Value.agg #[Value.int IntKind.i64 a, Value.int IntKind.i64 b, Value.int IntKind.i64 c, Value.int IntKind.i64 d, Value.string us, Value.slice ua up.length uc, Value.string ds, Value.slice da dn.length dc], Value.int IntKind.i64 ↑q, Value.pointer (some { block := W.heap.size, off := 0 }), Value.slice ma m.length mc, Value.int IntKind.i64 ↑m.length, Value.bool false, u34, u35, u36, u37, u38, u39, u40, u41, u42, u43, u44, u45, u46, u47, t 0, t 1, t 2, t 3, t 4, t 5, t 6, t 7, t 8, t 9, t 10, t 11, t 12, t 13, t 14, t 15, t 16, t 17, t 18, t 19, t 20, t 21, t 22, t 23, t 24, t 25, t 26, t 27, t 28, t 29, t 30, t 31], defers := [] } ∧ Rg.Vals l VV t ∧ Hid (Below wr.heap.size wr w')) ?sz ?low ?step ?fin _ _ _ _ ?start (Ri.closed_none _ _ _) (Rg.left_all _)
                  case sz => exact fun l a' w' h => h.1
                  case start => exact ⟨by simp, fun j => ([u48, u49, u50, u51, u52, u53, u54, u55, u56, u57, u58, u59, u60, u61, u62, u63, u64, u65, u66, u67, u68, u69, u70, u71, u72, u73, u74, u75, u76, u77, u78, u79] : List Value).getD j undef, rfl, Rg.vals_none _ _ _, (Below.refl _ _).drew⟩
                  case low => exact Ri.low_of (by kernel_rfl)
                  case step =>
                    rintro l a' w' i ⟨hsz, t, rfl, hv, HW⟩ hcl hi
                    obtain ⟨h0, op, ho, hd⟩ := mem_ready.1 hi
                    have hin : i < 32 := (Array.getElem?_eq_some_iff.1 ho).1
                    clear h0 hi hcl
                    have hc : i = 0 ∨ i = 1 ∨ i = 2 ∨ i = 3 ∨ i = 4 ∨ i = 5 ∨ i = 6 ∨ i = 7 ∨ i = 8 ∨ i = 9 ∨ i = 10 ∨ i = 11 ∨ i = 12 ∨ i = 13 ∨ i = 14 ∨ i = 15 ∨ i = 16 ∨ i = 17 ∨ i = 18 ∨ i = 19 ∨ i = 20 ∨ i = 21 ∨ i = 22 ∨ i = 23 ∨ i = 24 ∨ i = 25 ∨ i = 26 ∨ i = 27 ∨ i = 28 ∨ i = 29 ∨ i = 30 ∨ i = 31 := by omega
                    rcases hc with rfl | rfl | rfl | rfl | rfl | rfl | rfl | rfl | rfl | rfl | rfl | rfl | rfl | rfl | rfl | rfl | rfl | rfl | rfl | rfl | rfl | rfl | rfl | rfl | rfl | rfl | rfl | rfl | rfl | rfl | rfl | rfl
                    · obtain rfl : _ = op := Option.some.inj (show some _ = some op from ho)
                      have HV := (show Hid (Rg.Vals l VV t) from hv)
                      clear hv hd ho
                      refine wpOp_step rfl fun K9 hK9 => ?_
                      have HKK := (show Hid _ from hK9)
                      clear hK9
                      go_simp
                      exact HKK.out _ _ ⟨by simp [hsz], fun j => if j = 0 then .bool true else t j, by simp, HV.out.put 0 _ V0.symm, HW⟩
                    · obtain rfl : _ = op := Option.some.inj (show some _ = some op from ho)
                      have e0 : t 0 = .bool true := (hv 0 (hd { on := 0, ground := .data } (by simp) rfl)).trans V0
                      have HV := (show Hid (Rg.Vals l VV t) from hv)
                      clear hv hd ho
                      refine wpOp_step rfl fun K9 hK9 => ?_
                      have HKK := (show Hid _ from hK9)
                      clear hK9
                      go_simp
                      exact HKK.out _ _ ⟨by simp [hsz], fun j => if j = 1 then .bool false else t j, by simp [e0], HV.out.put 1 _ V1.symm, HW⟩
                    · obtain rfl : _ = op := Option.some.inj (show some _ = some op from ho)
                      have e1 : t 1 = .bool false := (hv 1 (hd { on := 1, ground := .data } (by simp) rfl)).trans V1
                      have HV := (show Hid (Rg.Vals l VV t) from hv)
                      clear hv hd ho
                      refine wpOp_step rfl fun K9 hK9 => ?_
                      have HKK := (show Hid _ from hK9)
                      clear hK9
                      go_simp
                      exact HKK.out _ _ ⟨by simp [hsz], fun j => if j = 2 then .bool false else t j, by simp [e1], HV.out.put 2 _ V2.symm, HW⟩
                    · obtain rfl : _ = op := Option.some.inj (show some _ = some op from ho)
                      have e2 : t 2 = .bool false := (hv 2 (hd { on := 2, ground := .guard } (by simp) rfl)).trans V2
                      have HV := (show Hid (Rg.Vals l VV t) from hv)
                      clear hv hd ho
                      refine wpOp_step rfl fun K9 hK9 => ?_
                      have HKK := (show Hid _ from hK9)
                      clear hK9
                      go_simp
                      exact HKK.out _ _ ⟨by simp [hsz], fun j => if j = 3 then .pointer (some ⟨F, 2, none⟩) else t j, by simp [e2], HV.out.put 3 _ V3.symm, HW⟩
                    · obtain rfl : _ = op := Option.some.inj (show some _ = some op from ho)
                      have e3 : t 3 = .pointer (some ⟨F, 2, none⟩) := (hv 3 (hd { on := 3, ground := .data } (by simp) rfl)).trans V3
                      have e2 : t 2 = .bool false := (hv 2 (hd { on := 2, ground := .guard } (by simp) rfl)).trans V2
                      have yn0 : w'.cell? ⟨F, 0, none⟩ = some (.int .i64 a) := (HW.out.cell (p := ⟨F, 0, none⟩) lF).trans n0
                      have yn1 : w'.cell? ⟨F, 1, none⟩ = some (.int .i64 b) := (HW.out.cell (p := ⟨F, 1, none⟩) lF).trans n1
                      have yn2 : w'.cell? ⟨F, 2, none⟩ = some (.int .i64 c) := (HW.out.cell (p := ⟨F, 2, none⟩) lF).trans n2
                      have yn3 : w'.cell? ⟨F, 3, none⟩ = some (.int .i64 d) := (HW.out.cell (p := ⟨F, 3, none⟩) lF).trans n3
                      have yn4 : w'.cell? ⟨F, 4, none⟩ = some (.string us) := (HW.out.cell (p := ⟨F, 4, none⟩) lF).trans n4
                      have yn5 : w'.cell? ⟨F, 5, none⟩ = some (.slice ua up.length uc) := (HW.out.cell (p := ⟨F, 5, none⟩) lF).trans n5
                      have yn6 : w'.cell? ⟨F, 6, none⟩ = some (.string ds) := (HW.out.cell (p := ⟨F, 6, none⟩) lF).trans n6
                      have yn7 : w'.cell? ⟨F, 7, none⟩ = some (.slice da dn.length dc) := (HW.out.cell (p := ⟨F, 7, none⟩) lF).trans n7
                      have yt1 : w'.cell? ⟨W.heap.size, 1, none⟩ = some (.slice (some ⟨g, o, none⟩) rs.length fc) := (HW.out.cell (p := ⟨W.heap.size, 1, none⟩) lW).trans t1
                      have HV := (show Hid (Rg.Vals l VV t) from hv)
                      clear hv hd ho
                      refine wpOp_step rfl fun K9 hK9 => ?_
                      have HKK := (show Hid _ from hK9)
                      clear hK9
                      go_simp
                      exact HKK.out _ _ ⟨by simp [hsz], fun j => if j = 4 then .agg #[.int .i64 c, .int .i64 d] else t j, by simp [e3, e2], HV.out.put 4 _ V4.symm, HW⟩
                    · obtain rfl : _ = op := Option.some.inj (show some _ = some op from ho)
                      have e4 : t 4 = .agg #[.int .i64 c, .int .i64 d] := (hv 4 (hd { on := 4, ground := .data } (by simp) rfl)).trans V4
                      have e2 : t 2 = .bool false := (hv 2 (hd { on := 2, ground := .guard } (by simp) rfl)).trans V2
                      have HV := (show Hid (Rg.Vals l VV t) from hv)
                      clear hv hd ho
                      refine wpOp_step rfl fun K9 hK9 => ?_
                      have HKK := (show Hid _ from hK9)
                      clear hK9
                      go_simp
                      refine (spec2 c d _).mono ?_
                      rintro e w9 ⟨rfl, k9⟩
                      rw [ho]
                      refine HKK.out _ _ ⟨by simp [hsz], fun j => if j = 5 then .bool false else t j, by simp [e4, e2], HV.out.put 5 _ V5.symm, HW.out.trans (k9.mono HW.out.size)⟩
                    · obtain rfl : _ = op := Option.some.inj (show some _ = some op from ho)
                      have e5 : t 5 = .bool false := (hv 5 (hd { on := 5, ground := .data } (by simp) rfl)).trans V5
                      have e2 : t 2 = .bool false := (hv 2 (hd { on := 2, ground := .guard } (by simp) rfl)).trans V2
                      have HV := (show Hid (Rg.Vals l VV t) from hv)
                      clear hv hd ho
                      refine wpOp_step rfl fun K9 hK9 => ?_
                      have HKK := (show Hid _ from hK9)
                      clear hK9
                      go_simp
                      exact HKK.out _ _ ⟨by simp [hsz], fun j => if j = 6 then .bool true else t j, by simp [e5, e2], HV.out.put 6 _ V6.symm, HW⟩
                    · obtain rfl : _ = op := Option.some.inj (show some _ = some op from ho)
                      have e2 : t 2 = .bool false := (hv 2 (hd { on := 2, ground := .data } (by simp) rfl)).trans V2
                      have e6 : t 6 = .bool true := (hv 6 (hd { on := 6, ground := .data } (by simp) rfl)).trans V6
                      have HV := (show Hid (Rg.Vals l VV t) from hv)
                      clear hv hd ho
                      refine wpOp_step rfl fun K9 hK9 => ?_
                      have HKK := (show Hid _ from hK9)
                      clear hK9
                      go_simp
                      exact HKK.out _ _ ⟨by simp [hsz], fun j => if j = 7 then .bool true else t j, by simp [e2, e6], HV.out.put 7 _ V7.symm, HW⟩
                    · obtain rfl : _ = op := Option.some.inj (show some _ = some op from ho)
                      have e7 : t 7 = .bool true := (hv 7 (hd { on := 7, ground := .data } (by simp) rfl)).trans V7
                      have HV := (show Hid (Rg.Vals l VV t) from hv)
                      clear hv hd ho
                      refine wpOp_step rfl fun K9 hK9 => ?_
                      have HKK := (show Hid _ from hK9)
                      clear hK9
                      go_simp
                      exact HKK.out _ _ ⟨by simp [hsz], fun j => if j = 8 then .bool true else t j, by simp [e7], HV.out.put 8 _ V8.symm, HW⟩
                    · obtain rfl : _ = op := Option.some.inj (show some _ = some op from ho)
                      have e8 : t 8 = .bool true := (hv 8 (hd { on := 8, ground := .guard } (by simp) rfl)).trans V8
                      have HV := (show Hid (Rg.Vals l VV t) from hv)
                      clear hv hd ho
                      refine wpOp_step rfl fun K9 hK9 => ?_
                      have HKK := (show Hid _ from hK9)
                      clear hK9
                      go_simp
                      exact HKK.out _ _ ⟨by simp [hsz], fun j => if j = 9 then undef else t j, by simp [e8], HV.out.put 9 _ V9.symm, HW⟩
                    · obtain rfl : _ = op := Option.some.inj (show some _ = some op from ho)
                      have e9 : t 9 = undef := (hv 9 (hd { on := 9, ground := .data } (by simp) rfl)).trans V9
                      have e8 : t 8 = .bool true := (hv 8 (hd { on := 8, ground := .guard } (by simp) rfl)).trans V8
                      have yn0 : w'.cell? ⟨F, 0, none⟩ = some (.int .i64 a) := (HW.out.cell (p := ⟨F, 0, none⟩) lF).trans n0
                      have yn1 : w'.cell? ⟨F, 1, none⟩ = some (.int .i64 b) := (HW.out.cell (p := ⟨F, 1, none⟩) lF).trans n1
                      have yn2 : w'.cell? ⟨F, 2, none⟩ = some (.int .i64 c) := (HW.out.cell (p := ⟨F, 2, none⟩) lF).trans n2
                      have yn3 : w'.cell? ⟨F, 3, none⟩ = some (.int .i64 d) := (HW.out.cell (p := ⟨F, 3, none⟩) lF).trans n3
                      have yn4 : w'.cell? ⟨F, 4, none⟩ = some (.string us) := (HW.out.cell (p := ⟨F, 4, none⟩) lF).trans n4
                      have yn5 : w'.cell? ⟨F, 5, none⟩ = some (.slice ua up.length uc) := (HW.out.cell (p := ⟨F, 5, none⟩) lF).trans n5
                      have yn6 : w'.cell? ⟨F, 6, none⟩ = some (.string ds) := (HW.out.cell (p := ⟨F, 6, none⟩) lF).trans n6
                      have yn7 : w'.cell? ⟨F, 7, none⟩ = some (.slice da dn.length dc) := (HW.out.cell (p := ⟨F, 7, none⟩) lF).trans n7
                      have yt1 : w'.cell? ⟨W.heap.size, 1, none⟩ = some (.slice (some ⟨g, o, none⟩) rs.length fc) := (HW.out.cell (p := ⟨W.heap.size, 1, none⟩) lW).trans t1
                      have HV := (show Hid (Rg.Vals l VV t) from hv)
                      clear hv hd ho
                      refine wpOp_step rfl fun K9 hK9 => ?_
                      have HKK := (show Hid _ from hK9)
                      clear hK9
                      go_simp
                      exact HKK.out _ _ ⟨by simp [hsz], fun j => if j = 10 then undef else t j, by simp [e9, e8], HV.out.put 10 _ V10.symm, HW⟩
                    · obtain rfl : _ = op := Option.some.inj (show some _ = some op from ho)
                      have e10 : t 10 = undef := (hv 10 (hd { on := 10, ground := .data } (by simp) rfl)).trans V10
                      have e8 : t 8 = .bool true := (hv 8 (hd { on := 8, ground := .guard } (by simp) rfl)).trans V8
                      have HV := (show Hid (Rg.Vals l VV t) from hv)
                      clear hv hd ho
                      refine wpOp_step rfl fun K9 hK9 => ?_
                      have HKK := (show Hid _ from hK9)
                      clear hK9
                      go_simp
                      exact HKK.out _ _ ⟨by simp [hsz], fun j => if j = 11 then undef else t j, by simp [e10, e8], HV.out.put 11 _ V11.symm, HW⟩
                    · obtain rfl : _ = op := Option.some.inj (show some _ = some op from ho)
                      have e11 : t 11 = undef := (hv 11 (hd { on := 11, ground := .data } (by simp) rfl)).trans V11
                      have e8 : t 8 = .bool true := (hv 8 (hd { on := 8, ground := .guard } (by simp) rfl)).trans V8
                      have HV := (show Hid (Rg.Vals l VV t) from hv)
                      clear hv hd ho
                      refine wpOp_step rfl fun K9 hK9 => ?_
                      have HKK := (show Hid _ from hK9)
                      clear hK9
                      go_simp
                      exact HKK.out _ _ ⟨by simp [hsz], fun j => if j = 12 then undef else t j, by simp [e11, e8], HV.out.put 12 _ V12.symm, HW⟩
                    · obtain rfl : _ = op := Option.some.inj (show some _ = some op from ho)
                      have e8 : t 8 = .bool true := (hv 8 (hd { on := 8, ground := .data } (by simp) rfl)).trans V8
                      have e12 : t 12 = undef := (hv 12 (hd { on := 12, ground := .data } (by simp) rfl)).trans V12
                      have HV := (show Hid (Rg.Vals l VV t) from hv)
                      clear hv hd ho
                      refine wpOp_step rfl fun K9 hK9 => ?_
                      have HKK := (show Hid _ from hK9)
                      clear hK9
                      go_simp
                      exact HKK.out _ _ ⟨by simp [hsz], fun j => if j = 13 then .bool true else t j, by simp [e8, e12], HV.out.put 13 _ V13.symm, HW⟩
                    · obtain rfl : _ = op := Option.some.inj (show some _ = some op from ho)
                      have e13 : t 13 = .bool true := (hv 13 (hd { on := 13, ground := .data } (by simp) rfl)).trans V13
                      have HV := (show Hid (Rg.Vals l VV t) from hv)
                      clear hv hd ho
                      refine wpOp_step rfl fun K9 hK9 => ?_
                      have HKK := (show Hid _ from hK9)
                      clear hK9
                      go_simp
                      exact HKK.out _ _ ⟨by simp [hsz], fun j => if j = 14 then .bool true else t j, by simp [e13], HV.out.put 14 _ V14.symm, HW⟩
                    · obtain rfl : _ = op := Option.some.inj (show some _ = some op from ho)
                      have e14 : t 14 = .bool true := (hv 14 (hd { on := 14, ground := .guard } (by simp) rfl)).trans V14
                      have HV := (show Hid (Rg.Vals l VV t) from hv)
                      clear hv hd ho
                      refine wpOp_step rfl fun K9 hK9 => ?_
                      have HKK := (show Hid _ from hK9)
                      clear hK9
                      go_simp
                      exact HKK.out _ _ ⟨by simp [hsz], fun j => if j = 15 then undef else t j, by simp [e14], HV.out.put 15 _ V15.symm, HW⟩
                    · obtain rfl : _ = op := Option.some.inj (show some _ = some op from ho)
                      have e15 : t 15 = undef := (hv 15 (hd { on := 15, ground := .data } (by simp) rfl)).trans V15
                      have e14 : t 14 = .bool true := (hv 14 (hd { on := 14, ground := .guard } (by simp) rfl)).trans V14
                      have yn0 : w'.cell? ⟨F, 0, none⟩ = some (.int .i64 a) := (HW.out.cell (p := ⟨F, 0, none⟩) lF).trans n0
                      have yn1 : w'.cell? ⟨F, 1, none⟩ = some (.int .i64 b) := (HW.out.cell (p := ⟨F, 1, none⟩) lF).trans n1
                      have yn2 : w'.cell? ⟨F, 2, none⟩ = some (.int .i64 c) := (HW.out.cell (p := ⟨F, 2, none⟩) lF).trans n2
                      have yn3 : w'.cell? ⟨F, 3, none⟩ = some (.int .i64 d) := (HW.out.cell (p := ⟨F, 3, none⟩) lF).trans n3
                      have yn4 : w'.cell? ⟨F, 4, none⟩ = some (.string us) := (HW.out.cell (p := ⟨F, 4, none⟩) lF).trans n4
                      have yn5 : w'.cell? ⟨F, 5, none⟩ = some (.slice ua up.length uc) := (HW.out.cell (p := ⟨F, 5, none⟩) lF).trans n5
                      have yn6 : w'.cell? ⟨F, 6, none⟩ = some (.string ds) := (HW.out.cell (p := ⟨F, 6, none⟩) lF).trans n6
                      have yn7 : w'.cell? ⟨F, 7, none⟩ = some (.slice da dn.length dc) := (HW.out.cell (p := ⟨F, 7, none⟩) lF).trans n7
                      have yt1 : w'.cell? ⟨W.heap.size, 1, none⟩ = some (.slice (some ⟨g, o, none⟩) rs.length fc) := (HW.out.cell (p := ⟨W.heap.size, 1, none⟩) lW).trans t1
                      have HV := (show Hid (Rg.Vals l VV t) from hv)
                      clear hv hd ho
                      refine wpOp_step rfl fun K9 hK9 => ?_
                      have HKK := (show Hid _ from hK9)
                      clear hK9
                      go_simp
                      exact HKK.out _ _ ⟨by simp [hsz], fun j => if j = 16 then undef else t j, by simp [e15, e14], HV.out.put 16 _ V16.symm, HW⟩
                    · obtain rfl : _ = op := Option.some.inj (show some _ = some op from ho)
                      have e16 : t 16 = undef := (hv 16 (hd { on := 16, ground := .data } (by simp) rfl)).trans V16
                      have e14 : t 14 = .bool true := (hv 14 (hd { on := 14, ground := .guard } (by simp) rfl)).trans V14
                      have HV := (show Hid (Rg.Vals l VV t) from hv)
                      clear hv hd ho
                      refine wpOp_step rfl fun K9 hK9 => ?_
                      have HKK := (show Hid _ from hK9)
                      clear hK9
                      go_simp
                      exact HKK.out _ _ ⟨by simp [hsz], fun j => if j = 17 then undef else t j, by simp [e16, e14], HV.out.put 17 _ V17.symm, HW⟩
                    · obtain rfl : _ = op := Option.some.inj (show some _ = some op from ho)
                      have e17 : t 17 = undef := (hv 17 (hd { on := 17, ground := .data } (by simp) rfl)).trans V17
                      have e14 : t 14 = .bool true := (hv 14 (hd { on := 14, ground := .guard } (by simp) rfl)).trans V14
                      have HV := (show Hid (Rg.Vals l VV t) from hv)
                      clear hv hd ho
                      refine wpOp_step rfl fun K9 hK9 => ?_
                      have HKK := (show Hid _ from hK9)
                      clear hK9
                      go_simp
                      exact HKK.out _ _ ⟨by simp [hsz], fun j => if j = 18 then undef else t j, by simp [e17, e14], HV.out.put 18 _ V18.symm, HW⟩
                    · obtain rfl : _ = op := Option.some.inj (show some _ = some op from ho)
                      have e14 : t 14 = .bool true := (hv 14 (hd { on := 14, ground := .data } (by simp) rfl)).trans V14
                      have e18 : t 18 = undef := (hv 18 (hd { on := 18, ground := .data } (by simp) rfl)).trans V18
                      have HV := (show Hid (Rg.Vals l VV t) from hv)
                      clear hv hd ho
                      refine wpOp_step rfl fun K9 hK9 => ?_
                      have HKK := (show Hid _ from hK9)
                      clear hK9
                      go_simp
                      exact HKK.out _ _ ⟨by simp [hsz], fun j => if j = 19 then .bool true else t j, by simp [e14, e18], HV.out.put 19 _ V19.symm, HW⟩
                    · obtain rfl : _ = op := Option.some.inj (show some _ = some op from ho)
                      have e19 : t 19 = .bool true := (hv 19 (hd { on := 19, ground := .data } (by simp) rfl)).trans V19
                      have HV := (show Hid (Rg.Vals l VV t) from hv)
                      clear hv hd ho
                      refine wpOp_step rfl fun K9 hK9 => ?_
                      have HKK := (show Hid _ from hK9)
                      clear hK9
                      go_simp
                      exact HKK.out _ _ ⟨by simp [hsz], fun j => if j = 20 then .bool true else t j, by simp [e19], HV.out.put 20 _ V20.symm, HW⟩
                    · obtain rfl : _ = op := Option.some.inj (show some _ = some op from ho)
                      have e20 : t 20 = .bool true := (hv 20 (hd { on := 20, ground := .guard } (by simp) rfl)).trans V20
                      have HV := (show Hid (Rg.Vals l VV t) from hv)
                      clear hv hd ho
                      refine wpOp_step rfl fun K9 hK9 => ?_
                      have HKK := (show Hid _ from hK9)
                      clear hK9
                      go_simp
                      exact HKK.out _ _ ⟨by simp [hsz], fun j => if j = 21 then undef else t j, by simp [e20], HV.out.put 21 _ V21.symm, HW⟩
                    · obtain rfl : _ = op := Option.some.inj (show some _ = some op from ho)
                      have e21 : t 21 = undef := (hv 21 (hd { on := 21, ground := .data } (by simp) rfl)).trans V21
                      have e20 : t 20 = .bool true := (hv 20 (hd { on := 20, ground := .guard } (by simp) rfl)).trans V20
                      have yn0 : w'.cell? ⟨F, 0, none⟩ = some (.int .i64 a) := (HW.out.cell (p := ⟨F, 0, none⟩) lF).trans n0
                      have yn1 : w'.cell? ⟨F, 1, none⟩ = some (.int .i64 b) := (HW.out.cell (p := ⟨F, 1, none⟩) lF).trans n1
                      have yn2 : w'.cell? ⟨F, 2, none⟩ = some (.int .i64 c) := (HW.out.cell (p := ⟨F, 2, none⟩) lF).trans n2
                      have yn3 : w'.cell? ⟨F, 3, none⟩ = some (.int .i64 d) := (HW.out.cell (p := ⟨F, 3, none⟩) lF).trans n3
                      have yn4 : w'.cell? ⟨F, 4, none⟩ = some (.string us) := (HW.out.cell (p := ⟨F, 4, none⟩) lF).trans n4
                      have yn5 : w'.cell? ⟨F, 5, none⟩ = some (.slice ua up.length uc) := (HW.out.cell (p := ⟨F, 5, none⟩) lF).trans n5
                      have yn6 : w'.cell? ⟨F, 6, none⟩ = some (.string ds) := (HW.out.cell (p := ⟨F, 6, none⟩) lF).trans n6
                      have yn7 : w'.cell? ⟨F, 7, none⟩ = some (.slice da dn.length dc) := (HW.out.cell (p := ⟨F, 7, none⟩) lF).trans n7
                      have yt1 : w'.cell? ⟨W.heap.size, 1, none⟩ = some (.slice (some ⟨g, o, none⟩) rs.length fc) := (HW.out.cell (p := ⟨W.heap.size, 1, none⟩) lW).trans t1
                      have HV := (show Hid (Rg.Vals l VV t) from hv)
                      clear hv hd ho
                      refine wpOp_step rfl fun K9 hK9 => ?_
                      have HKK := (show Hid _ from hK9)
                      clear hK9
                      go_simp
                      exact HKK.out _ _ ⟨by simp [hsz], fun j => if j = 22 then undef else t j, by simp [e21, e20], HV.out.put 22 _ V22.symm, HW⟩
                    · obtain rfl : _ = op := Option.some.inj (show some _ = some op from ho)
                      have e20 : t 20 = .bool true := (hv 20 (hd { on := 20, ground := .guard } (by simp) rfl)).trans V20
                      have HV := (show Hid (Rg.Vals l VV t) from hv)
                      clear hv hd ho
                      refine wpOp_step rfl fun K9 hK9 => ?_
                      have HKK := (show Hid _ from hK9)
                      clear hK9
                      go_simp
                      exact HKK.out _ _ ⟨by simp [hsz], fun j => if j = 23 then undef else t j, by simp [e20], HV.out.put 23 _ V23.symm, HW⟩
                    · obtain rfl : _ = op := Option.some.inj (show some _ = some op from ho)
                      have e22 : t 22 = undef := (hv 22 (hd { on := 22, ground := .data } (by simp) rfl)).trans V22
                      have e23 : t 23 = undef := (hv 23 (hd { on := 23, ground := .data } (by simp) rfl)).trans V23
                      have e20 : t 20 = .bool true := (hv 20 (hd { on := 20, ground := .guard } (by simp) rfl)).trans V20
                      have HV := (show Hid (Rg.Vals l VV t) from hv)
                      clear hv hd ho
                      refine wpOp_step rfl fun K9 hK9 => ?_
                      have HKK := (show Hid _ from hK9)
                      clear hK9
                      go_simp
                      exact HKK.out _ _ ⟨by simp [hsz], fun j => if j = 24 then undef else t j, by simp [e22, e23, e20], HV.out.put 24 _ V24.symm, HW⟩
                    · obtain rfl : _ = op := Option.some.inj (show some _ = some op from ho)
                      have e20 : t 20 = .bool true := (hv 20 (hd { on := 20, ground := .guard } (by simp) rfl)).trans V20
                      have HV := (show Hid (Rg.Vals l VV t) from hv)
                      clear hv hd ho
                      refine wpOp_step rfl fun K9 hK9 => ?_
                      have HKK := (show Hid _ from hK9)
                      clear hK9
                      go_simp
                      exact HKK.out _ _ ⟨by simp [hsz], fun j => if j = 25 then undef else t j, by simp [e20], HV.out.put 25 _ V25.symm, HW⟩
                    · obtain rfl : _ = op := Option.some.inj (show some _ = some op from ho)
                      have e25 : t 25 = undef := (hv 25 (hd { on := 25, ground := .data } (by simp) rfl)).trans V25
                      have e20 : t 20 = .bool true := (hv 20 (hd { on := 20, ground := .guard } (by simp) rfl)).trans V20
                      have yn0 : w'.cell? ⟨F, 0, none⟩ = some (.int .i64 a) := (HW.out.cell (p := ⟨F, 0, none⟩) lF).trans n0
                      have yn1 : w'.cell? ⟨F, 1, none⟩ = some (.int .i64 b) := (HW.out.cell (p := ⟨F, 1, none⟩) lF).trans n1
                      have yn2 : w'.cell? ⟨F, 2, none⟩ = some (.int .i64 c) := (HW.out.cell (p := ⟨F, 2, none⟩) lF).trans n2
                      have yn3 : w'.cell? ⟨F, 3, none⟩ = some (.int .i64 d) := (HW.out.cell (p := ⟨F, 3, none⟩) lF).trans n3
                      have yn4 : w'.cell? ⟨F, 4, none⟩ = some (.string us) := (HW.out.cell (p := ⟨F, 4, none⟩) lF).trans n4
                      have yn5 : w'.cell? ⟨F, 5, none⟩ = some (.slice ua up.length uc) := (HW.out.cell (p := ⟨F, 5, none⟩) lF).trans n5
                      have yn6 : w'.cell? ⟨F, 6, none⟩ = some (.string ds) := (HW.out.cell (p := ⟨F, 6, none⟩) lF).trans n6
                      have yn7 : w'.cell? ⟨F, 7, none⟩ = some (.slice da dn.length dc) := (HW.out.cell (p := ⟨F, 7, none⟩) lF).trans n7
                      have yt1 : w'.cell? ⟨W.heap.size, 1, none⟩ = some (.slice (some ⟨g, o, none⟩) rs.length fc) := (HW.out.cell (p := ⟨W.heap.size, 1, none⟩) lW).trans t1
                      have HV := (show Hid (Rg.Vals l VV t) from hv)
                      clear hv hd ho
                      refine wpOp_step rfl fun K9 hK9 => ?_
                      have HKK := (show Hid _ from hK9)
                      clear hK9
                      go_simp
                      exact HKK.out _ _ ⟨by simp [hsz], fun j => if j = 26 then undef else t j, by simp [e25, e20], HV.out.put 26 _ V26.symm, HW⟩
                    · obtain rfl : _ = op := Option.some.inj (show some _ = some op from ho)
                      have e20 : t 20 = .bool true := (hv 20 (hd { on := 20, ground := .guard } (by simp) rfl)).trans V20
                      have HV := (show Hid (Rg.Vals l VV t) from hv)
                      clear hv hd ho
                      refine wpOp_step rfl fun K9 hK9 => ?_
                      have HKK := (show Hid _ from hK9)
                      clear hK9
                      go_simp
                      exact HKK.out _ _ ⟨by simp [hsz], fun j => if j = 27 then undef else t j, by simp [e20], HV.out.put 27 _ V27.symm, HW⟩
                    · obtain rfl : _ = op := Option.some.inj (show some _ = some op from ho)
                      have e27 : t 27 = undef := (hv 27 (hd { on := 27, ground := .data } (by simp) rfl)).trans V27
                      have e20 : t 20 = .bool true := (hv 20 (hd { on := 20, ground := .guard } (by simp) rfl)).trans V20
                      have yn0 : w'.cell? ⟨F, 0, none⟩ = some (.int .i64 a) := (HW.out.cell (p := ⟨F, 0, none⟩) lF).trans n0
                      have yn1 : w'.cell? ⟨F, 1, none⟩ = some (.int .i64 b) := (HW.out.cell (p := ⟨F, 1, none⟩) lF).trans n1
                      have yn2 : w'.cell? ⟨F, 2, none⟩ = some (.int .i64 c) := (HW.out.cell (p := ⟨F, 2, none⟩) lF).trans n2
                      have yn3 : w'.cell? ⟨F, 3, none⟩ = some (.int .i64 d) := (HW.out.cell (p := ⟨F, 3, none⟩) lF).trans n3
                      have yn4 : w'.cell? ⟨F, 4, none⟩ = some (.string us) := (HW.out.cell (p := ⟨F, 4, none⟩) lF).trans n4
                      have yn5 : w'.cell? ⟨F, 5, none⟩ = some (.slice ua up.length uc) := (HW.out.cell (p := ⟨F, 5, none⟩) lF).trans n5
                      have yn6 : w'.cell? ⟨F, 6, none⟩ = some (.string ds) := (HW.out.cell (p := ⟨F, 6, none⟩) lF).trans n6
                      have yn7 : w'.cell? ⟨F, 7, none⟩ = some (.slice da dn.length dc) := (HW.out.cell (p := ⟨F, 7, none⟩) lF).trans n7
                      have yt1 : w'.cell? ⟨W.heap.size, 1, none⟩ = some (.slice (some ⟨g, o, none⟩) rs.length fc) := (HW.out.cell (p := ⟨W.heap.size, 1, none⟩) lW).trans t1
                      have HV := (show Hid (Rg.Vals l VV t) from hv)
                      clear hv hd ho
                      refine wpOp_step rfl fun K9 hK9 => ?_
                      have HKK := (show Hid _ from hK9)
                      clear hK9
                      go_simp
                      exact HKK.out _ _ ⟨by simp [hsz], fun j => if j = 28 then undef else t j, by simp [e27, e20], HV.out.put 28 _ V28.symm, HW⟩
                    · obtain rfl : _ = op := Option.some.inj (show some _ = some op from ho)
                      have e24 : t 24 = undef := (hv 24 (hd { on := 24, ground := .data } (by simp) rfl)).trans V24
                      have e26 : t 26 = undef := (hv 26 (hd { on := 26, ground := .data } (by simp) rfl)).trans V26
                      have e28 : t 28 = undef := (hv 28 (hd { on := 28, ground := .data } (by simp) rfl)).trans V28
                      have e20 : t 20 = .bool true := (hv 20 (hd { on := 20, ground := .guard } (by simp) rfl)).trans V20
                      have HV := (show Hid (Rg.Vals l VV t) from hv)
                      clear hv hd ho
                      refine wpOp_step rfl fun K9 hK9 => ?_
                      have HKK := (show Hid _ from hK9)
                      clear hK9
                      go_simp
                      exact HKK.out _ _ ⟨by simp [hsz], fun j => if j = 29 then undef else t j, by simp [e24, e26, e28, e20], HV.out.put 29 _ V29.symm, HW⟩
                    · obtain rfl : _ = op := Option.some.inj (show some _ = some op from ho)
                      have e29 : t 29 = undef := (hv 29 (hd { on := 29, ground := .data } (by simp) rfl)).trans V29
                      have e20 : t 20 = .bool true := (hv 20 (hd { on := 20, ground := .guard } (by simp) rfl)).trans V20
                      have HV := (show Hid (Rg.Vals l VV t) from hv)
                      clear hv hd ho
                      refine wpOp_step rfl fun K9 hK9 => ?_
                      have HKK := (show Hid _ from hK9)
                      clear hK9
                      go_simp
                      exact HKK.out _ _ ⟨by simp [hsz], fun j => if j = 30 then undef else t j, by simp [e29, e20], HV.out.put 30 _ V30.symm, HW⟩
                    · obtain rfl : _ = op := Option.some.inj (show some _ = some op from ho)
                      have e20 : t 20 = .bool true := (hv 20 (hd { on := 20, ground := .data } (by simp) rfl)).trans V20
                      have e30 : t 30 = undef := (hv 30 (hd { on := 30, ground := .data } (by simp) rfl)).trans V30
                      have HV := (show Hid (Rg.Vals l VV t) from hv)
                      clear hv hd ho
                      refine wpOp_step rfl fun K9 hK9 => ?_
                      have HKK := (show Hid _ from hK9)
                      clear hK9
                      go_simp
                      exact HKK.out _ _ ⟨by simp [hsz], fun j => if j = 31 then .bool true else t j, by simp [e20, e30], HV.out.put 31 _ V31.symm, HW⟩
                  case fin =>
                    rintro l a' w' ⟨hsz, t, rfl, hv, HW⟩ hall
                    have e31 : t 31 = .bool true := (hv 31 (hall 31 (by simp))).trans V31
                    rw [e31]
                    clear hv hall e31
                    have hbad := (show Hid (DrP.doorB m rs = false) from HFB.out (by rw [HFL.out, hh, ho]; first | rfl | simp))
                    go_wp2
                    go_ret
                    exact ⟨by rw [hbad.out]; rfl, HBW3.out.trans (HW.out.mono HBW3.out.size)⟩
                · cases hu : stB us up
                  · have hmix : Tryz.prog.follows .mixedOrders = true := by kernel_rfl
                    obtain ⟨VV, hVV⟩ : ∃ VV : Nat → Value, VV = fun j => [(.bool true : Value), .bool false, .bool false, .pointer (some ⟨F, 2, none⟩), .agg #[.int .i64 c, .int .i64 d], .bool true, .bool false, .bool false, .bool false, .pointer (some ⟨F, 4, none⟩), .agg #[.string us, .slice ua up.length uc], .bool false, .bool true, .bool true, .bool true, undef, undef, undef, undef, .bool true, .bool true, undef, undef, undef, undef, undef, undef, undef, undef, undef, undef, .bool true].getD j undef := ⟨_, rfl⟩
                    have V0 : VV 0 = .bool true := by rw [hVV]; rfl
                    have V1 : VV 1 = .bool false := by rw [hVV]; rfl
                    have V2 : VV 2 = .bool false := by rw [hVV]; rfl
                    have V3 : VV 3 = .pointer (some ⟨F, 2, none⟩) := by rw [hVV]; rfl
                    have V4 : VV 4 = .agg #[.int .i64 c, .int .i64 d] := by rw [hVV]; rfl
                    have V5 : VV 5 = .bool true := by rw [hVV]; rfl
                    have V6 : VV 6 = .bool false := by rw [hVV]; rfl
                    have V7 : VV 7 = .bool false := by rw [hVV]; rfl
                    have V8 : VV 8 = .bool false := by rw [hVV]; rfl
                    have V9 : VV 9 = .pointer (some ⟨F, 4, none⟩) := by rw [hVV]; rfl
                    have V10 : VV 10 = .agg #[.string us, .slice ua up.length uc] := by rw [hVV]; rfl
                    have V11 : VV 11 = .bool false := by rw [hVV]; rfl
                    have V12 : VV 12 = .bool true := by rw [hVV]; rfl
                    have V13 : VV 13 = .bool true := by rw [hVV]; rfl
                    have V14 : VV 14 = .bool true := by rw [hVV]; rfl
                    have V15 : VV 15 = undef := by rw [hVV]; rfl
                    have V16 : VV 16 = undef := by rw [hVV]; rfl
                    have V17 : VV 17 = undef := by rw [hVV]; rfl
                    have V18 : VV 18 = undef := by rw [hVV]; rfl
                    have V19 : VV 19 = .bool true := by rw [hVV]; rfl
                    have V20 : VV 20 = .bool true := by rw [hVV]; rfl
                    have V21 : VV 21 = undef := by rw [hVV]; rfl
                    have V22 : VV 22 = undef := by rw [hVV]; rfl
                    have V23 : VV 23 = undef := by rw [hVV]; rfl
                    have V24 : VV 24 = undef := by rw [hVV]; rfl
                    have V25 : VV 25 = undef := by rw [hVV]; rfl
                    have V26 : VV 26 = undef := by rw [hVV]; rfl
                    have V27 : VV 27 = undef := by rw [hVV]; rfl
                    have V28 : VV 28 = undef := by rw [hVV]; rfl
                    have V29 : VV 29 = undef := by rw [hVV]; rfl
                    have V30 : VV 30 = undef := by rw [hVV]; rfl
                    have V31 : VV 31 = .bool true := by rw [hVV]; rfl
                    clear hVV
                    refine wp_region_any hmix ?_
                    refine Ri.any_inv (I := fun l a' w' => l.size = 32 ∧ ∃ t : Nat → Value, a' = { tmps := #[(Value.agg #[Value.slice ma m.length mc, Value.slice (some { block := g, off := o }) rs.length fc] : Value), Value.pointer (some { block := W.heap.size, off := 0 }), u2, Value.int IntKind.i64 ↑k, Value.pointer (some { block := F, off := 0 }), Value.bool true, Value.int IntKind.i64 ↑q, Value.pointer (some { block := W.heap.size, off := 0 }), Value.slice ma m.length mc, Value.bool true, Value.bool false, Value.bool false, Value.pointer (some { block := W.heap.size, off := 1 }), Value.slice (some { block := g, off := o }) rs.length fc, Value.int IntKind.i64 ↑rs.length, Value.bool (decide ((4 : Int) < ((rs.length : Nat) : Int))), Value.bool (decide ((4 : Int) < ((rs.length : Nat) : Int))), Value.int IntKind.i64 ↑k, Value.pointer (some { block := W.heap.size, off := 1 }), Value.slice (some { block := g, off := o }) rs.length fc, Value.int IntKind.i64 ↑rs.length, Value.bool true, u22, u23, Value.pointer (some { block := W.heap.size, off := 1 }), Value.slice (some { block := g, off := o }) rs.length fc, Value.int IntKind.i64 ↑k, Value.pointer (some { block := g, off := o + k * 8 }), Value.agg #[Value.int IntKind.i64 a, Value.int IntKind.i64 b, Value.int IntKind.i64 c, Value.int IntKind.i64 d, Value.string us, Value.slice ua up.length uc, Value.string ds, Value.slice da dn.length dc], Value.int IntKind.i64 ↑q, Value.pointer (some { block := W.heap.size, off := 0 }), Value.slice ma m.length mc, Value.int IntKind.i64 ↑m.length, Value.bool false, u34, u35, u36, u37, u38, u39, u40, u41, u42, u43, u44, u45, u46, u47, t 0, t 1, t 2, t 3, t 4, t 5, t 6, t 7, t 8, t 9, t 10, t 11, t 12, t 13, t 14, t 15, t 16, t 17, t 18, t 19, t 20, t 21, t 22, t 23, t 24, t 25, t 26, t 27, t 28, t 29, t 30, t 31], defers := [] } ∧ Rg.Vals l VV t ∧ Hid (Below wr.heap.size wr w')) ?sz ?low ?step ?fin _ _ _ _ ?start (Ri.closed_none _ _ _) (Rg.left_all _)
                    case sz => exact fun l a' w' h => h.1
                    case start => exact ⟨by simp, fun j => ([u48, u49, u50, u51, u52, u53, u54, u55, u56, u57, u58, u59, u60, u61, u62, u63, u64, u65, u66, u67, u68, u69, u70, u71, u72, u73, u74, u75, u76, u77, u78, u79] : List Value).getD j undef, rfl, Rg.vals_none _ _ _, (Below.refl _ _).drew⟩
                    case low => exact Ri.low_of (by kernel_rfl)
                    case step =>
                      rintro l a' w' i ⟨hsz, t, rfl, hv, HW⟩ hcl hi
                      obtain ⟨h0, op, ho, hd⟩ := mem_ready.1 hi
                      have hin : i < 32 := (Array.getElem?_eq_some_iff.1 ho).1
                      clear h0 hi hcl
                      have hc : i = 0 ∨ i = 1 ∨ i = 2 ∨ i = 3 ∨ i = 4 ∨ i = 5 ∨ i = 6 ∨ i = 7 ∨ i = 8 ∨ i = 9 ∨ i = 10 ∨ i = 11 ∨ i = 12 ∨ i = 13 ∨ i = 14 ∨ i = 15 ∨ i = 16 ∨ i = 17 ∨ i = 18 ∨ i = 19 ∨ i = 20 ∨ i = 21 ∨ i = 22 ∨ i = 23 ∨ i = 24 ∨ i = 25 ∨ i = 26 ∨ i = 27 ∨ i = 28 ∨ i = 29 ∨ i = 30 ∨ i = 31 := by omega
                      rcases hc with rfl | rfl | rfl | rfl | rfl | rfl | rfl | rfl | rfl | rfl | rfl | rfl | rfl | rfl | rfl | rfl | rfl | rfl | rfl | rfl | rfl | rfl | rfl | rfl | rfl | rfl | rfl | rfl | rfl | rfl | rfl | rfl
                      · obtain rfl : _ = op := Option.some.inj (show some _ = some op from ho)
                        have HV := (show Hid (Rg.Vals l VV t) from hv)
                        clear hv hd ho
                        refine wpOp_step rfl fun K9 hK9 => ?_
                        have HKK := (show Hid _ from hK9)
                        clear hK9
                        go_simp
                        exact HKK.out _ _ ⟨by simp [hsz], fun j => if j = 0 then .bool true else t j, by simp, HV.out.put 0 _ V0.symm, HW⟩
                      · obtain rfl : _ = op := Option.some.inj (show some _ = some op from ho)
                        have e0 : t 0 = .bool true := (hv 0 (hd { on := 0, ground := .data } (by simp) rfl)).trans V0
                        have HV := (show Hid (Rg.Vals l VV t) from hv)
                        clear hv hd ho
                        refine wpOp_step rfl fun K9 hK9 => ?_
                        have HKK := (show Hid _ from hK9)
                        clear hK9
                        go_simp
                        exact HKK.out _ _ ⟨by simp [hsz], fun j => if j = 1 then .bool false else t j, by simp [e0], HV.out.put 1 _ V1.symm, HW⟩
                      · obtain rfl : _ = op := Option.some.inj (show some _ = some op from ho)
                        have e1 : t 1 = .bool false := (hv 1 (hd { on := 1, ground := .data } (by simp) rfl)).trans V1
                        have HV := (show Hid (Rg.Vals l VV t) from hv)
                        clear hv hd ho
                        refine wpOp_step rfl fun K9 hK9 => ?_
                        have HKK := (show Hid _ from hK9)
                        clear hK9
                        go_simp
                        exact HKK.out _ _ ⟨by simp [hsz], fun j => if j = 2 then .bool false else t j, by simp [e1], HV.out.put 2 _ V2.symm, HW⟩
                      · obtain rfl : _ = op := Option.some.inj (show some _ = some op from ho)
                        have e2 : t 2 = .bool false := (hv 2 (hd { on := 2, ground := .guard } (by simp) rfl)).trans V2
                        have HV := (show Hid (Rg.Vals l VV t) from hv)
                        clear hv hd ho
                        refine wpOp_step rfl fun K9 hK9 => ?_
                        have HKK := (show Hid _ from hK9)
                        clear hK9
                        go_simp
                        exact HKK.out _ _ ⟨by simp [hsz], fun j => if j = 3 then .pointer (some ⟨F, 2, none⟩) else t j, by simp [e2], HV.out.put 3 _ V3.symm, HW⟩
                      · obtain rfl : _ = op := Option.some.inj (show some _ = some op from ho)
                        have e3 : t 3 = .pointer (some ⟨F, 2, none⟩) := (hv 3 (hd { on := 3, ground := .data } (by simp) rfl)).trans V3
                        have e2 : t 2 = .bool false := (hv 2 (hd { on := 2, ground := .guard } (by simp) rfl)).trans V2
                        have yn0 : w'.cell? ⟨F, 0, none⟩ = some (.int .i64 a) := (HW.out.cell (p := ⟨F, 0, none⟩) lF).trans n0
                        have yn1 : w'.cell? ⟨F, 1, none⟩ = some (.int .i64 b) := (HW.out.cell (p := ⟨F, 1, none⟩) lF).trans n1
                        have yn2 : w'.cell? ⟨F, 2, none⟩ = some (.int .i64 c) := (HW.out.cell (p := ⟨F, 2, none⟩) lF).trans n2
                        have yn3 : w'.cell? ⟨F, 3, none⟩ = some (.int .i64 d) := (HW.out.cell (p := ⟨F, 3, none⟩) lF).trans n3
                        have yn4 : w'.cell? ⟨F, 4, none⟩ = some (.string us) := (HW.out.cell (p := ⟨F, 4, none⟩) lF).trans n4
                        have yn5 : w'.cell? ⟨F, 5, none⟩ = some (.slice ua up.length uc) := (HW.out.cell (p := ⟨F, 5, none⟩) lF).trans n5
                        have yn6 : w'.cell? ⟨F, 6, none⟩ = some (.string ds) := (HW.out.cell (p := ⟨F, 6, none⟩) lF).trans n6
                        have yn7 : w'.cell? ⟨F, 7, none⟩ = some (.slice da dn.length dc) := (HW.out.cell (p := ⟨F, 7, none⟩) lF).trans n7
                        have yt1 : w'.cell? ⟨W.heap.size, 1, none⟩ = some (.slice (some ⟨g, o, none⟩) rs.length fc) := (HW.out.cell (p := ⟨W.heap.size, 1, none⟩) lW).trans t1
                        have HV := (show Hid (Rg.Vals l VV t) from hv)
                        clear hv hd ho
                        refine wpOp_step rfl fun K9 hK9 => ?_
                        have HKK := (show Hid _ from hK9)
                        clear hK9
                        go_simp
                        exact HKK.out _ _ ⟨by simp [hsz], fun j => if j = 4 then .agg #[.int .i64 c, .int .i64 d] else t j, by simp [e3, e2], HV.out.put 4 _ V4.symm, HW⟩
                      · obtain rfl : _ = op := Option.some.inj (show some _ = some op from ho)
                        have e4 : t 4 = .agg #[.int .i64 c, .int .i64 d] := (hv 4 (hd { on := 4, ground := .data } (by simp) rfl)).trans V4
                        have e2 : t 2 = .bool false := (hv 2 (hd { on := 2, ground := .guard } (by simp) rfl)).trans V2
                        have HV := (show Hid (Rg.Vals l VV t) from hv)
                        clear hv hd ho
                        refine wpOp_step rfl fun K9 hK9 => ?_
                        have HKK := (show Hid _ from hK9)
                        clear hK9
                        go_simp
                        refine (spec2 c d _).mono ?_
                        rintro e w9 ⟨rfl, k9⟩
                        rw [ho]
                        refine HKK.out _ _ ⟨by simp [hsz], fun j => if j = 5 then .bool true else t j, by simp [e4, e2], HV.out.put 5 _ V5.symm, HW.out.trans (k9.mono HW.out.size)⟩
                      · obtain rfl : _ = op := Option.some.inj (show some _ = some op from ho)
                        have e5 : t 5 = .bool true := (hv 5 (hd { on := 5, ground := .data } (by simp) rfl)).trans V5
                        have e2 : t 2 = .bool false := (hv 2 (hd { on := 2, ground := .guard } (by simp) rfl)).trans V2
                        have HV := (show Hid (Rg.Vals l VV t) from hv)
                        clear hv hd ho
                        refine wpOp_step rfl fun K9 hK9 => ?_
                        have HKK := (show Hid _ from hK9)
                        clear hK9
                        go_simp
                        exact HKK.out _ _ ⟨by simp [hsz], fun j => if j = 6 then .bool false else t j, by simp [e5, e2], HV.out.put 6 _ V6.symm, HW⟩
                      · obtain rfl : _ = op := Option.some.inj (show some _ = some op from ho)
                        have e2 : t 2 = .bool false := (hv 2 (hd { on := 2, ground := .data } (by simp) rfl)).trans V2
                        have e6 : t 6 = .bool false := (hv 6 (hd { on := 6, ground := .data } (by simp) rfl)).trans V6
                        have HV := (show Hid (Rg.Vals l VV t) from hv)
                        clear hv hd ho
                        refine wpOp_step rfl fun K9 hK9 => ?_
                        have HKK := (show Hid _ from hK9)
                        clear hK9
                        go_simp
                        exact HKK.out _ _ ⟨by simp [hsz], fun j => if j = 7 then .bool false else t j, by simp [e2, e6], HV.out.put 7 _ V7.symm, HW⟩
                      · obtain rfl : _ = op := Option.some.inj (show some _ = some op from ho)
                        have e7 : t 7 = .bool false := (hv 7 (hd { on := 7, ground := .data } (by simp) rfl)).trans V7
                        have HV := (show Hid (Rg.Vals l VV t) from hv)
                        clear hv hd ho
                        refine wpOp_step rfl fun K9 hK9 => ?_
                        have HKK := (show Hid _ from hK9)
                        clear hK9
                        go_simp
                        exact HKK.out _ _ ⟨by simp [hsz], fun j => if j = 8 then .bool false else t j, by simp [e7], HV.out.put 8 _ V8.symm, HW⟩
                      · obtain rfl : _ = op := Option.some.inj (show some _ = some op from ho)
                        have e8 : t 8 = .bool false := (hv 8 (hd { on := 8, ground := .guard } (by simp) rfl)).trans V8
                        have HV := (show Hid (Rg.Vals l VV t) from hv)
                        clear hv hd ho
                        refine wpOp_step rfl fun K9 hK9 => ?_
                        have HKK := (show Hid _ from hK9)
                        clear hK9
                        go_simp
                        exact HKK.out _ _ ⟨by simp [hsz], fun j => if j = 9 then .pointer (some ⟨F, 4, none⟩) else t j, by simp [e8], HV.out.put 9 _ V9.symm, HW⟩
                      · obtain rfl : _ = op := Option.some.inj (show some _ = some op from ho)
                        have e9 : t 9 = .pointer (some ⟨F, 4, none⟩) := (hv 9 (hd { on := 9, ground := .data } (by simp) rfl)).trans V9
                        have e8 : t 8 = .bool false := (hv 8 (hd { on := 8, ground := .guard } (by simp) rfl)).trans V8
                        have yn0 : w'.cell? ⟨F, 0, none⟩ = some (.int .i64 a) := (HW.out.cell (p := ⟨F, 0, none⟩) lF).trans n0
                        have yn1 : w'.cell? ⟨F, 1, none⟩ = some (.int .i64 b) := (HW.out.cell (p := ⟨F, 1, none⟩) lF).trans n1
                        have yn2 : w'.cell? ⟨F, 2, none⟩ = some (.int .i64 c) := (HW.out.cell (p := ⟨F, 2, none⟩) lF).trans n2
                        have yn3 : w'.cell? ⟨F, 3, none⟩ = some (.int .i64 d) := (HW.out.cell (p := ⟨F, 3, none⟩) lF).trans n3
                        have yn4 : w'.cell? ⟨F, 4, none⟩ = some (.string us) := (HW.out.cell (p := ⟨F, 4, none⟩) lF).trans n4
                        have yn5 : w'.cell? ⟨F, 5, none⟩ = some (.slice ua up.length uc) := (HW.out.cell (p := ⟨F, 5, none⟩) lF).trans n5
                        have yn6 : w'.cell? ⟨F, 6, none⟩ = some (.string ds) := (HW.out.cell (p := ⟨F, 6, none⟩) lF).trans n6
                        have yn7 : w'.cell? ⟨F, 7, none⟩ = some (.slice da dn.length dc) := (HW.out.cell (p := ⟨F, 7, none⟩) lF).trans n7
                        have yt1 : w'.cell? ⟨W.heap.size, 1, none⟩ = some (.slice (some ⟨g, o, none⟩) rs.length fc) := (HW.out.cell (p := ⟨W.heap.size, 1, none⟩) lW).trans t1
                        have HV := (show Hid (Rg.Vals l VV t) from hv)
                        clear hv hd ho
                        refine wpOp_step rfl fun K9 hK9 => ?_
                        have HKK := (show Hid _ from hK9)
                        clear hK9
                        go_simp
                        exact HKK.out _ _ ⟨by simp [hsz], fun j => if j = 10 then .agg #[.string us, .slice ua up.length uc] else t j, by simp [e9, e8], HV.out.put 10 _ V10.symm, HW⟩
                      · obtain rfl : _ = op := Option.some.inj (show some _ = some op from ho)
                        have e10 : t 10 = .agg #[.string us, .slice ua up.length uc] := (hv 10 (hd { on := 10, ground := .data } (by simp) rfl)).trans V10
                        have e8 : t 8 = .bool false := (hv 8 (hd { on := 8, ground := .guard } (by simp) rfl)).trans V8
                        have HV := (show Hid (Rg.Vals l VV t) from hv)
                        clear hv hd ho
                        refine wpOp_step rfl fun K9 hK9 => ?_
                        have HKK := (show Hid _ from hK9)
                        clear hK9
                        go_simp
                        refine (sstream_any us _ up _ (gq1.below HW.out) z1 z2).mono ?_
                        rintro e w9 ⟨rfl, k9⟩
                        rw [hu]
                        refine HKK.out _ _ ⟨by simp [hsz], fun j => if j = 11 then .bool false else t j, by simp [e10, e8], HV.out.put 11 _ V11.symm, HW.out.trans (k9.mono HW.out.size)⟩
                      · obtain rfl : _ = op := Option.some.inj (show some _ = some op from ho)
                        have e11 : t 11 = .bool false := (hv 11 (hd { on := 11, ground := .data } (by simp) rfl)).trans V11
                        have e8 : t 8 = .bool false := (hv 8 (hd { on := 8, ground := .guard } (by simp) rfl)).trans V8
                        have HV := (show Hid (Rg.Vals l VV t) from hv)
                        clear hv hd ho
                        refine wpOp_step rfl fun K9 hK9 => ?_
                        have HKK := (show Hid _ from hK9)
                        clear hK9
                        go_simp
                        exact HKK.out _ _ ⟨by simp [hsz], fun j => if j = 12 then .bool true else t j, by simp [e11, e8], HV.out.put 12 _ V12.symm, HW⟩
                      · obtain rfl : _ = op := Option.some.inj (show some _ = some op from ho)
                        have e8 : t 8 = .bool false := (hv 8 (hd { on := 8, ground := .data } (by simp) rfl)).trans V8
                        have e12 : t 12 = .bool true := (hv 12 (hd { on := 12, ground := .data } (by simp) rfl)).trans V12
                        have HV := (show Hid (Rg.Vals l VV t) from hv)
                        clear hv hd ho
                        refine wpOp_step rfl fun K9 hK9 => ?_
                        have HKK := (show Hid _ from hK9)
                        clear hK9
                        go_simp
                        exact HKK.out _ _ ⟨by simp [hsz], fun j => if j = 13 then .bool true else t j, by simp [e8, e12], HV.out.put 13 _ V13.symm, HW⟩
                      · obtain rfl : _ = op := Option.some.inj (show some _ = some op from ho)
                        have e13 : t 13 = .bool true := (hv 13 (hd { on := 13, ground := .data } (by simp) rfl)).trans V13
                        have HV := (show Hid (Rg.Vals l VV t) from hv)
                        clear hv hd ho
                        refine wpOp_step rfl fun K9 hK9 => ?_
                        have HKK := (show Hid _ from hK9)
                        clear hK9
                        go_simp
                        exact HKK.out _ _ ⟨by simp [hsz], fun j => if j = 14 then .bool true else t j, by simp [e13], HV.out.put 14 _ V14.symm, HW⟩
                      · obtain rfl : _ = op := Option.some.inj (show some _ = some op from ho)
                        have e14 : t 14 = .bool true := (hv 14 (hd { on := 14, ground := .guard } (by simp) rfl)).trans V14
                        have HV := (show Hid (Rg.Vals l VV t) from hv)
                        clear hv hd ho
                        refine wpOp_step rfl fun K9 hK9 => ?_
                        have HKK := (show Hid _ from hK9)
                        clear hK9
                        go_simp
                        exact HKK.out _ _ ⟨by simp [hsz], fun j => if j = 15 then undef else t j, by simp [e14], HV.out.put 15 _ V15.symm, HW⟩
                      · obtain rfl : _ = op := Option.some.inj (show some _ = some op from ho)
                        have e15 : t 15 = undef := (hv 15 (hd { on := 15, ground := .data } (by simp) rfl)).trans V15
                        have e14 : t 14 = .bool true := (hv 14 (hd { on := 14, ground := .guard } (by simp) rfl)).trans V14
                        have yn0 : w'.cell? ⟨F, 0, none⟩ = some (.int .i64 a) := (HW.out.cell (p := ⟨F, 0, none⟩) lF).trans n0
                        have yn1 : w'.cell? ⟨F, 1, none⟩ = some (.int .i64 b) := (HW.out.cell (p := ⟨F, 1, none⟩) lF).trans n1
                        have yn2 : w'.cell? ⟨F, 2, none⟩ = some (.int .i64 c) := (HW.out.cell (p := ⟨F, 2, none⟩) lF).trans n2
                        have yn3 : w'.cell? ⟨F, 3, none⟩ = some (.int .i64 d) := (HW.out.cell (p := ⟨F, 3, none⟩) lF).trans n3
                        have yn4 : w'.cell? ⟨F, 4, none⟩ = some (.string us) := (HW.out.cell (p := ⟨F, 4, none⟩) lF).trans n4
                        have yn5 : w'.cell? ⟨F, 5, none⟩ = some (.slice ua up.length uc) := (HW.out.cell (p := ⟨F, 5, none⟩) lF).trans n5
                        have yn6 : w'.cell? ⟨F, 6, none⟩ = some (.string ds) := (HW.out.cell (p := ⟨F, 6, none⟩) lF).trans n6
                        have yn7 : w'.cell? ⟨F, 7, none⟩ = some (.slice da dn.length dc) := (HW.out.cell (p := ⟨F, 7, none⟩) lF).trans n7
                        have yt1 : w'.cell? ⟨W.heap.size, 1, none⟩ = some (.slice (some ⟨g, o, none⟩) rs.length fc) := (HW.out.cell (p := ⟨W.heap.size, 1, none⟩) lW).trans t1
                        have HV := (show Hid (Rg.Vals l VV t) from hv)
                        clear hv hd ho
                        refine wpOp_step rfl fun K9 hK9 => ?_
                        have HKK := (show Hid _ from hK9)
                        clear hK9
                        go_simp
                        exact HKK.out _ _ ⟨by simp [hsz], fun j => if j = 16 then undef else t j, by simp [e15, e14], HV.out.put 16 _ V16.symm, HW⟩
                      · obtain rfl : _ = op := Option.some.inj (show some _ = some op from ho)
                        have e16 : t 16 = undef := (hv 16 (hd { on := 16, ground := .data } (by simp) rfl)).trans V16
                        have e14 : t 14 = .bool true := (hv 14 (hd { on := 14, ground := .guard } (by simp) rfl)).trans V14
                        have HV := (show Hid (Rg.Vals l VV t) from hv)
                        clear hv hd ho
                        refine wpOp_step rfl fun K9 hK9 => ?_
                        have HKK := (show Hid _ from hK9)
                        clear hK9
                        go_simp
                        exact HKK.out _ _ ⟨by simp [hsz], fun j => if j = 17 then undef else t j, by simp [e16, e14], HV.out.put 17 _ V17.symm, HW⟩
                      · obtain rfl : _ = op := Option.some.inj (show some _ = some op from ho)
                        have e17 : t 17 = undef := (hv 17 (hd { on := 17, ground := .data } (by simp) rfl)).trans V17
                        have e14 : t 14 = .bool true := (hv 14 (hd { on := 14, ground := .guard } (by simp) rfl)).trans V14
                        have HV := (show Hid (Rg.Vals l VV t) from hv)
                        clear hv hd ho
                        refine wpOp_step rfl fun K9 hK9 => ?_
                        have HKK := (show Hid _ from hK9)
                        clear hK9
                        go_simp
                        exact HKK.out _ _ ⟨by simp [hsz], fun j => if j = 18 then undef else t j, by simp [e17, e14], HV.out.put 18 _ V18.symm, HW⟩
                      · obtain rfl : _ = op := Option.some.inj (show some _ = some op from ho)
                        have e14 : t 14 = .bool true := (hv 14 (hd { on := 14, ground := .data } (by simp) rfl)).trans V14
                        have e18 : t 18 = undef := (hv 18 (hd { on := 18, ground := .data } (by simp) rfl)).trans V18
                        have HV := (show Hid (Rg.Vals l VV t) from hv)
                        clear hv hd ho
                        refine wpOp_step rfl fun K9 hK9 => ?_
                        have HKK := (show Hid _ from hK9)
                        clear hK9
                        go_simp
                        exact HKK.out _ _ ⟨by simp [hsz], fun j => if j = 19 then .bool true else t j, by simp [e14, e18], HV.out.put 19 _ V19.symm, HW⟩
                      · obtain rfl : _ = op := Option.some.inj (show some _ = some op from ho)
                        have e19 : t 19 = .bool true := (hv 19 (hd { on := 19, ground := .data } (by simp) rfl)).trans V19
                        have HV := (show Hid (Rg.Vals l VV t) from hv)
                        clear hv hd ho
                        refine wpOp_step rfl fun K9 hK9 => ?_
                        have HKK := (show Hid _ from hK9)
                        clear hK9
                        go_simp
                        exact HKK.out _ _ ⟨by simp [hsz], fun j => if j = 20 then .bool true else t j, by simp [e19], HV.out.put 20 _ V20.symm, HW⟩
                      · obtain rfl : _ = op := Option.some.inj (show some _ = some op from ho)
                        have e20 : t 20 = .bool true := (hv 20 (hd { on := 20, ground := .guard } (by simp) rfl)).trans V20
                        have HV := (show Hid (Rg.Vals l VV t) from hv)
                        clear hv hd ho
                        refine wpOp_step rfl fun K9 hK9 => ?_
                        have HKK := (show Hid _ from hK9)
                        clear hK9
                        go_simp
                        exact HKK.out _ _ ⟨by simp [hsz], fun j => if j = 21 then undef else t j, by simp [e20], HV.out.put 21 _ V21.symm, HW⟩
                      · obtain rfl : _ = op := Option.some.inj (show some _ = some op from ho)
                        have e21 : t 21 = undef := (hv 21 (hd { on := 21, ground := .data } (by simp) rfl)).trans V21
                        have e20 : t 20 = .bool true := (hv 20 (hd { on := 20, ground := .guard } (by simp) rfl)).trans V20
                        have yn0 : w'.cell? ⟨F, 0, none⟩ = some (.int .i64 a) := (HW.out.cell (p := ⟨F, 0, none⟩) lF).trans n0
                        have yn1 : w'.cell? ⟨F, 1, none⟩ = some (.int .i64 b) := (HW.out.cell (p := ⟨F, 1, none⟩) lF).trans n1
                        have yn2 : w'.cell? ⟨F, 2, none⟩ = some (.int .i64 c) := (HW.out.cell (p := ⟨F, 2, none⟩) lF).trans n2
                        have yn3 : w'.cell? ⟨F, 3, none⟩ = some (.int .i64 d) := (HW.out.cell (p := ⟨F, 3, none⟩) lF).trans n3
                        have yn4 : w'.cell? ⟨F, 4, none⟩ = some (.string us) := (HW.out.cell (p := ⟨F, 4, none⟩) lF).trans n4
                        have yn5 : w'.cell? ⟨F, 5, none⟩ = some (.slice ua up.length uc) := (HW.out.cell (p := ⟨F, 5, none⟩) lF).trans n5
                        have yn6 : w'.cell? ⟨F, 6, none⟩ = some (.string ds) := (HW.out.cell (p := ⟨F, 6, none⟩) lF).trans n6
                        have yn7 : w'.cell? ⟨F, 7, none⟩ = some (.slice da dn.length dc) := (HW.out.cell (p := ⟨F, 7, none⟩) lF).trans n7
                        have yt1 : w'.cell? ⟨W.heap.size, 1, none⟩ = some (.slice (some ⟨g, o, none⟩) rs.length fc) := (HW.out.cell (p := ⟨W.heap.size, 1, none⟩) lW).trans t1
                        have HV := (show Hid (Rg.Vals l VV t) from hv)
                        clear hv hd ho
                        refine wpOp_step rfl fun K9 hK9 => ?_
                        have HKK := (show Hid _ from hK9)
                        clear hK9
                        go_simp
                        exact HKK.out _ _ ⟨by simp [hsz], fun j => if j = 22 then undef else t j, by simp [e21, e20], HV.out.put 22 _ V22.symm, HW⟩
                      · obtain rfl : _ = op := Option.some.inj (show some _ = some op from ho)
                        have e20 : t 20 = .bool true := (hv 20 (hd { on := 20, ground := .guard } (by simp) rfl)).trans V20
                        have HV := (show Hid (Rg.Vals l VV t) from hv)
                        clear hv hd ho
                        refine wpOp_step rfl fun K9 hK9 => ?_
                        have HKK := (show Hid _ from hK9)
                        clear hK9
                        go_simp
                        exact HKK.out _ _ ⟨by simp [hsz], fun j => if j = 23 then undef else t j, by simp [e20], HV.out.put 23 _ V23.symm, HW⟩
                      · obtain rfl : _ = op := Option.some.inj (show some _ = some op from ho)
                        have e22 : t 22 = undef := (hv 22 (hd { on := 22, ground := .data } (by simp) rfl)).trans V22
                        have e23 : t 23 = undef := (hv 23 (hd { on := 23, ground := .data } (by simp) rfl)).trans V23
                        have e20 : t 20 = .bool true := (hv 20 (hd { on := 20, ground := .guard } (by simp) rfl)).trans V20
                        have HV := (show Hid (Rg.Vals l VV t) from hv)
                        clear hv hd ho
                        refine wpOp_step rfl fun K9 hK9 => ?_
                        have HKK := (show Hid _ from hK9)
                        clear hK9
                        go_simp
                        exact HKK.out _ _ ⟨by simp [hsz], fun j => if j = 24 then undef else t j, by simp [e22, e23, e20], HV.out.put 24 _ V24.symm, HW⟩
                      · obtain rfl : _ = op := Option.some.inj (show some _ = some op from ho)
                        have e20 : t 20 = .bool true := (hv 20 (hd { on := 20, ground := .guard } (by simp) rfl)).trans V20
                        have HV := (show Hid (Rg.Vals l VV t) from hv)
                        clear hv hd ho
                        refine wpOp_step rfl fun K9 hK9 => ?_
                        have HKK := (show Hid _ from hK9)
                        clear hK9
                        go_simp
                        exact HKK.out _ _ ⟨by simp [hsz], fun j => if j = 25 then undef else t j, by simp [e20], HV.out.put 25 _ V25.symm, HW⟩
                      · obtain rfl : _ = op := Option.some.inj (show some _ = some op from ho)
                        have e25 : t 25 = undef := (hv 25 (hd { on := 25, ground := .data } (by simp) rfl)).trans V25
                        have e20 : t 20 = .bool true := (hv 20 (hd { on := 20, ground := .guard } (by simp) rfl)).trans V20
                        have yn0 : w'.cell? ⟨F, 0, none⟩ = some (.int .i64 a) := (HW.out.cell (p := ⟨F, 0, none⟩) lF).trans n0
                        have yn1 : w'.cell? ⟨F, 1, none⟩ = some (.int .i64 b) := (HW.out.cell (p := ⟨F, 1, none⟩) lF).trans n1
                        have yn2 : w'.cell? ⟨F, 2, none⟩ = some (.int .i64 c) := (HW.out.cell (p := ⟨F, 2, none⟩) lF).trans n2
                        have yn3 : w'.cell? ⟨F, 3, none⟩ = some (.int .i64 d) := (HW.out.cell (p := ⟨F, 3, none⟩) lF).trans n3
                        have yn4 : w'.cell? ⟨F, 4, none⟩ = some (.string us) := (HW.out.cell (p := ⟨F, 4, none⟩) lF).trans n4
                        have yn5 : w'.cell? ⟨F, 5, none⟩ = some (.slice ua up.length uc) := (HW.out.cell (p := ⟨F, 5, none⟩) lF).trans n5
                        have yn6 : w'.cell? ⟨F, 6, none⟩ = some (.string ds) := (HW.out.cell (p := ⟨F, 6, none⟩) lF).trans n6
                        have yn7 : w'.cell? ⟨F, 7, none⟩ = some (.slice da dn.length dc) := (HW.out.cell (p := ⟨F, 7, none⟩) lF).trans n7
                        have yt1 : w'.cell? ⟨W.heap.size, 1, none⟩ = some (.slice (some ⟨g, o, none⟩) rs.length fc) := (HW.out.cell (p := ⟨W.heap.size, 1, none⟩) lW).trans t1
                        have HV := (show Hid (Rg.Vals l VV t) from hv)
                        clear hv hd ho
                        refine wpOp_step rfl fun K9 hK9 => ?_
                        have HKK := (show Hid _ from hK9)
                        clear hK9
                        go_simp
                        exact HKK.out _ _ ⟨by simp [hsz], fun j => if j = 26 then undef else t j, by simp [e25, e20], HV.out.put 26 _ V26.symm, HW⟩
                      · obtain rfl : _ = op := Option.some.inj (show some _ = some op from ho)
                        have e20 : t 20 = .bool true := (hv 20 (hd { on := 20, ground := .guard } (by simp) rfl)).trans V20
                        have HV := (show Hid (Rg.Vals l VV t) from hv)
                        clear hv hd ho
                        refine wpOp_step rfl fun K9 hK9 => ?_
                        have HKK := (show Hid _ from hK9)
                        clear hK9
                        go_simp
                        exact HKK.out _ _ ⟨by simp [hsz], fun j => if j = 27 then undef else t j, by simp [e20], HV.out.put 27 _ V27.symm, HW⟩
                      · obtain rfl : _ = op := Option.some.inj (show some _ = some op from ho)
                        have e27 : t 27 = undef := (hv 27 (hd { on := 27, ground := .data } (by simp) rfl)).trans V27
                        have e20 : t 20 = .bool true := (hv 20 (hd { on := 20, ground := .guard } (by simp) rfl)).trans V20
                        have yn0 : w'.cell? ⟨F, 0, none⟩ = some (.int .i64 a) := (HW.out.cell (p := ⟨F, 0, none⟩) lF).trans n0
                        have yn1 : w'.cell? ⟨F, 1, none⟩ = some (.int .i64 b) := (HW.out.cell (p := ⟨F, 1, none⟩) lF).trans n1
                        have yn2 : w'.cell? ⟨F, 2, none⟩ = some (.int .i64 c) := (HW.out.cell (p := ⟨F, 2, none⟩) lF).trans n2
                        have yn3 : w'.cell? ⟨F, 3, none⟩ = some (.int .i64 d) := (HW.out.cell (p := ⟨F, 3, none⟩) lF).trans n3
                        have yn4 : w'.cell? ⟨F, 4, none⟩ = some (.string us) := (HW.out.cell (p := ⟨F, 4, none⟩) lF).trans n4
                        have yn5 : w'.cell? ⟨F, 5, none⟩ = some (.slice ua up.length uc) := (HW.out.cell (p := ⟨F, 5, none⟩) lF).trans n5
                        have yn6 : w'.cell? ⟨F, 6, none⟩ = some (.string ds) := (HW.out.cell (p := ⟨F, 6, none⟩) lF).trans n6
                        have yn7 : w'.cell? ⟨F, 7, none⟩ = some (.slice da dn.length dc) := (HW.out.cell (p := ⟨F, 7, none⟩) lF).trans n7
                        have yt1 : w'.cell? ⟨W.heap.size, 1, none⟩ = some (.slice (some ⟨g, o, none⟩) rs.length fc) := (HW.out.cell (p := ⟨W.heap.size, 1, none⟩) lW).trans t1
                        have HV := (show Hid (Rg.Vals l VV t) from hv)
                        clear hv hd ho
                        refine wpOp_step rfl fun K9 hK9 => ?_
                        have HKK := (show Hid _ from hK9)
                        clear hK9
                        go_simp
                        exact HKK.out _ _ ⟨by simp [hsz], fun j => if j = 28 then undef else t j, by simp [e27, e20], HV.out.put 28 _ V28.symm, HW⟩
                      · obtain rfl : _ = op := Option.some.inj (show some _ = some op from ho)
                        have e24 : t 24 = undef := (hv 24 (hd { on := 24, ground := .data } (by simp) rfl)).trans V24
                        have e26 : t 26 = undef := (hv 26 (hd { on := 26, ground := .data } (by simp) rfl)).trans V26
                        have e28 : t 28 = undef := (hv 28 (hd { on := 28, ground := .data } (by simp) rfl)).trans V28
                        have e20 : t 20 = .bool true := (hv 20 (hd { on := 20, ground := .guard } (by simp) rfl)).trans V20
                        have HV := (show Hid (Rg.Vals l VV t) from hv)
                        clear hv hd ho
                        refine wpOp_step rfl fun K9 hK9 => ?_
                        have HKK := (show Hid _ from hK9)
                        clear hK9
                        go_simp
                        exact HKK.out _ _ ⟨by simp [hsz], fun j => if j = 29 then undef else t j, by simp [e24, e26, e28, e20], HV.out.put 29 _ V29.symm, HW⟩
                      · obtain rfl : _ = op := Option.some.inj (show some _ = some op from ho)
                        have e29 : t 29 = undef := (hv 29 (hd { on := 29, ground := .data } (by simp) rfl)).trans V29
                        have e20 : t 20 = .bool true := (hv 20 (hd { on := 20, ground := .guard } (by simp) rfl)).trans V20
                        have HV := (show Hid (Rg.Vals l VV t) from hv)
                        clear hv hd ho
                        refine wpOp_step rfl fun K9 hK9 => ?_
                        have HKK := (show Hid _ from hK9)
                        clear hK9
                        go_simp
                        exact HKK.out _ _ ⟨by simp [hsz], fun j => if j = 30 then undef else t j, by simp [e29, e20], HV.out.put 30 _ V30.symm, HW⟩
                      · obtain rfl : _ = op := Option.some.inj (show some _ = some op from ho)
                        have e20 : t 20 = .bool true := (hv 20 (hd { on := 20, ground := .data } (by simp) rfl)).trans V20
                        have e30 : t 30 = undef := (hv 30 (hd { on := 30, ground := .data } (by simp) rfl)).trans V30
                        have HV := (show Hid (Rg.Vals l VV t) from hv)
                        clear hv hd ho
                        refine wpOp_step rfl fun K9 hK9 => ?_
                        have HKK := (show Hid _ from hK9)
                        clear hK9
                        go_simp
                        exact HKK.out _ _ ⟨by simp [hsz], fun j => if j = 31 then .bool true else t j, by simp [e20, e30], HV.out.put 31 _ V31.symm, HW⟩
                    case fin =>
                      rintro l a' w' ⟨hsz, t, rfl, hv, HW⟩ hall
                      have e31 : t 31 = .bool true := (hv 31 (hall 31 (by simp))).trans V31
                      rw [e31]
                      clear hv hall e31
                      have hbad := (show Hid (DrP.doorB m rs = false) from HFB.out (by rw [HFL.out, hh, ho, hu]; first | rfl | simp))
                      go_wp2
                      go_ret
                      exact ⟨by rw [hbad.out]; rfl, HBW3.out.trans (HW.out.mono HBW3.out.size)⟩
                  · cases hn : stB ds dn
                    · have hmix : Tryz.prog.follows .mixedOrders = true := by kernel_rfl
                      obtain ⟨VV, hVV⟩ : ∃ VV : Nat → Value, VV = fun j => [(.bool true : Value), .bool false, .bool false, .pointer (some ⟨F, 2, none⟩), .agg #[.int .i64 c, .int .i64 d], .bool true, .bool false, .bool false, .bool false, .pointer (some ⟨F, 4, none⟩), .agg #[.string us, .slice ua up.length uc], .bool true, .bool false, .bool false, .bool false, .pointer (some ⟨F, 6, none⟩), .agg #[.string ds, .slice da dn.length dc], .bool false, .bool true, .bool true, .bool true, undef, undef, undef, undef, undef, undef, undef, undef, undef, undef, .bool true].getD j undef := ⟨_, rfl⟩
                      have V0 : VV 0 = .bool true := by rw [hVV]; rfl
                      have V1 : VV 1 = .bool false := by rw [hVV]; rfl
                      have V2 : VV 2 = .bool false := by rw [hVV]; rfl
                      have V3 : VV 3 = .pointer (some ⟨F, 2, none⟩) := by rw [hVV]; rfl
                      have V4 : VV 4 = .agg #[.int .i64 c, .int .i64 d] := by rw [hVV]; rfl
                      have V5 : VV 5 = .bool true := by rw [hVV]; rfl
                      have V6 : VV 6 = .bool false := by rw [hVV]; rfl
                      have V7 : VV 7 = .bool false := by rw [hVV]; rfl
                      have V8 : VV 8 = .bool false := by rw [hVV]; rfl
                      have V9 : VV 9 = .pointer (some ⟨F, 4, none⟩) := by rw [hVV]; rfl
                      have V10 : VV 10 = .agg #[.string us, .slice ua up.length uc] := by rw [hVV]; rfl
                      have V11 : VV 11 = .bool true := by rw [hVV]; rfl
                      have V12 : VV 12 = .bool false := by rw [hVV]; rfl
                      have V13 : VV 13 = .bool false := by rw [hVV]; rfl
                      have V14 : VV 14 = .bool false := by rw [hVV]; rfl
                      have V15 : VV 15 = .pointer (some ⟨F, 6, none⟩) := by rw [hVV]; rfl
                      have V16 : VV 16 = .agg #[.string ds, .slice da dn.length dc] := by rw [hVV]; rfl
                      have V17 : VV 17 = .bool false := by rw [hVV]; rfl
                      have V18 : VV 18 = .bool true := by rw [hVV]; rfl
                      have V19 : VV 19 = .bool true := by rw [hVV]; rfl
                      have V20 : VV 20 = .bool true := by rw [hVV]; rfl
                      have V21 : VV 21 = undef := by rw [hVV]; rfl
                      have V22 : VV 22 = undef := by rw [hVV]; rfl
                      have V23 : VV 23 = undef := by rw [hVV]; rfl
                      have V24 : VV 24 = undef := by rw [hVV]; rfl
                      have V25 : VV 25 = undef := by rw [hVV]; rfl
                      have V26 : VV 26 = undef := by rw [hVV]; rfl
                      have V27 : VV 27 = undef := by rw [hVV]; rfl
                      have V28 : VV 28 = undef := by rw [hVV]; rfl
                      have V29 : VV 29 = undef := by rw [hVV]; rfl
                      have V30 : VV 30 = undef := by rw [hVV]; rfl
                      have V31 : VV 31 = .bool true := by rw [hVV]; rfl
                      clear hVV
                      refine wp_region_any hmix ?_
                      refine Ri.any_inv (I := fun l a' w' => l.size = 32 ∧ ∃ t : Nat → Value, a' = { tmps := #[(Value.agg #[Value.slice ma m.length mc, Value.slice (some { block := g, off := o }) rs.length fc] : Value), Value.pointer (some { block := W.heap.size, off := 0 }), u2, Value.int IntKind.i64 ↑k, Value.pointer (some { block := F, off := 0 }), Value.bool true, Value.int IntKind.i64 ↑q, Value.pointer (some { block := W.heap.size, off := 0 }), Value.slice ma m.length mc, Value.bool true, Value.bool false, Value.bool false, Value.pointer (some { block := W.heap.size, off := 1 }), Value.slice (some { block := g, off := o }) rs.length fc, Value.int IntKind.i64 ↑rs.length, Value.bool (decide ((4 : Int) < ((rs.length : Nat) : Int))), Value.bool (decide ((4 : Int) < ((rs.length : Nat) : Int))), Value.int IntKind.i64 ↑k, Value.pointer (some { block := W.heap.size, off := 1 }), Value.slice (some { block := g, off := o }) rs.length fc, Value.int IntKind.i64 ↑rs.length, Value.bool true, u22, u23, Value.pointer (some { block := W.heap.size, off := 1 }), Value.slice (some { block := g, off := o }) rs.length fc, Value.int IntKind.i64 ↑k, Value.pointer (some { block := g, off := o + k * 8 }), Value.agg #[Value.int IntKind.i64 a, Value.int IntKind.i64 b, Value.int IntKind.i64 c, Value.int IntKind.i64 d, Value.string us, Value.slice ua up.length uc, Value.string ds, Value.slice da dn.length dc], Value.int IntKind.i64 ↑q, Value.pointer (some { block := W.heap.size, off := 0 }), Value.slice ma m.length mc, Value.int IntKind.i64 ↑m.length, Value.bool false, u34, u35, u36, u37, u38, u39, u40, u41, u42, u43, u44, u45, u46, u47, t 0, t 1, t 2, t 3, t 4, t 5, t 6, t 7, t 8, t 9, t 10, t 11, t 12, t 13, t 14, t 15, t 16, t 17, t 18, t 19, t 20, t 21, t 22, t 23, t 24, t 25, t 26, t 27, t 28, t 29, t 30, t 31], defers := [] } ∧ Rg.Vals l VV t ∧ Hid (Below wr.heap.size wr w')) ?sz ?low ?step ?fin _ _ _ _ ?start (Ri.closed_none _ _ _) (Rg.left_all _)
                      case sz => exact fun l a' w' h => h.1
                      case start => exact ⟨by simp, fun j => ([u48, u49, u50, u51, u52, u53, u54, u55, u56, u57, u58, u59, u60, u61, u62, u63, u64, u65, u66, u67, u68, u69, u70, u71, u72, u73, u74, u75, u76, u77, u78, u79] : List Value).getD j undef, rfl, Rg.vals_none _ _ _, (Below.refl _ _).drew⟩
                      case low => exact Ri.low_of (by kernel_rfl)
                      case step =>
                        rintro l a' w' i ⟨hsz, t, rfl, hv, HW⟩ hcl hi
                        obtain ⟨h0, op, ho, hd⟩ := mem_ready.1 hi
                        have hin : i < 32 := (Array.getElem?_eq_some_iff.1 ho).1
                        clear h0 hi hcl
                        have hc : i = 0 ∨ i = 1 ∨ i = 2 ∨ i = 3 ∨ i = 4 ∨ i = 5 ∨ i = 6 ∨ i = 7 ∨ i = 8 ∨ i = 9 ∨ i = 10 ∨ i = 11 ∨ i = 12 ∨ i = 13 ∨ i = 14 ∨ i = 15 ∨ i = 16 ∨ i = 17 ∨ i = 18 ∨ i = 19 ∨ i = 20 ∨ i = 21 ∨ i = 22 ∨ i = 23 ∨ i = 24 ∨ i = 25 ∨ i = 26 ∨ i = 27 ∨ i = 28 ∨ i = 29 ∨ i = 30 ∨ i = 31 := by omega
                        rcases hc with rfl | rfl | rfl | rfl | rfl | rfl | rfl | rfl | rfl | rfl | rfl | rfl | rfl | rfl | rfl | rfl | rfl | rfl | rfl | rfl | rfl | rfl | rfl | rfl | rfl | rfl | rfl | rfl | rfl | rfl | rfl | rfl
                        · obtain rfl : _ = op := Option.some.inj (show some _ = some op from ho)
                          have HV := (show Hid (Rg.Vals l VV t) from hv)
                          clear hv hd ho
                          refine wpOp_step rfl fun K9 hK9 => ?_
                          have HKK := (show Hid _ from hK9)
                          clear hK9
                          go_simp
                          exact HKK.out _ _ ⟨by simp [hsz], fun j => if j = 0 then .bool true else t j, by simp, HV.out.put 0 _ V0.symm, HW⟩
                        · obtain rfl : _ = op := Option.some.inj (show some _ = some op from ho)
                          have e0 : t 0 = .bool true := (hv 0 (hd { on := 0, ground := .data } (by simp) rfl)).trans V0
                          have HV := (show Hid (Rg.Vals l VV t) from hv)
                          clear hv hd ho
                          refine wpOp_step rfl fun K9 hK9 => ?_
                          have HKK := (show Hid _ from hK9)
                          clear hK9
                          go_simp
                          exact HKK.out _ _ ⟨by simp [hsz], fun j => if j = 1 then .bool false else t j, by simp [e0], HV.out.put 1 _ V1.symm, HW⟩
                        · obtain rfl : _ = op := Option.some.inj (show some _ = some op from ho)
                          have e1 : t 1 = .bool false := (hv 1 (hd { on := 1, ground := .data } (by simp) rfl)).trans V1
                          have HV := (show Hid (Rg.Vals l VV t) from hv)
                          clear hv hd ho
                          refine wpOp_step rfl fun K9 hK9 => ?_
                          have HKK := (show Hid _ from hK9)
                          clear hK9
                          go_simp
                          exact HKK.out _ _ ⟨by simp [hsz], fun j => if j = 2 then .bool false else t j, by simp [e1], HV.out.put 2 _ V2.symm, HW⟩
                        · obtain rfl : _ = op := Option.some.inj (show some _ = some op from ho)
                          have e2 : t 2 = .bool false := (hv 2 (hd { on := 2, ground := .guard } (by simp) rfl)).trans V2
                          have HV := (show Hid (Rg.Vals l VV t) from hv)
                          clear hv hd ho
                          refine wpOp_step rfl fun K9 hK9 => ?_
                          have HKK := (show Hid _ from hK9)
                          clear hK9
                          go_simp
                          exact HKK.out _ _ ⟨by simp [hsz], fun j => if j = 3 then .pointer (some ⟨F, 2, none⟩) else t j, by simp [e2], HV.out.put 3 _ V3.symm, HW⟩
                        · obtain rfl : _ = op := Option.some.inj (show some _ = some op from ho)
                          have e3 : t 3 = .pointer (some ⟨F, 2, none⟩) := (hv 3 (hd { on := 3, ground := .data } (by simp) rfl)).trans V3
                          have e2 : t 2 = .bool false := (hv 2 (hd { on := 2, ground := .guard } (by simp) rfl)).trans V2
                          have yn0 : w'.cell? ⟨F, 0, none⟩ = some (.int .i64 a) := (HW.out.cell (p := ⟨F, 0, none⟩) lF).trans n0
                          have yn1 : w'.cell? ⟨F, 1, none⟩ = some (.int .i64 b) := (HW.out.cell (p := ⟨F, 1, none⟩) lF).trans n1
                          have yn2 : w'.cell? ⟨F, 2, none⟩ = some (.int .i64 c) := (HW.out.cell (p := ⟨F, 2, none⟩) lF).trans n2
                          have yn3 : w'.cell? ⟨F, 3, none⟩ = some (.int .i64 d) := (HW.out.cell (p := ⟨F, 3, none⟩) lF).trans n3
                          have yn4 : w'.cell? ⟨F, 4, none⟩ = some (.string us) := (HW.out.cell (p := ⟨F, 4, none⟩) lF).trans n4
                          have yn5 : w'.cell? ⟨F, 5, none⟩ = some (.slice ua up.length uc) := (HW.out.cell (p := ⟨F, 5, none⟩) lF).trans n5
                          have yn6 : w'.cell? ⟨F, 6, none⟩ = some (.string ds) := (HW.out.cell (p := ⟨F, 6, none⟩) lF).trans n6
                          have yn7 : w'.cell? ⟨F, 7, none⟩ = some (.slice da dn.length dc) := (HW.out.cell (p := ⟨F, 7, none⟩) lF).trans n7
                          have yt1 : w'.cell? ⟨W.heap.size, 1, none⟩ = some (.slice (some ⟨g, o, none⟩) rs.length fc) := (HW.out.cell (p := ⟨W.heap.size, 1, none⟩) lW).trans t1
                          have HV := (show Hid (Rg.Vals l VV t) from hv)
                          clear hv hd ho
                          refine wpOp_step rfl fun K9 hK9 => ?_
                          have HKK := (show Hid _ from hK9)
                          clear hK9
                          go_simp
                          exact HKK.out _ _ ⟨by simp [hsz], fun j => if j = 4 then .agg #[.int .i64 c, .int .i64 d] else t j, by simp [e3, e2], HV.out.put 4 _ V4.symm, HW⟩
                        · obtain rfl : _ = op := Option.some.inj (show some _ = some op from ho)
                          have e4 : t 4 = .agg #[.int .i64 c, .int .i64 d] := (hv 4 (hd { on := 4, ground := .data } (by simp) rfl)).trans V4
                          have e2 : t 2 = .bool false := (hv 2 (hd { on := 2, ground := .guard } (by simp) rfl)).trans V2
                          have HV := (show Hid (Rg.Vals l VV t) from hv)
                          clear hv hd ho
                          refine wpOp_step rfl fun K9 hK9 => ?_
                          have HKK := (show Hid _ from hK9)
                          clear hK9
                          go_simp
                          refine (spec2 c d _).mono ?_
                          rintro e w9 ⟨rfl, k9⟩
                          rw [ho]
                          refine HKK.out _ _ ⟨by simp [hsz], fun j => if j = 5 then .bool true else t j, by simp [e4, e2], HV.out.put 5 _ V5.symm, HW.out.trans (k9.mono HW.out.size)⟩
                        · obtain rfl : _ = op := Option.some.inj (show some _ = some op from ho)
                          have e5 : t 5 = .bool true := (hv 5 (hd { on := 5, ground := .data } (by simp) rfl)).trans V5
                          have e2 : t 2 = .bool false := (hv 2 (hd { on := 2, ground := .guard } (by simp) rfl)).trans V2
                          have HV := (show Hid (Rg.Vals l VV t) from hv)
                          clear hv hd ho
                          refine wpOp_step rfl fun K9 hK9 => ?_
                          have HKK := (show Hid _ from hK9)
                          clear hK9
                          go_simp
                          exact HKK.out _ _ ⟨by simp [hsz], fun j => if j = 6 then .bool false else t j, by simp [e5, e2], HV.out.put 6 _ V6.symm, HW⟩
                        · obtain rfl : _ = op := Option.some.inj (show some _ = some op from ho)
                          have e2 : t 2 = .bool false := (hv 2 (hd { on := 2, ground := .data } (by simp) rfl)).trans V2
                          have e6 : t 6 = .bool false := (hv 6 (hd { on := 6, ground := .data } (by simp) rfl)).trans V6
                          have HV := (show Hid (Rg.Vals l VV t) from hv)
                          clear hv hd ho
                          refine wpOp_step rfl fun K9 hK9 => ?_
                          have HKK := (show Hid _ from hK9)
                          clear hK9
                          go_simp
                          exact HKK.out _ _ ⟨by simp [hsz], fun j => if j = 7 then .bool false else t j, by simp [e2, e6], HV.out.put 7 _ V7.symm, HW⟩
                        · obtain rfl : _ = op := Option.some.inj (show some _ = some op from ho)
                          have e7 : t 7 = .bool false := (hv 7 (hd { on := 7, ground := .data } (by simp) rfl)).trans V7
                          have HV := (show Hid (Rg.Vals l VV t) from hv)
                          clear hv hd ho
                          refine wpOp_step rfl fun K9 hK9 => ?_
                          have HKK := (show Hid _ from hK9)
                          clear hK9
                          go_simp
                          exact HKK.out _ _ ⟨by simp [hsz], fun j => if j = 8 then .bool false else t j, by simp [e7], HV.out.put 8 _ V8.symm, HW⟩
                        · obtain rfl : _ = op := Option.some.inj (show some _ = some op from ho)
                          have e8 : t 8 = .bool false := (hv 8 (hd { on := 8, ground := .guard } (by simp) rfl)).trans V8
                          have HV := (show Hid (Rg.Vals l VV t) from hv)
                          clear hv hd ho
                          refine wpOp_step rfl fun K9 hK9 => ?_
                          have HKK := (show Hid _ from hK9)
                          clear hK9
                          go_simp
                          exact HKK.out _ _ ⟨by simp [hsz], fun j => if j = 9 then .pointer (some ⟨F, 4, none⟩) else t j, by simp [e8], HV.out.put 9 _ V9.symm, HW⟩
                        · obtain rfl : _ = op := Option.some.inj (show some _ = some op from ho)
                          have e9 : t 9 = .pointer (some ⟨F, 4, none⟩) := (hv 9 (hd { on := 9, ground := .data } (by simp) rfl)).trans V9
                          have e8 : t 8 = .bool false := (hv 8 (hd { on := 8, ground := .guard } (by simp) rfl)).trans V8
                          have yn0 : w'.cell? ⟨F, 0, none⟩ = some (.int .i64 a) := (HW.out.cell (p := ⟨F, 0, none⟩) lF).trans n0
                          have yn1 : w'.cell? ⟨F, 1, none⟩ = some (.int .i64 b) := (HW.out.cell (p := ⟨F, 1, none⟩) lF).trans n1
                          have yn2 : w'.cell? ⟨F, 2, none⟩ = some (.int .i64 c) := (HW.out.cell (p := ⟨F, 2, none⟩) lF).trans n2
                          have yn3 : w'.cell? ⟨F, 3, none⟩ = some (.int .i64 d) := (HW.out.cell (p := ⟨F, 3, none⟩) lF).trans n3
                          have yn4 : w'.cell? ⟨F, 4, none⟩ = some (.string us) := (HW.out.cell (p := ⟨F, 4, none⟩) lF).trans n4
                          have yn5 : w'.cell? ⟨F, 5, none⟩ = some (.slice ua up.length uc) := (HW.out.cell (p := ⟨F, 5, none⟩) lF).trans n5
                          have yn6 : w'.cell? ⟨F, 6, none⟩ = some (.string ds) := (HW.out.cell (p := ⟨F, 6, none⟩) lF).trans n6
                          have yn7 : w'.cell? ⟨F, 7, none⟩ = some (.slice da dn.length dc) := (HW.out.cell (p := ⟨F, 7, none⟩) lF).trans n7
                          have yt1 : w'.cell? ⟨W.heap.size, 1, none⟩ = some (.slice (some ⟨g, o, none⟩) rs.length fc) := (HW.out.cell (p := ⟨W.heap.size, 1, none⟩) lW).trans t1
                          have HV := (show Hid (Rg.Vals l VV t) from hv)
                          clear hv hd ho
                          refine wpOp_step rfl fun K9 hK9 => ?_
                          have HKK := (show Hid _ from hK9)
                          clear hK9
                          go_simp
                          exact HKK.out _ _ ⟨by simp [hsz], fun j => if j = 10 then .agg #[.string us, .slice ua up.length uc] else t j, by simp [e9, e8], HV.out.put 10 _ V10.symm, HW⟩
                        · obtain rfl : _ = op := Option.some.inj (show some _ = some op from ho)
                          have e10 : t 10 = .agg #[.string us, .slice ua up.length uc] := (hv 10 (hd { on := 10, ground := .data } (by simp) rfl)).trans V10
                          have e8 : t 8 = .bool false := (hv 8 (hd { on := 8, ground := .guard } (by simp) rfl)).trans V8
                          have HV := (show Hid (Rg.Vals l VV t) from hv)
                          clear hv hd ho
                          refine wpOp_step rfl fun K9 hK9 => ?_
                          have HKK := (show Hid _ from hK9)
                          clear hK9
                          go_simp
                          refine (sstream_any us _ up _ (gq1.below HW.out) z1 z2).mono ?_
                          rintro e w9 ⟨rfl, k9⟩
                          rw [hu]
                          refine HKK.out _ _ ⟨by simp [hsz], fun j => if j = 11 then .bool true else t j, by simp [e10, e8], HV.out.put 11 _ V11.symm, HW.out.trans (k9.mono HW.out.size)⟩
                        · obtain rfl : _ = op := Option.some.inj (show some _ = some op from ho)
                          have e11 : t 11 = .bool true := (hv 11 (hd { on := 11, ground := .data } (by simp) rfl)).trans V11
                          have e8 : t 8 = .bool false := (hv 8 (hd { on := 8, ground := .guard } (by simp) rfl)).trans V8
                          have HV := (show Hid (Rg.Vals l VV t) from hv)
                          clear hv hd ho
                          refine wpOp_step rfl fun K9 hK9 => ?_
                          have HKK := (show Hid _ from hK9)
                          clear hK9
                          go_simp
                          exact HKK.out _ _ ⟨by simp [hsz], fun j => if j = 12 then .bool false else t j, by simp [e11, e8], HV.out.put 12 _ V12.symm, HW⟩
                        · obtain rfl : _ = op := Option.some.inj (show some _ = some op from ho)
                          have e8 : t 8 = .bool false := (hv 8 (hd { on := 8, ground := .data } (by simp) rfl)).trans V8
                          have e12 : t 12 = .bool false := (hv 12 (hd { on := 12, ground := .data } (by simp) rfl)).trans V12
                          have HV := (show Hid (Rg.Vals l VV t) from hv)
                          clear hv hd ho
                          refine wpOp_step rfl fun K9 hK9 => ?_
                          have HKK := (show Hid _ from hK9)
                          clear hK9
                          go_simp
                          exact HKK.out _ _ ⟨by simp [hsz], fun j => if j = 13 then .bool false else t j, by simp [e8, e12], HV.out.put 13 _ V13.symm, HW⟩
                        · obtain rfl : _ = op := Option.some.inj (show some _ = some op from ho)
                          have e13 : t 13 = .bool false := (hv 13 (hd { on := 13, ground := .data } (by simp) rfl)).trans V13
                          have HV := (show Hid (Rg.Vals l VV t) from hv)
                          clear hv hd ho
                          refine wpOp_step rfl fun K9 hK9 => ?_
                          have HKK := (show Hid _ from hK9)
                          clear hK9
                          go_simp
                          exact HKK.out _ _ ⟨by simp [hsz], fun j => if j = 14 then .bool false else t j, by simp [e13], HV.out.put 14 _ V14.symm, HW⟩
                        · obtain rfl : _ = op := Option.some.inj (show some _ = some op from ho)
                          have e14 : t 14 = .bool false := (hv 14 (hd { on := 14, ground := .guard } (by simp) rfl)).trans V14
                          have HV := (show Hid (Rg.Vals l VV t) from hv)
                          clear hv hd ho
                          refine wpOp_step rfl fun K9 hK9 => ?_
                          have HKK := (show Hid _ from hK9)
                          clear hK9
                          go_simp
                          exact HKK.out _ _ ⟨by simp [hsz], fun j => if j = 15 then .pointer (some ⟨F, 6, none⟩) else t j, by simp [e14], HV.out.put 15 _ V15.symm, HW⟩
                        · obtain rfl : _ = op := Option.some.inj (show some _ = some op from ho)
                          have e15 : t 15 = .pointer (some ⟨F, 6, none⟩) := (hv 15 (hd { on := 15, ground := .data } (by simp) rfl)).trans V15
                          have e14 : t 14 = .bool false := (hv 14 (hd { on := 14, ground := .guard } (by simp) rfl)).trans V14
                          have yn0 : w'.cell? ⟨F, 0, none⟩ = some (.int .i64 a) := (HW.out.cell (p := ⟨F, 0, none⟩) lF).trans n0
                          have yn1 : w'.cell? ⟨F, 1, none⟩ = some (.int .i64 b) := (HW.out.cell (p := ⟨F, 1, none⟩) lF).trans n1
                          have yn2 : w'.cell? ⟨F, 2, none⟩ = some (.int .i64 c) := (HW.out.cell (p := ⟨F, 2, none⟩) lF).trans n2
                          have yn3 : w'.cell? ⟨F, 3, none⟩ = some (.int .i64 d) := (HW.out.cell (p := ⟨F, 3, none⟩) lF).trans n3
                          have yn4 : w'.cell? ⟨F, 4, none⟩ = some (.string us) := (HW.out.cell (p := ⟨F, 4, none⟩) lF).trans n4
                          have yn5 : w'.cell? ⟨F, 5, none⟩ = some (.slice ua up.length uc) := (HW.out.cell (p := ⟨F, 5, none⟩) lF).trans n5
                          have yn6 : w'.cell? ⟨F, 6, none⟩ = some (.string ds) := (HW.out.cell (p := ⟨F, 6, none⟩) lF).trans n6
                          have yn7 : w'.cell? ⟨F, 7, none⟩ = some (.slice da dn.length dc) := (HW.out.cell (p := ⟨F, 7, none⟩) lF).trans n7
                          have yt1 : w'.cell? ⟨W.heap.size, 1, none⟩ = some (.slice (some ⟨g, o, none⟩) rs.length fc) := (HW.out.cell (p := ⟨W.heap.size, 1, none⟩) lW).trans t1
                          have HV := (show Hid (Rg.Vals l VV t) from hv)
                          clear hv hd ho
                          refine wpOp_step rfl fun K9 hK9 => ?_
                          have HKK := (show Hid _ from hK9)
                          clear hK9
                          go_simp
                          exact HKK.out _ _ ⟨by simp [hsz], fun j => if j = 16 then .agg #[.string ds, .slice da dn.length dc] else t j, by simp [e15, e14], HV.out.put 16 _ V16.symm, HW⟩
                        · obtain rfl : _ = op := Option.some.inj (show some _ = some op from ho)
                          have e16 : t 16 = .agg #[.string ds, .slice da dn.length dc] := (hv 16 (hd { on := 16, ground := .data } (by simp) rfl)).trans V16
                          have e14 : t 14 = .bool false := (hv 14 (hd { on := 14, ground := .guard } (by simp) rfl)).trans V14
                          have HV := (show Hid (Rg.Vals l VV t) from hv)
                          clear hv hd ho
                          refine wpOp_step rfl fun K9 hK9 => ?_
                          have HKK := (show Hid _ from hK9)
                          clear hK9
                          go_simp
                          refine (sstream_any ds _ dn _ (gq2.below HW.out) z3 z4).mono ?_
                          rintro e w9 ⟨rfl, k9⟩
                          rw [hn]
                          refine HKK.out _ _ ⟨by simp [hsz], fun j => if j = 17 then .bool false else t j, by simp [e16, e14], HV.out.put 17 _ V17.symm, HW.out.trans (k9.mono HW.out.size)⟩
                        · obtain rfl : _ = op := Option.some.inj (show some _ = some op from ho)
                          have e17 : t 17 = .bool false := (hv 17 (hd { on := 17, ground := .data } (by simp) rfl)).trans V17
                          have e14 : t 14 = .bool false := (hv 14 (hd { on := 14, ground := .guard } (by simp) rfl)).trans V14
                          have HV := (show Hid (Rg.Vals l VV t) from hv)
                          clear hv hd ho
                          refine wpOp_step rfl fun K9 hK9 => ?_
                          have HKK := (show Hid _ from hK9)
                          clear hK9
                          go_simp
                          exact HKK.out _ _ ⟨by simp [hsz], fun j => if j = 18 then .bool true else t j, by simp [e17, e14], HV.out.put 18 _ V18.symm, HW⟩
                        · obtain rfl : _ = op := Option.some.inj (show some _ = some op from ho)
                          have e14 : t 14 = .bool false := (hv 14 (hd { on := 14, ground := .data } (by simp) rfl)).trans V14
                          have e18 : t 18 = .bool true := (hv 18 (hd { on := 18, ground := .data } (by simp) rfl)).trans V18
                          have HV := (show Hid (Rg.Vals l VV t) from hv)
                          clear hv hd ho
                          refine wpOp_step rfl fun K9 hK9 => ?_
                          have HKK := (show Hid _ from hK9)
                          clear hK9
                          go_simp
                          exact HKK.out _ _ ⟨by simp [hsz], fun j => if j = 19 then .bool true else t j, by simp [e14, e18], HV.out.put 19 _ V19.symm, HW⟩
                        · obtain rfl : _ = op := Option.some.inj (show some _ = some op from ho)
                          have e19 : t 19 = .bool true := (hv 19 (hd { on := 19, ground := .data } (by simp) rfl)).trans V19
                          have HV := (show Hid (Rg.Vals l VV t) from hv)
                          clear hv hd ho
                          refine wpOp_step rfl fun K9 hK9 => ?_
                          have HKK := (show Hid _ from hK9)
                          clear hK9
                          go_simp
                          exact HKK.out _ _ ⟨by simp [hsz], fun j => if j = 20 then .bool true else t j, by simp [e19], HV.out.put 20 _ V20.symm, HW⟩
                        · obtain rfl : _ = op := Option.some.inj (show some _ = some op from ho)
                          have e20 : t 20 = .bool true := (hv 20 (hd { on := 20, ground := .guard } (by simp) rfl)).trans V20
                          have HV := (show Hid (Rg.Vals l VV t) from hv)
                          clear hv hd ho
                          refine wpOp_step rfl fun K9 hK9 => ?_
                          have HKK := (show Hid _ from hK9)
                          clear hK9
                          go_simp
                          exact HKK.out _ _ ⟨by simp [hsz], fun j => if j = 21 then undef else t j, by simp [e20], HV.out.put 21 _ V21.symm, HW⟩
                        · obtain rfl : _ = op := Option.some.inj (show some _ = some op from ho)
                          have e21 : t 21 = undef := (hv 21 (hd { on := 21, ground := .data } (by simp) rfl)).trans V21
                          have e20 : t 20 = .bool true := (hv 20 (hd { on := 20, ground := .guard } (by simp) rfl)).trans V20
                          have yn0 : w'.cell? ⟨F, 0, none⟩ = some (.int .i64 a) := (HW.out.cell (p := ⟨F, 0, none⟩) lF).trans n0
                          have yn1 : w'.cell? ⟨F, 1, none⟩ = some (.int .i64 b) := (HW.out.cell (p := ⟨F, 1, none⟩) lF).trans n1
                          have yn2 : w'.cell? ⟨F, 2, none⟩ = some (.int .i64 c) := (HW.out.cell (p := ⟨F, 2, none⟩) lF).trans n2
                          have yn3 : w'.cell? ⟨F, 3, none⟩ = some (.int .i64 d) := (HW.out.cell (p := ⟨F, 3, none⟩) lF).trans n3
                          have yn4 : w'.cell? ⟨F, 4, none⟩ = some (.string us) := (HW.out.cell (p := ⟨F, 4, none⟩) lF).trans n4
                          have yn5 : w'.cell? ⟨F, 5, none⟩ = some (.slice ua up.length uc) := (HW.out.cell (p := ⟨F, 5, none⟩) lF).trans n5
                          have yn6 : w'.cell? ⟨F, 6, none⟩ = some (.string ds) := (HW.out.cell (p := ⟨F, 6, none⟩) lF).trans n6
                          have yn7 : w'.cell? ⟨F, 7, none⟩ = some (.slice da dn.length dc) := (HW.out.cell (p := ⟨F, 7, none⟩) lF).trans n7
                          have yt1 : w'.cell? ⟨W.heap.size, 1, none⟩ = some (.slice (some ⟨g, o, none⟩) rs.length fc) := (HW.out.cell (p := ⟨W.heap.size, 1, none⟩) lW).trans t1
                          have HV := (show Hid (Rg.Vals l VV t) from hv)
                          clear hv hd ho
                          refine wpOp_step rfl fun K9 hK9 => ?_
                          have HKK := (show Hid _ from hK9)
                          clear hK9
                          go_simp
                          exact HKK.out _ _ ⟨by simp [hsz], fun j => if j = 22 then undef else t j, by simp [e21, e20], HV.out.put 22 _ V22.symm, HW⟩
                        · obtain rfl : _ = op := Option.some.inj (show some _ = some op from ho)
                          have e20 : t 20 = .bool true := (hv 20 (hd { on := 20, ground := .guard } (by simp) rfl)).trans V20
                          have HV := (show Hid (Rg.Vals l VV t) from hv)
                          clear hv hd ho
                          refine wpOp_step rfl fun K9 hK9 => ?_
                          have HKK := (show Hid _ from hK9)
                          clear hK9
                          go_simp
                          exact HKK.out _ _ ⟨by simp [hsz], fun j => if j = 23 then undef else t j, by simp [e20], HV.out.put 23 _ V23.symm, HW⟩
                        · obtain rfl : _ = op := Option.some.inj (show some _ = some op from ho)
                          have e22 : t 22 = undef := (hv 22 (hd { on := 22, ground := .data } (by simp) rfl)).trans V22
                          have e23 : t 23 = undef := (hv 23 (hd { on := 23, ground := .data } (by simp) rfl)).trans V23
                          have e20 : t 20 = .bool true := (hv 20 (hd { on := 20, ground := .guard } (by simp) rfl)).trans V20
                          have HV := (show Hid (Rg.Vals l VV t) from hv)
                          clear hv hd ho
                          refine wpOp_step rfl fun K9 hK9 => ?_
                          have HKK := (show Hid _ from hK9)
                          clear hK9
                          go_simp
                          exact HKK.out _ _ ⟨by simp [hsz], fun j => if j = 24 then undef else t j, by simp [e22, e23, e20], HV.out.put 24 _ V24.symm, HW⟩
                        · obtain rfl : _ = op := Option.some.inj (show some _ = some op from ho)
                          have e20 : t 20 = .bool true := (hv 20 (hd { on := 20, ground := .guard } (by simp) rfl)).trans V20
                          have HV := (show Hid (Rg.Vals l VV t) from hv)
                          clear hv hd ho
                          refine wpOp_step rfl fun K9 hK9 => ?_
                          have HKK := (show Hid _ from hK9)
                          clear hK9
                          go_simp
                          exact HKK.out _ _ ⟨by simp [hsz], fun j => if j = 25 then undef else t j, by simp [e20], HV.out.put 25 _ V25.symm, HW⟩
                        · obtain rfl : _ = op := Option.some.inj (show some _ = some op from ho)
                          have e25 : t 25 = undef := (hv 25 (hd { on := 25, ground := .data } (by simp) rfl)).trans V25
                          have e20 : t 20 = .bool true := (hv 20 (hd { on := 20, ground := .guard } (by simp) rfl)).trans V20
                          have yn0 : w'.cell? ⟨F, 0, none⟩ = some (.int .i64 a) := (HW.out.cell (p := ⟨F, 0, none⟩) lF).trans n0
                          have yn1 : w'.cell? ⟨F, 1, none⟩ = some (.int .i64 b) := (HW.out.cell (p := ⟨F, 1, none⟩) lF).trans n1
                          have yn2 : w'.cell? ⟨F, 2, none⟩ = some (.int .i64 c) := (HW.out.cell (p := ⟨F, 2, none⟩) lF).trans n2
                          have yn3 : w'.cell? ⟨F, 3, none⟩ = some (.int .i64 d) := (HW.out.cell (p := ⟨F, 3, none⟩) lF).trans n3
                          have yn4 : w'.cell? ⟨F, 4, none⟩ = some (.string us) := (HW.out.cell (p := ⟨F, 4, none⟩) lF).trans n4
                          have yn5 : w'.cell? ⟨F, 5, none⟩ = some (.slice ua up.length uc) := (HW.out.cell (p := ⟨F, 5, none⟩) lF).trans n5
                          have yn6 : w'.cell? ⟨F, 6, none⟩ = some (.string ds) := (HW.out.cell (p := ⟨F, 6, none⟩) lF).trans n6
                          have yn7 : w'.cell? ⟨F, 7, none⟩ = some (.slice da dn.length dc) := (HW.out.cell (p := ⟨F, 7, none⟩) lF).trans n7
                          have yt1 : w'.cell? ⟨W.heap.size, 1, none⟩ = some (.slice (some ⟨g, o, none⟩) rs.length fc) := (HW.out.cell (p := ⟨W.heap.size, 1, none⟩) lW).trans t1
                          have HV := (show Hid (Rg.Vals l VV t) from hv)
                          clear hv hd ho
                          refine wpOp_step rfl fun K9 hK9 => ?_
                          have HKK := (show Hid _ from hK9)
                          clear hK9
                          go_simp
                          exact HKK.out _ _ ⟨by simp [hsz], fun j => if j = 26 then undef else t j, by simp [e25, e20], HV.out.put 26 _ V26.symm, HW⟩
                        · obtain rfl : _ = op := Option.some.inj (show some _ = some op from ho)
                          have e20 : t 20 = .bool true := (hv 20 (hd { on := 20, ground := .guard } (by simp) rfl)).trans V20
                          have HV := (show Hid (Rg.Vals l VV t) from hv)
                          clear hv hd ho
                          refine wpOp_step rfl fun K9 hK9 => ?_
                          have HKK := (show Hid _ from hK9)
                          clear hK9
                          go_simp
                          exact HKK.out _ _ ⟨by simp [hsz], fun j => if j = 27 then undef else t j, by simp [e20], HV.out.put 27 _ V27.symm, HW⟩
                        · obtain rfl : _ = op := Option.some.inj (show some _ = some op from ho)
                          have e27 : t 27 = undef := (hv 27 (hd { on := 27, ground := .data } (by simp) rfl)).trans V27
                          have e20 : t 20 = .bool true := (hv 20 (hd { on := 20, ground := .guard } (by simp) rfl)).trans V20
                          have yn0 : w'.cell? ⟨F, 0, none⟩ = some (.int .i64 a) := (HW.out.cell (p := ⟨F, 0, none⟩) lF).trans n0
                          have yn1 : w'.cell? ⟨F, 1, none⟩ = some (.int .i64 b) := (HW.out.cell (p := ⟨F, 1, none⟩) lF).trans n1
                          have yn2 : w'.cell? ⟨F, 2, none⟩ = some (.int .i64 c) := (HW.out.cell (p := ⟨F, 2, none⟩) lF).trans n2
                          have yn3 : w'.cell? ⟨F, 3, none⟩ = some (.int .i64 d) := (HW.out.cell (p := ⟨F, 3, none⟩) lF).trans n3
                          have yn4 : w'.cell? ⟨F, 4, none⟩ = some (.string us) := (HW.out.cell (p := ⟨F, 4, none⟩) lF).trans n4
                          have yn5 : w'.cell? ⟨F, 5, none⟩ = some (.slice ua up.length uc) := (HW.out.cell (p := ⟨F, 5, none⟩) lF).trans n5
                          have yn6 : w'.cell? ⟨F, 6, none⟩ = some (.string ds) := (HW.out.cell (p := ⟨F, 6, none⟩) lF).trans n6
                          have yn7 : w'.cell? ⟨F, 7, none⟩ = some (.slice da dn.length dc) := (HW.out.cell (p := ⟨F, 7, none⟩) lF).trans n7
                          have yt1 : w'.cell? ⟨W.heap.size, 1, none⟩ = some (.slice (some ⟨g, o, none⟩) rs.length fc) := (HW.out.cell (p := ⟨W.heap.size, 1, none⟩) lW).trans t1
                          have HV := (show Hid (Rg.Vals l VV t) from hv)
                          clear hv hd ho
                          refine wpOp_step rfl fun K9 hK9 => ?_
                          have HKK := (show Hid _ from hK9)
                          clear hK9
                          go_simp
                          exact HKK.out _ _ ⟨by simp [hsz], fun j => if j = 28 then undef else t j, by simp [e27, e20], HV.out.put 28 _ V28.symm, HW⟩
                        · obtain rfl : _ = op := Option.some.inj (show some _ = some op from ho)
                          have e24 : t 24 = undef := (hv 24 (hd { on := 24, ground := .data } (by simp) rfl)).trans V24
                          have e26 : t 26 = undef := (hv 26 (hd { on := 26, ground := .data } (by simp) rfl)).trans V26
                          have e28 : t 28 = undef := (hv 28 (hd { on := 28, ground := .data } (by simp) rfl)).trans V28
                          have e20 : t 20 = .bool true := (hv 20 (hd { on := 20, ground := .guard } (by simp) rfl)).trans V20
                          have HV := (show Hid (Rg.Vals l VV t) from hv)
                          clear hv hd ho
                          refine wpOp_step rfl fun K9 hK9 => ?_
                          have HKK := (show Hid _ from hK9)
                          clear hK9
                          go_simp
                          exact HKK.out _ _ ⟨by simp [hsz], fun j => if j = 29 then undef else t j, by simp [e24, e26, e28, e20], HV.out.put 29 _ V29.symm, HW⟩
                        · obtain rfl : _ = op := Option.some.inj (show some _ = some op from ho)
                          have e29 : t 29 = undef := (hv 29 (hd { on := 29, ground := .data } (by simp) rfl)).trans V29
                          have e20 : t 20 = .bool true := (hv 20 (hd { on := 20, ground := .guard } (by simp) rfl)).trans V20
                          have HV := (show Hid (Rg.Vals l VV t) from hv)
                          clear hv hd ho
                          refine wpOp_step rfl fun K9 hK9 => ?_
                          have HKK := (show Hid _ from hK9)
                          clear hK9
                          go_simp
                          exact HKK.out _ _ ⟨by simp [hsz], fun j => if j = 30 then undef else t j, by simp [e29, e20], HV.out.put 30 _ V30.symm, HW⟩
                        · obtain rfl : _ = op := Option.some.inj (show some _ = some op from ho)
                          have e20 : t 20 = .bool true := (hv 20 (hd { on := 20, ground := .data } (by simp) rfl)).trans V20
                          have e30 : t 30 = undef := (hv 30 (hd { on := 30, ground := .data } (by simp) rfl)).trans V30
                          have HV := (show Hid (Rg.Vals l VV t) from hv)
                          clear hv hd ho
                          refine wpOp_step rfl fun K9 hK9 => ?_
                          have HKK := (show Hid _ from hK9)
                          clear hK9
                          go_simp
                          exact HKK.out _ _ ⟨by simp [hsz], fun j => if j = 31 then .bool true else t j, by simp [e20, e30], HV.out.put 31 _ V31.symm, HW⟩
                      case fin =>
                        rintro l a' w' ⟨hsz, t, rfl, hv, HW⟩ hall
                        have e31 : t 31 = .bool true := (hv 31 (hall 31 (by simp))).trans V31
                        rw [e31]
                        clear hv hall e31
                        have hbad := (show Hid (DrP.doorB m rs = false) from HFB.out (by rw [HFL.out, hh, ho, hu, hn]; first | rfl | simp))
                        go_wp2
                        go_ret
                        exact ⟨by rw [hbad.out]; rfl, HBW3.out.trans (HW.out.mono HBW3.out.size)⟩
                    · have hlk : (rs.take k).length ≤ 1073741824 := by simp; omega
                      have hlz : (rs.take k).length = k := by simp; omega
                      obtain ⟨z, hz⟩ : ∃ z : Int, flZ (rs.take k) a b c d = z := ⟨_, rfl⟩
                      have HZ := (show Hid (decide (0 ≤ z) = false ↔ fI rs a b c d = k) from by
                        show decide (0 ≤ z) = false ↔ fI rs a b c d = k
                        rw [← HFT.out, ← hz, decide_eq_false_iff_not]
                        have hle := fI_le (rs.take k) a b c d
                        unfold flZ; rw [hlz] at hle ⊢
                        split <;> omega)
                      have hkc : (k : Int) ≤ (fc : Int) := by omega
                      have hkn : k ≤ fc := by omega
                      clear hlz
                      have hmix : Tryz.prog.follows .mixedOrders = true := by kernel_rfl
                      obtain ⟨VV, hVV⟩ : ∃ VV : Nat → Value, VV = fun j => [(.bool true : Value), .bool false, .bool false, .pointer (some ⟨F, 2, none⟩), .agg #[.int .i64 c, .int .i64 d], .bool true, .bool false, .bool false, .bool false, .pointer (some ⟨F, 4, none⟩), .agg #[.string us, .slice ua up.length uc], .bool true, .bool false, .bool false, .bool false, .pointer (some ⟨F, 6, none⟩), .agg #[.string ds, .slice da dn.length dc], .bool true, .bool false, .bool false, .bool false, .pointer (some ⟨W.heap.size, 1, none⟩), .slice (some ⟨g, o, none⟩) rs.length fc, .int .i64 (k : Nat), .slice (some ⟨g, o, none⟩) k fc, .pointer (some ⟨F, 0, none⟩), .agg #[.int .i64 a, .int .i64 b], .pointer (some ⟨F, 2, none⟩), .agg #[.int .i64 c, .int .i64 d], .int .i64 z, .bool (decide (0 ≤ z)), .bool (decide (0 ≤ z))].getD j undef := ⟨_, rfl⟩
                      have V0 : VV 0 = .bool true := by rw [hVV]; rfl
                      have V1 : VV 1 = .bool false := by rw [hVV]; rfl
                      have V2 : VV 2 = .bool false := by rw [hVV]; rfl
                      have V3 : VV 3 = .pointer (some ⟨F, 2, none⟩) := by rw [hVV]; rfl
                      have V4 : VV 4 = .agg #[.int .i64 c, .int .i64 d] := by rw [hVV]; rfl
                      have V5 : VV 5 = .bool true := by rw [hVV]; rfl
                      have V6 : VV 6 = .bool false := by rw [hVV]; rfl
                      have V7 : VV 7 = .bool false := by rw [hVV]; rfl
                      have V8 : VV 8 = .bool false := by rw [hVV]; rfl
                      have V9 : VV 9 = .pointer (some ⟨F, 4, none⟩) := by rw [hVV]; rfl
                      have V10 : VV 10 = .agg #[.string us, .slice ua up.length uc] := by rw [hVV]; rfl
                      have V11 : VV 11 = .bool true := by rw [hVV]; rfl
                      have V12 : VV 12 = .bool false := by rw [hVV]; rfl
                      have V13 : VV 13 = .bool false := by rw [hVV]; rfl
                      have V14 : VV 14 = .bool false := by rw [hVV]; rfl
                      have V15 : VV 15 = .pointer (some ⟨F, 6, none⟩) := by rw [hVV]; rfl
                      have V16 : VV 16 = .agg #[.string ds, .slice da dn.length dc] := by rw [hVV]; rfl
                      have V17 : VV 17 = .bool true := by rw [hVV]; rfl
                      have V18 : VV 18 = .bool false := by rw [hVV]; rfl
                      have V19 : VV 19 = .bool false := by rw [hVV]; rfl
                      have V20 : VV 20 = .bool false := by rw [hVV]; rfl
                      have V21 : VV 21 = .pointer (some ⟨W.heap.size, 1, none⟩) := by rw [hVV]; rfl
                      have V22 : VV 22 = .slice (some ⟨g, o, none⟩) rs.length fc := by rw [hVV]; rfl
                      have V23 : VV 23 = .int .i64 (k : Nat) := by rw [hVV]; rfl
                      have V24 : VV 24 = .slice (some ⟨g, o, none⟩) k fc := by rw [hVV]; rfl
                      have V25 : VV 25 = .pointer (some ⟨F, 0, none⟩) := by rw [hVV]; rfl
                      have V26 : VV 26 = .agg #[.int .i64 a, .int .i64 b] := by rw [hVV]; rfl
                      have V27 : VV 27 = .pointer (some ⟨F, 2, none⟩) := by rw [hVV]; rfl
                      have V28 : VV 28 = .agg #[.int .i64 c, .int .i64 d] := by rw [hVV]; rfl
                      have V29 : VV 29 = .int .i64 z := by rw [hVV]; rfl
                      have V30 : VV 30 = .bool (decide (0 ≤ z)) := by rw [hVV]; rfl
                      have V31 : VV 31 = .bool (decide (0 ≤ z)) := by rw [hVV]; rfl
                      clear hVV
                      refine wp_region_any hmix ?_
                      refine Ri.any_inv (I := fun l a' w' => l.size = 32 ∧ ∃ t : Nat → Value, a' = { tmps := #[(Value.agg #[Value.slice ma m.length mc, Value.slice (some { block := g, off := o }) rs.length fc] : Value), Value.pointer (some { block := W.heap.size, off := 0 }), u2, Value.int IntKind.i64 ↑k, Value.pointer (some { block := F, off := 0 }), Value.bool true, Value.int IntKind.i64 ↑q, Value.pointer (some { block := W.heap.size, off := 0 }), Value.slice ma m.length mc, Value.bool true, Value.bool false, Value.bool false, Value.pointer (some { block := W.heap.size, off := 1 }), Value.slice (some { block := g, off := o }) rs.length fc, Value.int IntKind.i64 ↑rs.length, Value.bool (decide ((4 : Int) < ((rs.length : Nat) : Int))), Value.bool (decide ((4 : Int) < ((rs.length : Nat) : Int))), Value.int IntKind.i64 ↑k, Value.pointer (some { block := W.heap.size, off := 1 }), Value.slice (some { block := g, off := o }) rs.length fc, Value.int IntKind.i64 ↑rs.length, Value.bool true, u22, u23, Value.pointer (some { block := W.heap.size, off := 1 }), Value.slice (some { block := g, off := o }) rs.length fc, Value.int IntKind.i64 ↑k, Value.pointer (some { block := g, off := o + k * 8 }), Value.agg #[Value.int IntKind.i64 a, Value.int IntKind.i64 b, Value.int IntKind.i64 c, Value.int IntKind.i64 d, Value.string us, Value.slice ua up.length uc, Value.string ds, Value.slice da dn.length dc], Value.int IntKind.i64 ↑q, Value.pointer (some { block := W.heap.size, off := 0 }), Value.slice ma m.length mc, Value.int IntKind.i64 ↑m.length, Value.bool false, u34, u35, u36, u37, u38, u39, u40, u41, u42, u43, u44, u45, u46, u47, t 0, t 1, t 2, t 3, t 4, t 5, t 6, t 7, t 8, t 9, t 10, t 11, t 12, t 13, t 14, t 15, t 16, t 17, t 18, t 19, t 20, t 21, t 22, t 23, t 24, t 25, t 26, t 27, t 28, t 29, t 30, t 31], defers := [] } ∧ Rg.Vals l VV t ∧ Hid (Below wr.heap.size wr w')) ?sz ?low ?step ?fin _ _ _ _ ?start (Ri.closed_none _ _ _) (Rg.left_all _)
                      case sz => exact fun l a' w' h => h.1
                      case start => exact ⟨by simp, fun j => ([u48, u49, u50, u51, u52, u53, u54, u55, u56, u57, u58, u59, u60, u61, u62, u63, u64, u65, u66, u67, u68, u69, u70, u71, u72, u73, u74, u75, u76, u77, u78, u79] : List Value).getD j undef, rfl, Rg.vals_none _ _ _, (Below.refl _ _).drew⟩
                      case low => exact Ri.low_of (by kernel_rfl)
                      case step =>
                        rintro l a' w' i ⟨hsz, t, rfl, hv, HW⟩ hcl hi
                        obtain ⟨h0, op, ho, hd⟩ := mem_ready.1 hi
                        have hin : i < 32 := (Array.getElem?_eq_some_iff.1 ho).1
                        clear h0 hi hcl
                        have hc : i = 0 ∨ i = 1 ∨ i = 2 ∨ i = 3 ∨ i = 4 ∨ i = 5 ∨ i = 6 ∨ i = 7 ∨ i = 8 ∨ i = 9 ∨ i = 10 ∨ i = 11 ∨ i = 12 ∨ i = 13 ∨ i = 14 ∨ i = 15 ∨ i = 16 ∨ i = 17 ∨ i = 18 ∨ i = 19 ∨ i = 20 ∨ i = 21 ∨ i = 22 ∨ i = 23 ∨ i = 24 ∨ i = 25 ∨ i = 26 ∨ i = 27 ∨ i = 28 ∨ i = 29 ∨ i = 30 ∨ i = 31 := by omega
                        rcases hc with rfl | rfl | rfl | rfl | rfl | rfl | rfl | rfl | rfl | rfl | rfl | rfl | rfl | rfl | rfl | rfl | rfl | rfl | rfl | rfl | rfl | rfl | rfl | rfl | rfl | rfl | rfl | rfl | rfl | rfl | rfl | rfl
                        · obtain rfl : _ = op := Option.some.inj (show some _ = some op from ho)
                          have HV := (show Hid (Rg.Vals l VV t) from hv)
                          clear hv hd ho
                          refine wpOp_step rfl fun K9 hK9 => ?_
                          have HKK := (show Hid _ from hK9)
                          clear hK9
                          go_simp
                          exact HKK.out _ _ ⟨by simp [hsz], fun j => if j = 0 then .bool true else t j, by simp, HV.out.put 0 _ V0.symm, HW⟩
                        · obtain rfl : _ = op := Option.some.inj (show some _ = some op from ho)
                          have e0 : t 0 = .bool true := (hv 0 (hd { on := 0, ground := .data } (by simp) rfl)).trans V0
                          have HV := (show Hid (Rg.Vals l VV t) from hv)
                          clear hv hd ho
                          refine wpOp_step rfl fun K9 hK9 => ?_
                          have HKK := (show Hid _ from hK9)
                          clear hK9
                          go_simp
                          exact HKK.out _ _ ⟨by simp [hsz], fun j => if j = 1 then .bool false else t j, by simp [e0], HV.out.put 1 _ V1.symm, HW⟩
                        · obtain rfl : _ = op := Option.some.inj (show some _ = some op from ho)
                          have e1 : t 1 = .bool false := (hv 1 (hd { on := 1, ground := .data } (by simp) rfl)).trans V1
                          have HV := (show Hid (Rg.Vals l VV t) from hv)
                          clear hv hd ho
                          refine wpOp_step rfl fun K9 hK9 => ?_
                          have HKK := (show Hid _ from hK9)
                          clear hK9
                          go_simp
                          exact HKK.out _ _ ⟨by simp [hsz], fun j => if j = 2 then .bool false else t j, by simp [e1], HV.out.put 2 _ V2.symm, HW⟩
                        · obtain rfl : _ = op := Option.some.inj (show some _ = some op from ho)
                          have e2 : t 2 = .bool false := (hv 2 (hd { on := 2, ground := .guard } (by simp) rfl)).trans V2
                          have HV := (show Hid (Rg.Vals l VV t) from hv)
                          clear hv hd ho
                          refine wpOp_step rfl fun K9 hK9 => ?_
                          have HKK := (show Hid _ from hK9)
                          clear hK9
                          go_simp
                          exact HKK.out _ _ ⟨by simp [hsz], fun j => if j = 3 then .pointer (some ⟨F, 2, none⟩) else t j, by simp [e2], HV.out.put 3 _ V3.symm, HW⟩
                        · obtain rfl : _ = op := Option.some.inj (show some _ = some op from ho)
                          have e3 : t 3 = .pointer (some ⟨F, 2, none⟩) := (hv 3 (hd { on := 3, ground := .data } (by simp) rfl)).trans V3
                          have e2 : t 2 = .bool false := (hv 2 (hd { on := 2, ground := .guard } (by simp) rfl)).trans V2
                          have yn0 : w'.cell? ⟨F, 0, none⟩ = some (.int .i64 a) := (HW.out.cell (p := ⟨F, 0, none⟩) lF).trans n0
                          have yn1 : w'.cell? ⟨F, 1, none⟩ = some (.int .i64 b) := (HW.out.cell (p := ⟨F, 1, none⟩) lF).trans n1
                          have yn2 : w'.cell? ⟨F, 2, none⟩ = some (.int .i64 c) := (HW.out.cell (p := ⟨F, 2, none⟩) lF).trans n2
                          have yn3 : w'.cell? ⟨F, 3, none⟩ = some (.int .i64 d) := (HW.out.cell (p := ⟨F, 3, none⟩) lF).trans n3
                          have yn4 : w'.cell? ⟨F, 4, none⟩ = some (.string us) := (HW.out.cell (p := ⟨F, 4, none⟩) lF).trans n4
                          have yn5 : w'.cell? ⟨F, 5, none⟩ = some (.slice ua up.length uc) := (HW.out.cell (p := ⟨F, 5, none⟩) lF).trans n5
                          have yn6 : w'.cell? ⟨F, 6, none⟩ = some (.string ds) := (HW.out.cell (p := ⟨F, 6, none⟩) lF).trans n6
                          have yn7 : w'.cell? ⟨F, 7, none⟩ = some (.slice da dn.length dc) := (HW.out.cell (p := ⟨F, 7, none⟩) lF).trans n7
                          have yt1 : w'.cell? ⟨W.heap.size, 1, none⟩ = some (.slice (some ⟨g, o, none⟩) rs.length fc) := (HW.out.cell (p := ⟨W.heap.size, 1, none⟩) lW).trans t1
                          have HV := (show Hid (Rg.Vals l VV t) from hv)
                          clear hv hd ho
                          refine wpOp_step rfl fun K9 hK9 => ?_
                          have HKK := (show Hid _ from hK9)
                          clear hK9
                          go_simp
                          exact HKK.out _ _ ⟨by simp [hsz], fun j => if j = 4 then .agg #[.int .i64 c, .int .i64 d] else t j, by simp [e3, e2], HV.out.put 4 _ V4.symm, HW⟩
                        · obtain rfl : _ = op := Option.some.inj (show some _ = some op from ho)
                          have e4 : t 4 = .agg #[.int .i64 c, .int .i64 d] := (hv 4 (hd { on := 4, ground := .data } (by simp) rfl)).trans V4
                          have e2 : t 2 = .bool false := (hv 2 (hd { on := 2, ground := .guard } (by simp) rfl)).trans V2
                          have HV := (show Hid (Rg.Vals l VV t) from hv)
                          clear hv hd ho
                          refine wpOp_step rfl fun K9 hK9 => ?_
                          have HKK := (show Hid _ from hK9)
                          clear hK9
                          go_simp
                          refine (spec2 c d _).mono ?_
                          rintro e w9 ⟨rfl, k9⟩
                          rw [ho]
                          refine HKK.out _ _ ⟨by simp [hsz], fun j => if j = 5 then .bool true else t j, by simp [e4, e2], HV.out.put 5 _ V5.symm, HW.out.trans (k9.mono HW.out.size)⟩
                        · obtain rfl : _ = op := Option.some.inj (show some _ = some op from ho)
                          have e5 : t 5 = .bool true := (hv 5 (hd { on := 5, ground := .data } (by simp) rfl)).trans V5
                          have e2 : t 2 = .bool false := (hv 2 (hd { on := 2, ground := .guard } (by simp) rfl)).trans V2
                          have HV := (show Hid (Rg.Vals l VV t) from hv)
                          clear hv hd ho
                          refine wpOp_step rfl fun K9 hK9 => ?_
                          have HKK := (show Hid _ from hK9)
                          clear hK9
                          go_simp
                          exact HKK.out _ _ ⟨by simp [hsz], fun j => if j = 6 then .bool false else t j, by simp [e5, e2], HV.out.put 6 _ V6.symm, HW⟩
                        · obtain rfl : _ = op := Option.some.inj (show some _ = some op from ho)
                          have e2 : t 2 = .bool false := (hv 2 (hd { on := 2, ground := .data } (by simp) rfl)).trans V2
                          have e6 : t 6 = .bool false := (hv 6 (hd { on := 6, ground := .data } (by simp) rfl)).trans V6
                          have HV := (show Hid (Rg.Vals l VV t) from hv)
                          clear hv hd ho
                          refine wpOp_step rfl fun K9 hK9 => ?_
                          have HKK := (show Hid _ from hK9)
                          clear hK9
                          go_simp
                          exact HKK.out _ _ ⟨by simp [hsz], fun j => if j = 7 then .bool false else t j, by simp [e2, e6], HV.out.put 7 _ V7.symm, HW⟩
                        · obtain rfl : _ = op := Option.some.inj (show some _ = some op from ho)
                          have e7 : t 7 = .bool false := (hv 7 (hd { on := 7, ground := .data } (by simp) rfl)).trans V7
                          have HV := (show Hid (Rg.Vals l VV t) from hv)
                          clear hv hd ho
                          refine wpOp_step rfl fun K9 hK9 => ?_
                          have HKK := (show Hid _ from hK9)
                          clear hK9
                          go_simp
                          exact HKK.out _ _ ⟨by simp [hsz], fun j => if j = 8 then .bool false else t j, by simp [e7], HV.out.put 8 _ V8.symm, HW⟩
                        · obtain rfl : _ = op := Option.some.inj (show some _ = some op from ho)
                          have e8 : t 8 = .bool false := (hv 8 (hd { on := 8, ground := .guard } (by simp) rfl)).trans V8
                          have HV := (show Hid (Rg.Vals l VV t) from hv)
                          clear hv hd ho
                          refine wpOp_step rfl fun K9 hK9 => ?_
                          have HKK := (show Hid _ from hK9)
                          clear hK9
                          go_simp
                          exact HKK.out _ _ ⟨by simp [hsz], fun j => if j = 9 then .pointer (some ⟨F, 4, none⟩) else t j, by simp [e8], HV.out.put 9 _ V9.symm, HW⟩
                        · obtain rfl : _ = op := Option.some.inj (show some _ = some op from ho)
                          have e9 : t 9 = .pointer (some ⟨F, 4, none⟩) := (hv 9 (hd { on := 9, ground := .data } (by simp) rfl)).trans V9
                          have e8 : t 8 = .bool false := (hv 8 (hd { on := 8, ground := .guard } (by simp) rfl)).trans V8
                          have yn0 : w'.cell? ⟨F, 0, none⟩ = some (.int .i64 a) := (HW.out.cell (p := ⟨F, 0, none⟩) lF).trans n0
                          have yn1 : w'.cell? ⟨F, 1, none⟩ = some (.int .i64 b) := (HW.out.cell (p := ⟨F, 1, none⟩) lF).trans n1
                          have yn2 : w'.cell? ⟨F, 2, none⟩ = some (.int .i64 c) := (HW.out.cell (p := ⟨F, 2, none⟩) lF).trans n2
                          have yn3 : w'.cell? ⟨F, 3, none⟩ = some (.int .i64 d) := (HW.out.cell (p := ⟨F, 3, none⟩) lF).trans n3
                          have yn4 : w'.cell? ⟨F, 4, none⟩ = some (.string us) := (HW.out.cell (p := ⟨F, 4, none⟩) lF).trans n4
                          have yn5 : w'.cell? ⟨F, 5, none⟩ = some (.slice ua up.length uc) := (HW.out.cell (p := ⟨F, 5, none⟩) lF).trans n5
                          have yn6 : w'.cell? ⟨F, 6, none⟩ = some (.string ds) := (HW.out.cell (p := ⟨F, 6, none⟩) lF).trans n6
                          have yn7 : w'.cell? ⟨F, 7, none⟩ = some (.slice da dn.length dc) := (HW.out.cell (p := ⟨F, 7, none⟩) lF).trans n7
                          have yt1 : w'.cell? ⟨W.heap.size, 1, none⟩ = some (.slice (some ⟨g, o, none⟩) rs.length fc) := (HW.out.cell (p := ⟨W.heap.size, 1, none⟩) lW).trans t1
                          have HV := (show Hid (Rg.Vals l VV t) from hv)
                          clear hv hd ho
                          refine wpOp_step rfl fun K9 hK9 => ?_
                          have HKK := (show Hid _ from hK9)
                          clear hK9
                          go_simp
                          exact HKK.out _ _ ⟨by simp [hsz], fun j => if j = 10 then .agg #[.string us, .slice ua up.length uc] else t j, by simp [e9, e8], HV.out.put 10 _ V10.symm, HW⟩
                        · obtain rfl : _ = op := Option.some.inj (show some _ = some op from ho)
                          have e10 : t 10 = .agg #[.string us, .slice ua up.length uc] := (hv 10 (hd { on := 10, ground := .data } (by simp) rfl)).trans V10
                          have e8 : t 8 = .bool false := (hv 8 (hd { on := 8, ground := .guard } (by simp) rfl)).trans V8
                          have HV := (show Hid (Rg.Vals l VV t) from hv)
                          clear hv hd ho
                          refine wpOp_step rfl fun K9 hK9 => ?_
                          have HKK := (show Hid _ from hK9)
                          clear hK9
                          go_simp
                          refine (sstream_any us _ up _ (gq1.below HW.out) z1 z2).mono ?_
                          rintro e w9 ⟨rfl, k9⟩
                          rw [hu]
                          refine HKK.out _ _ ⟨by simp [hsz], fun j => if j = 11 then .bool true else t j, by simp [e10, e8], HV.out.put 11 _ V11.symm, HW.out.trans (k9.mono HW.out.size)⟩
                        · obtain rfl : _ = op := Option.some.inj (show some _ = some op from ho)
                          have e11 : t 11 = .bool true := (hv 11 (hd { on := 11, ground := .data } (by simp) rfl)).trans V11
                          have e8 : t 8 = .bool false := (hv 8 (hd { on := 8, ground := .guard } (by simp) rfl)).trans V8
                          have HV := (show Hid (Rg.Vals l VV t) from hv)
                          clear hv hd ho
                          refine wpOp_step rfl fun K9 hK9 => ?_
                          have HKK := (show Hid _ from hK9)
                          clear hK9
                          go_simp
                          exact HKK.out _ _ ⟨by simp [hsz], fun j => if j = 12 then .bool false else t j, by simp [e11, e8], HV.out.put 12 _ V12.symm, HW⟩
                        · obtain rfl : _ = op := Option.some.inj (show some _ = some op from ho)
                          have e8 : t 8 = .bool false := (hv 8 (hd { on := 8, ground := .data } (by simp) rfl)).trans V8
                          have e12 : t 12 = .bool false := (hv 12 (hd { on := 12, ground := .data } (by simp) rfl)).trans V12
                          have HV := (show Hid (Rg.Vals l VV t) from hv)
                          clear hv hd ho
                          refine wpOp_step rfl fun K9 hK9 => ?_
                          have HKK := (show Hid _ from hK9)
                          clear hK9
                          go_simp
                          exact HKK.out _ _ ⟨by simp [hsz], fun j => if j = 13 then .bool false else t j, by simp [e8, e12], HV.out.put 13 _ V13.symm, HW⟩
                        · obtain rfl : _ = op := Option.some.inj (show some _ = some op from ho)
                          have e13 : t 13 = .bool false := (hv 13 (hd { on := 13, ground := .data } (by simp) rfl)).trans V13
                          have HV := (show Hid (Rg.Vals l VV t) from hv)
                          clear hv hd ho
                          refine wpOp_step rfl fun K9 hK9 => ?_
                          have HKK := (show Hid _ from hK9)
                          clear hK9
                          go_simp
                          exact HKK.out _ _ ⟨by simp [hsz], fun j => if j = 14 then .bool false else t j, by simp [e13], HV.out.put 14 _ V14.symm, HW⟩
                        · obtain rfl : _ = op := Option.some.inj (show some _ = some op from ho)
                          have e14 : t 14 = .bool false := (hv 14 (hd { on := 14, ground := .guard } (by simp) rfl)).trans V14
                          have HV := (show Hid (Rg.Vals l VV t) from hv)
                          clear hv hd ho
                          refine wpOp_step rfl fun K9 hK9 => ?_
                          have HKK := (show Hid _ from hK9)
                          clear hK9
                          go_simp
                          exact HKK.out _ _ ⟨by simp [hsz], fun j => if j = 15 then .pointer (some ⟨F, 6, none⟩) else t j, by simp [e14], HV.out.put 15 _ V15.symm, HW⟩
                        · obtain rfl : _ = op := Option.some.inj (show some _ = some op from ho)
                          have e15 : t 15 = .pointer (some ⟨F, 6, none⟩) := (hv 15 (hd { on := 15, ground := .data } (by simp) rfl)).trans V15
                          have e14 : t 14 = .bool false := (hv 14 (hd { on := 14, ground := .guard } (by simp) rfl)).trans V14
                          have yn0 : w'.cell? ⟨F, 0, none⟩ = some (.int .i64 a) := (HW.out.cell (p := ⟨F, 0, none⟩) lF).trans n0
                          have yn1 : w'.cell? ⟨F, 1, none⟩ = some (.int .i64 b) := (HW.out.cell (p := ⟨F, 1, none⟩) lF).trans n1
                          have yn2 : w'.cell? ⟨F, 2, none⟩ = some (.int .i64 c) := (HW.out.cell (p := ⟨F, 2, none⟩) lF).trans n2
                          have yn3 : w'.cell? ⟨F, 3, none⟩ = some (.int .i64 d) := (HW.out.cell (p := ⟨F, 3, none⟩) lF).trans n3
                          have yn4 : w'.cell? ⟨F, 4, none⟩ = some (.string us) := (HW.out.cell (p := ⟨F, 4, none⟩) lF).trans n4
                          have yn5 : w'.cell? ⟨F, 5, none⟩ = some (.slice ua up.length uc) := (HW.out.cell (p := ⟨F, 5, none⟩) lF).trans n5
                          have yn6 : w'.cell? ⟨F, 6, none⟩ = some (.string ds) := (HW.out.cell (p := ⟨F, 6, none⟩) lF).trans n6
                          have yn7 : w'.cell? ⟨F, 7, none⟩ = some (.slice da dn.length dc) := (HW.out.cell (p := ⟨F, 7, none⟩) lF).trans n7
                          have yt1 : w'.cell? ⟨W.heap.size, 1, none⟩ = some (.slice (some ⟨g, o, none⟩) rs.length fc) := (HW.out.cell (p := ⟨W.heap.size, 1, none⟩) lW).trans t1
                          have HV := (show Hid (Rg.Vals l VV t) from hv)
                          clear hv hd ho
                          refine wpOp_step rfl fun K9 hK9 => ?_
                          have HKK := (show Hid _ from hK9)
                          clear hK9
                          go_simp
                          exact HKK.out _ _ ⟨by simp [hsz], fun j => if j = 16 then .agg #[.string ds, .slice da dn.length dc] else t j, by simp [e15, e14], HV.out.put 16 _ V16.symm, HW⟩
                        · obtain rfl : _ = op := Option.some.inj (show some _ = some op from ho)
                          have e16 : t 16 = .agg #[.string ds, .slice da dn.length dc] := (hv 16 (hd { on := 16, ground := .data } (by simp) rfl)).trans V16
                          have e14 : t 14 = .bool false := (hv 14 (hd { on := 14, ground := .guard } (by simp) rfl)).trans V14
                          have HV := (show Hid (Rg.Vals l VV t) from hv)
                          clear hv hd ho
                          refine wpOp_step rfl fun K9 hK9 => ?_
                          have HKK := (show Hid _ from hK9)
                          clear hK9
                          go_simp
                          refine (sstream_any ds _ dn _ (gq2.below HW.out) z3 z4).mono ?_
                          rintro e w9 ⟨rfl, k9⟩
                          rw [hn]
                          refine HKK.out _ _ ⟨by simp [hsz], fun j => if j = 17 then .bool true else t j, by simp [e16, e14], HV.out.put 17 _ V17.symm, HW.out.trans (k9.mono HW.out.size)⟩
                        · obtain rfl : _ = op := Option.some.inj (show some _ = some op from ho)
                          have e17 : t 17 = .bool true := (hv 17 (hd { on := 17, ground := .data } (by simp) rfl)).trans V17
                          have e14 : t 14 = .bool false := (hv 14 (hd { on := 14, ground := .guard } (by simp) rfl)).trans V14
                          have HV := (show Hid (Rg.Vals l VV t) from hv)
                          clear hv hd ho
                          refine wpOp_step rfl fun K9 hK9 => ?_
                          have HKK := (show Hid _ from hK9)
                          clear hK9
                          go_simp
                          exact HKK.out _ _ ⟨by simp [hsz], fun j => if j = 18 then .bool false else t j, by simp [e17, e14], HV.out.put 18 _ V18.symm, HW⟩
                        · obtain rfl : _ = op := Option.some.inj (show some _ = some op from ho)
                          have e14 : t 14 = .bool false := (hv 14 (hd { on := 14, ground := .data } (by simp) rfl)).trans V14
                          have e18 : t 18 = .bool false := (hv 18 (hd { on := 18, ground := .data } (by simp) rfl)).trans V18
                          have HV := (show Hid (Rg.Vals l VV t) from hv)
                          clear hv hd ho
                          refine wpOp_step rfl fun K9 hK9 => ?_
                          have HKK := (show Hid _ from hK9)
                          clear hK9
                          go_simp
                          exact HKK.out _ _ ⟨by simp [hsz], fun j => if j = 19 then .bool false else t j, by simp [e14, e18], HV.out.put 19 _ V19.symm, HW⟩
                        · obtain rfl : _ = op := Option.some.inj (show some _ = some op from ho)
                          have e19 : t 19 = .bool false := (hv 19 (hd { on := 19, ground := .data } (by simp) rfl)).trans V19
                          have HV := (show Hid (Rg.Vals l VV t) from hv)
                          clear hv hd ho
                          refine wpOp_step rfl fun K9 hK9 => ?_
                          have HKK := (show Hid _ from hK9)
                          clear hK9
                          go_simp
                          exact HKK.out _ _ ⟨by simp [hsz], fun j => if j = 20 then .bool false else t j, by simp [e19], HV.out.put 20 _ V20.symm, HW⟩
                        · obtain rfl : _ = op := Option.some.inj (show some _ = some op from ho)
                          have e20 : t 20 = .bool false := (hv 20 (hd { on := 20, ground := .guard } (by simp) rfl)).trans V20
                          have HV := (show Hid (Rg.Vals l VV t) from hv)
                          clear hv hd ho
                          refine wpOp_step rfl fun K9 hK9 => ?_
                          have HKK := (show Hid _ from hK9)
                          clear hK9
                          go_simp
                          exact HKK.out _ _ ⟨by simp [hsz], fun j => if j = 21 then .pointer (some ⟨W.heap.size, 1, none⟩) else t j, by simp [e20], HV.out.put 21 _ V21.symm, HW⟩
                        · obtain rfl : _ = op := Option.some.inj (show some _ = some op from ho)
                          have e21 : t 21 = .pointer (some ⟨W.heap.size, 1, none⟩) := (hv 21 (hd { on := 21, ground := .data } (by simp) rfl)).trans V21
                          have e20 : t 20 = .bool false := (hv 20 (hd { on := 20, ground := .guard } (by simp) rfl)).trans V20
                          have yn0 : w'.cell? ⟨F, 0, none⟩ = some (.int .i64 a) := (HW.out.cell (p := ⟨F, 0, none⟩) lF).trans n0
                          have yn1 : w'.cell? ⟨F, 1, none⟩ = some (.int .i64 b) := (HW.out.cell (p := ⟨F, 1, none⟩) lF).trans n1
                          have yn2 : w'.cell? ⟨F, 2, none⟩ = some (.int .i64 c) := (HW.out.cell (p := ⟨F, 2, none⟩) lF).trans n2
                          have yn3 : w'.cell? ⟨F, 3, none⟩ = some (.int .i64 d) := (HW.out.cell (p := ⟨F, 3, none⟩) lF).trans n3
                          have yn4 : w'.cell? ⟨F, 4, none⟩ = some (.string us) := (HW.out.cell (p := ⟨F, 4, none⟩) lF).trans n4
                          have yn5 : w'.cell? ⟨F, 5, none⟩ = some (.slice ua up.length uc) := (HW.out.cell (p := ⟨F, 5, none⟩) lF).trans n5
                          have yn6 : w'.cell? ⟨F, 6, none⟩ = some (.string ds) := (HW.out.cell (p := ⟨F, 6, none⟩) lF).trans n6
                          have yn7 : w'.cell? ⟨F, 7, none⟩ = some (.slice da dn.length dc) := (HW.out.cell (p := ⟨F, 7, none⟩) lF).trans n7
                          have yt1 : w'.cell? ⟨W.heap.size, 1, none⟩ = some (.slice (some ⟨g, o, none⟩) rs.length fc) := (HW.out.cell (p := ⟨W.heap.size, 1, none⟩) lW).trans t1
                          have HV := (show Hid (Rg.Vals l VV t) from hv)
                          clear hv hd ho
                          refine wpOp_step rfl fun K9 hK9 => ?_
                          have HKK := (show Hid _ from hK9)
                          clear hK9
                          go_simp
                          exact HKK.out _ _ ⟨by simp [hsz], fun j => if j = 22 then .slice (some ⟨g, o, none⟩) rs.length fc else t j, by simp [e21, e20], HV.out.put 22 _ V22.symm, HW⟩
                        · obtain rfl : _ = op := Option.some.inj (show some _ = some op from ho)
                          have e20 : t 20 = .bool false := (hv 20 (hd { on := 20, ground := .guard } (by simp) rfl)).trans V20
                          have HV := (show Hid (Rg.Vals l VV t) from hv)
                          clear hv hd ho
                          refine wpOp_step rfl fun K9 hK9 => ?_
                          have HKK := (show Hid _ from hK9)
                          clear hK9
                          go_simp
                          exact HKK.out _ _ ⟨by simp [hsz], fun j => if j = 23 then .int .i64 (k : Nat) else t j, by simp [e20], HV.out.put 23 _ V23.symm, HW⟩
                        · obtain rfl : _ = op := Option.some.inj (show some _ = some op from ho)
                          have e22 : t 22 = .slice (some ⟨g, o, none⟩) rs.length fc := (hv 22 (hd { on := 22, ground := .data } (by simp) rfl)).trans V22
                          have e23 : t 23 = .int .i64 (k : Nat) := (hv 23 (hd { on := 23, ground := .data } (by simp) rfl)).trans V23
                          have e20 : t 20 = .bool false := (hv 20 (hd { on := 20, ground := .guard } (by simp) rfl)).trans V20
                          have HV := (show Hid (Rg.Vals l VV t) from hv)
                          clear hv hd ho
                          refine wpOp_step rfl fun K9 hK9 => ?_
                          have HKK := (show Hid _ from hK9)
                          clear hK9
                          go_simp
                          go_wp2_with fail
                          exact HKK.out _ _ ⟨by simp [hsz], fun j => if j = 24 then .slice (some ⟨g, o, none⟩) k fc else t j, by simp [e22, e23, e20], HV.out.put 24 _ V24.symm, HW⟩
                        · obtain rfl : _ = op := Option.some.inj (show some _ = some op from ho)
                          have e20 : t 20 = .bool false := (hv 20 (hd { on := 20, ground := .guard } (by simp) rfl)).trans V20
                          have HV := (show Hid (Rg.Vals l VV t) from hv)
                          clear hv hd ho
                          refine wpOp_step rfl fun K9 hK9 => ?_
                          have HKK := (show Hid _ from hK9)
                          clear hK9
                          go_simp
                          exact HKK.out _ _ ⟨by simp [hsz], fun j => if j = 25 then .pointer (some ⟨F, 0, none⟩) else t j, by simp [e20], HV.out.put 25 _ V25.symm, HW⟩
                        · obtain rfl : _ = op := Option.some.inj (show some _ = some op from ho)
                          have e25 : t 25 = .pointer (some ⟨F, 0, none⟩) := (hv 25 (hd { on := 25, ground := .data } (by simp) rfl)).trans V25
                          have e20 : t 20 = .bool false := (hv 20 (hd { on := 20, ground := .guard } (by simp) rfl)).trans V20
                          have yn0 : w'.cell? ⟨F, 0, none⟩ = some (.int .i64 a) := (HW.out.cell (p := ⟨F, 0, none⟩) lF).trans n0
                          have yn1 : w'.cell? ⟨F, 1, none⟩ = some (.int .i64 b) := (HW.out.cell (p := ⟨F, 1, none⟩) lF).trans n1
                          have yn2 : w'.cell? ⟨F, 2, none⟩ = some (.int .i64 c) := (HW.out.cell (p := ⟨F, 2, none⟩) lF).trans n2
                          have yn3 : w'.cell? ⟨F, 3, none⟩ = some (.int .i64 d) := (HW.out.cell (p := ⟨F, 3, none⟩) lF).trans n3
                          have yn4 : w'.cell? ⟨F, 4, none⟩ = some (.string us) := (HW.out.cell (p := ⟨F, 4, none⟩) lF).trans n4
                          have yn5 : w'.cell? ⟨F, 5, none⟩ = some (.slice ua up.length uc) := (HW.out.cell (p := ⟨F, 5, none⟩) lF).trans n5
                          have yn6 : w'.cell? ⟨F, 6, none⟩ = some (.string ds) := (HW.out.cell (p := ⟨F, 6, none⟩) lF).trans n6
                          have yn7 : w'.cell? ⟨F, 7, none⟩ = some (.slice da dn.length dc) := (HW.out.cell (p := ⟨F, 7, none⟩) lF).trans n7
                          have yt1 : w'.cell? ⟨W.heap.size, 1, none⟩ = some (.slice (some ⟨g, o, none⟩) rs.length fc) := (HW.out.cell (p := ⟨W.heap.size, 1, none⟩) lW).trans t1
                          have HV := (show Hid (Rg.Vals l VV t) from hv)
                          clear hv hd ho
                          refine wpOp_step rfl fun K9 hK9 => ?_
                          have HKK := (show Hid _ from hK9)
                          clear hK9
                          go_simp
                          exact HKK.out _ _ ⟨by simp [hsz], fun j => if j = 26 then .agg #[.int .i64 a, .int .i64 b] else t j, by simp [e25, e20], HV.out.put 26 _ V26.symm, HW⟩
                        · obtain rfl : _ = op := Option.some.inj (show some _ = some op from ho)
                          have e20 : t 20 = .bool false := (hv 20 (hd { on := 20, ground := .guard } (by simp) rfl)).trans V20
                          have HV := (show Hid (Rg.Vals l VV t) from hv)
                          clear hv hd ho
                          refine wpOp_step rfl fun K9 hK9 => ?_
                          have HKK := (show Hid _ from hK9)
                          clear hK9
                          go_simp
                          exact HKK.out _ _ ⟨by simp [hsz], fun j => if j = 27 then .pointer (some ⟨F, 2, none⟩) else t j, by simp [e20], HV.out.put 27 _ V27.symm, HW⟩
                        · obtain rfl : _ = op := Option.some.inj (show some _ = some op from ho)
                          have e27 : t 27 = .pointer (some ⟨F, 2, none⟩) := (hv 27 (hd { on := 27, ground := .data } (by simp) rfl)).trans V27
                          have e20 : t 20 = .bool false := (hv 20 (hd { on := 20, ground := .guard } (by simp) rfl)).trans V20
                          have yn0 : w'.cell? ⟨F, 0, none⟩ = some (.int .i64 a) := (HW.out.cell (p := ⟨F, 0, none⟩) lF).trans n0
                          have yn1 : w'.cell? ⟨F, 1, none⟩ = some (.int .i64 b) := (HW.out.cell (p := ⟨F, 1, none⟩) lF).trans n1
                          have yn2 : w'.cell? ⟨F, 2, none⟩ = some (.int .i64 c) := (HW.out.cell (p := ⟨F, 2, none⟩) lF).trans n2
                          have yn3 : w'.cell? ⟨F, 3, none⟩ = some (.int .i64 d) := (HW.out.cell (p := ⟨F, 3, none⟩) lF).trans n3
                          have yn4 : w'.cell? ⟨F, 4, none⟩ = some (.string us) := (HW.out.cell (p := ⟨F, 4, none⟩) lF).trans n4
                          have yn5 : w'.cell? ⟨F, 5, none⟩ = some (.slice ua up.length uc) := (HW.out.cell (p := ⟨F, 5, none⟩) lF).trans n5
                          have yn6 : w'.cell? ⟨F, 6, none⟩ = some (.string ds) := (HW.out.cell (p := ⟨F, 6, none⟩) lF).trans n6
                          have yn7 : w'.cell? ⟨F, 7, none⟩ = some (.slice da dn.length dc) := (HW.out.cell (p := ⟨F, 7, none⟩) lF).trans n7
                          have yt1 : w'.cell? ⟨W.heap.size, 1, none⟩ = some (.slice (some ⟨g, o, none⟩) rs.length fc) := (HW.out.cell (p := ⟨W.heap.size, 1, none⟩) lW).trans t1
                          have HV := (show Hid (Rg.Vals l VV t) from hv)
                          clear hv hd ho
                          refine wpOp_step rfl fun K9 hK9 => ?_
                          have HKK := (show Hid _ from hK9)
                          clear hK9
                          go_simp
                          exact HKK.out _ _ ⟨by simp [hsz], fun j => if j = 28 then .agg #[.int .i64 c, .int .i64 d] else t j, by simp [e27, e20], HV.out.put 28 _ V28.symm, HW⟩
                        · obtain rfl : _ = op := Option.some.inj (show some _ = some op from ho)
                          have e24 : t 24 = .slice (some ⟨g, o, none⟩) k fc := (hv 24 (hd { on := 24, ground := .data } (by simp) rfl)).trans V24
                          have e26 : t 26 = .agg #[.int .i64 a, .int .i64 b] := (hv 26 (hd { on := 26, ground := .data } (by simp) rfl)).trans V26
                          have e28 : t 28 = .agg #[.int .i64 c, .int .i64 d] := (hv 28 (hd { on := 28, ground := .data } (by simp) rfl)).trans V28
                          have e20 : t 20 = .bool false := (hv 20 (hd { on := 20, ground := .guard } (by simp) rfl)).trans V20
                          have HV := (show Hid (Rg.Vals l VV t) from hv)
                          clear hv hd ho
                          refine wpOp_step rfl fun K9 hK9 => ?_
                          have HKK := (show Hid _ from hK9)
                          clear hK9
                          go_simp
                          refine (lflow_any (rs.take k) _ a b c d _ (hFq.below HW.out) hlk).mono ?_
                          rintro e w9 ⟨rfl, k9⟩
                          rw [hz]
                          refine HKK.out _ _ ⟨by simp [hsz], fun j => if j = 29 then .int .i64 z else t j, by simp [e24, e26, e28, e20], HV.out.put 29 _ V29.symm, HW.out.trans (k9.mono HW.out.size)⟩
                        · obtain rfl : _ = op := Option.some.inj (show some _ = some op from ho)
                          have e29 : t 29 = .int .i64 z := (hv 29 (hd { on := 29, ground := .data } (by simp) rfl)).trans V29
                          have e20 : t 20 = .bool false := (hv 20 (hd { on := 20, ground := .guard } (by simp) rfl)).trans V20
                          have HV := (show Hid (Rg.Vals l VV t) from hv)
                          clear hv hd ho
                          refine wpOp_step rfl fun K9 hK9 => ?_
                          have HKK := (show Hid _ from hK9)
                          clear hK9
                          go_simp
                          exact HKK.out _ _ ⟨by simp [hsz], fun j => if j = 30 then .bool (decide (0 ≤ z)) else t j, by simp [e29, e20], HV.out.put 30 _ V30.symm, HW⟩
                        · obtain rfl : _ = op := Option.some.inj (show some _ = some op from ho)
                          have e20 : t 20 = .bool false := (hv 20 (hd { on := 20, ground := .data } (by simp) rfl)).trans V20
                          have e30 : t 30 = .bool (decide (0 ≤ z)) := (hv 30 (hd { on := 30, ground := .data } (by simp) rfl)).trans V30
                          have HV := (show Hid (Rg.Vals l VV t) from hv)
                          clear hv hd ho
                          refine wpOp_step rfl fun K9 hK9 => ?_
                          have HKK := (show Hid _ from hK9)
                          clear hK9
                          go_simp
                          exact HKK.out _ _ ⟨by simp [hsz], fun j => if j = 31 then .bool (decide (0 ≤ z)) else t j, by simp [e20, e30], HV.out.put 31 _ V31.symm, HW⟩
                      case fin =>
                        rintro l a' w' ⟨hsz, t, rfl, hv, HW⟩ hall
                        have e31 : t 31 = .bool (decide (0 ≤ z)) := (hv 31 (hall 31 (by simp))).trans V31
                        rw [e31]
                        clear hv hall e31
                        cases hd : decide (0 ≤ z)
                        · have hgood := (show Hid (∀ (j : Nat) (r : RF), j < k + 1 → rs[j]? = some r → flB m rs j r = true) from HFG.out (by rw [HFL.out, hh, ho, hu, hn, decide_eq_true (HZ.out.1 hd)]; rfl))
                          go_wp2
                          go_roundw
                          case rel => exact ⟨k + 1, by omega, by go_num, hgood.out, HB3.out.trans (HW.out.mono HB3.out.size)⟩
                          case measure => simp [intOf]; omega
                        · have hbad := (show Hid (DrP.doorB m rs = false) from HFB.out (by rw [HFL.out, hh, ho, hu, hn, decide_eq_false (fun q => by rw [HZ.out.2 q] at hd; cases hd)]; rfl))
                          go_wp2
                          go_ret
                          exact ⟨by rw [hbad.out]; rfl, HBW3.out.trans (HW.out.mono HBW3.out.size)⟩
        · have hge : (rs.length : Int) ≤ (k : Int) := by omega
          have y0 := (hb.cell (p := ⟨W.heap.size, 0, none⟩) l1).trans a0
          have y1 := (hb.cell (p := ⟨W.heap.size, 1, none⟩) l1).trans a1
          have hall : doorB m rs = true := doorB_good hok h4 fun i r hr => hup i r (by have := (List.getElem?_eq_some_iff.1 hr).1; omega) hr
          go_wp2
          go_ret
          exact ⟨by rw [hall]; rfl, b1.trans (hb.mono b1.size)⟩
    · have h4' : (4 : Int) < (rs.length : Int) := by omega
      go_wp2
      go_ret
      exact ⟨by rw [doorB_many h4]; rfl, b1⟩
end Go.Proofs.YtfmjhbdbgcgoiaaGreatDoor.DrS

/- Doors that are handed in, read. No program is walked here. -/
import Derived.Test.YtfmjhbdbgcgoiaaGreatDoorExH
import Derived.Test.YtfmjhbdbgcgoiaaGreatDoorDrP
import Derived.Deep.Slices
import Derived.Lib.SmallJoins
namespace Go.Proofs.YtfmjhbdbgcgoiaaGreatDoor.ExD
open Go.RowKit Go.Proofs.YtfmjhbdbgcgoiaaGreatDoor.Kit Go.Proofs.YtfmjhbdbgcgoiaaGreatDoor.St Go.Proofs.YtfmjhbdbgcgoiaaGreatDoor.App Go.Proofs.YtfmjhbdbgcgoiaaGreatDoor.Mm Go.Proofs.YtfmjhbdbgcgoiaaGreatDoor.ExM Go.Proofs.YtfmjhbdbgcgoiaaGreatDoor.ExT Go.Proofs.YtfmjhbdbgcgoiaaGreatDoor.Dr
set_option linter.unusedSimpArgs false
set_option linter.unusedVariables false
instance : Inhabited RF := ⟨⟨0, 0, 0, 0, ⟨#[]⟩, .slice none 0 0, [], ⟨#[]⟩, .slice none 0 0, []⟩⟩
section
open Go.Deep Go.ChangeShapes Go.WideShapes Go.Joins
variable {H : Type} {enc : TypeId × Value → H} {P : Program} {w : World} {base : Nat}
theorem open_endC {n : Nat} {t : TypeId} {g0 g1 : Field} {v0 v1 : Value} {y : DataW H × List MemPlace}
    (ht : P.underlying t = some (.struct #[g0, g1])) (hg : (g0.offset, g1.offset, P.cellsOf g0.type, P.cellsOf g1.type) = (0, 1, 1, 1))
    (j0 : P.underlying g0.type = some (.int .i64)) (j1 : P.underlying g1.type = some (.int .i64))
    (h : DataW.trod enc P w base (fun _ => true) true n t [v0, v1] = some y) : ∃ a b, v0 = .int .i64 a ∧ v1 = .int .i64 b := by
  simp only [Prod.mk.injEq] at hg
  obtain ⟨p0, p1, d0, d1⟩ := hg
  obtain ⟨z0, z1, n2, _, _, l0, l1⟩ := trod_struct2 ht h
  simp [p0, p1, d0, d1] at l0 l1
  obtain ⟨q1, e1, _, _⟩ := DataW.trod_int j0 l0
  obtain ⟨q2, e2, _, _⟩ := DataW.trod_int j1 l1
  simp at e1 e2
  exact ⟨q1, q2, e1, e2⟩
theorem open_streamC {n : Nat} {t e : TypeId} {f0 f1 g0 g1 : Field} {v0 v1 : Value} {y : DataW H × List MemPlace}
    (ht : P.underlying t = some (.struct #[f0, f1])) (hf : (f0.offset, f1.offset, P.cellsOf f0.type, P.cellsOf f1.type) = (0, 1, 1, 1)) (h0 : P.underlying f0.type = some .string) (h1 : P.underlying f1.type = some (.slice e))
    (he : P.underlying e = some (.struct #[g0, g1])) (hg : (P.cellsOf e, g0.offset, g1.offset, P.cellsOf g0.type, P.cellsOf g1.type) = (2, 0, 1, 1, 1))
    (i0 : P.underlying g0.type = some (.int .i64)) (i1 : P.underlying g1.type = some .string)
    (h : DataW.trod enc P w base (fun _ => true) true n t [v0, v1] = some y) : ∃ s qs, v0 = .string s ∧ ArgS w s v1 qs := by
  simp only [Prod.mk.injEq] at hf hg
  obtain ⟨p0, p1, d0, d1⟩ := hf
  obtain ⟨ce, o0, o1, c0, c1⟩ := hg
  obtain ⟨z0, z1, n2, _, _, l0, l1⟩ := trod_struct2 ht h
  simp [p0, p1, d0, d1] at l0 l1
  obtain ⟨s, e0, _, hs⟩ := DataW.trod_string h0 l0
  simp at e0
  subst e0
  rcases open_slice_pairs h1 he ce o0 o1 c0 c1 l1 with ⟨hcs, _⟩ | ⟨a, len, cap, m, n', V0, V1, D0, D1, P0, P1, hcs, hb, hl, hm, hmm, _, hx⟩
  · simp at hcs
    subst hcs
    exact ⟨s, [], rfl, hs, ⟨none, 0, rfl, Nat.le_refl _, Nat.zero_le _, .inl rfl⟩, fun p hp => by cases hp⟩
  · simp at hcs
    subst hcs
    simp at hmm
    subst hmm
    have each : ∀ i, i < m → ∃ q : Int × ByteArray, w.cell? (a.add (i * 2)) = some (.int .i64 q.1) ∧ w.cell? (a.add (i * 2 + 1)) = some (.string q.2) ∧ q.2.size ≤ maxLen := by
      intro i hi
      obtain ⟨a0, a1, t0, t1⟩ := hx i hi
      obtain ⟨q0, e0, _, _⟩ := DataW.trod_int i0 t0
      obtain ⟨q1, e1, _, hq⟩ := DataW.trod_string i1 t1
      simp at e0 e1
      exact ⟨(q0, q1), by rw [a0, e0], by rw [a1, e1], hq⟩
    obtain ⟨q, hq⟩ := choose_lt each
    refine ⟨s, (List.range len).map q, rfl, hs, ⟨some a, m, by simp, by simpa using hl, hm, ?_⟩, fun p hp => ?_⟩
    · by_cases hl0 : len = 0
      · exact .inl (by simp [hl0])
      · obtain ⟨b, off, spot⟩ := a
        have hc := (hq 0 (by omega)).1
        have hspot : spot = none := by simpa [Addr.add] using World.cell?_spot hc
        subst hspot
        refine .inr ⟨b, off, rfl, fun i p hp => ?_⟩
        have hi : i < len := by have := (List.getElem?_eq_some_iff.1 hp).1; simpa using this
        have hpe : p = q i := by
          rw [List.getElem?_map, List.getElem?_range hi] at hp
          exact (Option.some.inj hp).symm
        subst hpe
        obtain ⟨b0, b1, _⟩ := hq i (by omega)
        rw [Addr.add_lit] at b0 b1
        exact ⟨b0, by rw [Nat.add_assoc]; exact b1⟩
    · obtain ⟨i, hi, rfl⟩ := List.mem_map.1 hp
      exact (hq i (by have := List.mem_range.1 hi; omega)).2.2

theorem open_flowsC {n : Nat} {t e : TypeId} {f0 f1 f2 f3 x0 x1 y0 y1 z0 z1 : Field} {ep : TypeId} {v : Value} {Y : DataW H × List MemPlace}
    (ht : P.underlying t = some (.slice e)) (he : P.underlying e = some (.struct #[f0, f1, f2, f3])) (ce : P.cellsOf e = 8)
    (ho : (f0.offset, f1.offset, f2.offset, f3.offset) = (0, 2, 4, 6)) (hc : (P.cellsOf f0.type, P.cellsOf f1.type, P.cellsOf f2.type, P.cellsOf f3.type) = (2, 2, 2, 2)) (h01 : f1.type = f0.type) (h23 : f3.type = f2.type)
    (hE : P.underlying f0.type = some (.struct #[x0, x1])) (hg : (x0.offset, x1.offset, P.cellsOf x0.type, P.cellsOf x1.type) = (0, 1, 1, 1)) (j0 : P.underlying x0.type = some (.int .i64)) (j1 : P.underlying x1.type = some (.int .i64))
    (hS : P.underlying f2.type = some (.struct #[y0, y1])) (hf : (y0.offset, y1.offset, P.cellsOf y0.type, P.cellsOf y1.type) = (0, 1, 1, 1)) (h0 : P.underlying y0.type = some .string) (h1 : P.underlying y1.type = some (.slice ep))
    (hep : P.underlying ep = some (.struct #[z0, z1])) (hz : (P.cellsOf ep, z0.offset, z1.offset, P.cellsOf z0.type, P.cellsOf z1.type) = (2, 0, 1, 1, 1)) (i0 : P.underlying z0.type = some (.int .i64)) (i1 : P.underlying z1.type = some .string)
    (h : DataW.trod enc P w base (fun _ => true) true n t [v] = some Y) : ∃ rs, IsF w v rs ∧ ∀ r ∈ rs, Fits r := by
  simp only [Prod.mk.injEq] at ho hc
  obtain ⟨o0, o1, o2, o3⟩ := ho
  obtain ⟨c0, c1, c2, c3⟩ := hc
  rcases open_slice ht h with ⟨hcs, _⟩ | ⟨a, len, cap, m, n', D, Pl, hcs, hb, hl, hm, hmm, _, hx⟩
  · simp at hcs
    subst hcs
    exact ⟨[], ⟨⟨none, 0, rfl, Nat.le_refl _, Nat.zero_le _, .inl rfl⟩, fun r hr => by cases hr⟩, fun r hr => by cases hr⟩
  · simp at hcs
    subst hcs
    simp at hmm
    subst hmm
    have each : ∀ i, i < m → ∃ q : RF, (w.cell? (a.add (i * 8)) = some (.int .i64 q.a) ∧ w.cell? (a.add (i * 8 + 1)) = some (.int .i64 q.b) ∧ w.cell? (a.add (i * 8 + 2)) = some (.int .i64 q.c) ∧ w.cell? (a.add (i * 8 + 3)) = some (.int .i64 q.d) ∧
        w.cell? (a.add (i * 8 + 4)) = some (.string q.us) ∧ w.cell? (a.add (i * 8 + 5)) = some q.uv ∧ w.cell? (a.add (i * 8 + 6)) = some (.string q.ds) ∧ w.cell? (a.add (i * 8 + 7)) = some q.dv) ∧ ArgS w q.us q.uv q.up ∧ ArgS w q.ds q.dv q.dn := by
      intro i hi
      obtain ⟨cs', h1', h2'⟩ := hx i hi
      rw [ce] at h1'
      obtain ⟨_, hlen, hcell⟩ := World.cells?_some h1'
      obtain ⟨_, _, _, _, k, _, _, k0, k1, k2, k3⟩ := trod_struct4 he h2'
      match cs', hlen with
      | [v0, v1, v2, v3, v4, v5, v6, v7], _ =>
        simp [o0, c0] at k0
        simp [o1, c1] at k1
        simp [o2, c2] at k2
        simp [o3, c3] at k3
        rw [h01] at k1
        rw [h23] at k3
        obtain ⟨qa, qb, e0, e1⟩ := open_endC hE hg j0 j1 k0
        obtain ⟨qc, qd, e2, e3⟩ := open_endC hE hg j0 j1 k1
        obtain ⟨us, up, e4, hu⟩ := open_streamC hS hf h0 h1 hep hz i0 i1 k2
        obtain ⟨ds, dn, e6, hd⟩ := open_streamC hS hf h0 h1 hep hz i0 i1 k3
        subst e0 e1 e2 e3 e4 e6
        have a0 := hcell 0 (by omega)
        have a1 := hcell 1 (by omega)
        have a2 := hcell 2 (by omega)
        have a3 := hcell 3 (by omega)
        have a4 := hcell 4 (by omega)
        have a5 := hcell 5 (by omega)
        have a6 := hcell 6 (by omega)
        have a7 := hcell 7 (by omega)
        rw [add_add] at a0 a1 a2 a3 a4 a5 a6 a7
        exact ⟨⟨qa, qb, qc, qd, us, v5, up, ds, v7, dn⟩, ⟨by simpa using a0, by simpa using a1, by simpa using a2, by simpa using a3, by simpa using a4, by simpa using a5, by simpa using a6, by simpa using a7⟩, hu, hd⟩
    obtain ⟨q, hq⟩ := choose_lt each
    have hmem : ∀ r ∈ (List.range len).map q, ∃ i, i < m ∧ r = q i := fun r hr => by
      obtain ⟨i, hi, rfl⟩ := List.mem_map.1 hr
      exact ⟨i, by have := List.mem_range.1 hi; omega, rfl⟩
    refine ⟨(List.range len).map q, ⟨⟨some a, m, by simp, by simpa using hl, hm, ?_⟩, fun r hr => ?_⟩, fun r hr => ?_⟩
    · by_cases hl0 : len = 0
      · exact .inl (by simp [hl0])
      · obtain ⟨b, off, spot⟩ := a
        have hc := (hq 0 (by omega)).1.1
        have hspot : spot = none := by simpa [Addr.add] using World.cell?_spot hc
        subst hspot
        refine .inr ⟨b, off, rfl, fun i p hp => ?_⟩
        have hi : i < len := by have := (List.getElem?_eq_some_iff.1 hp).1; simpa using this
        have hpe : p = q i := by
          rw [List.getElem?_map, List.getElem?_range hi] at hp
          exact (Option.some.inj hp).symm
        subst hpe
        obtain ⟨⟨b0, b1, b2, b3, b4, b5, b6, b7⟩, _⟩ := hq i (by omega)
        rw [Addr.add_lit] at b0 b1 b2 b3 b4 b5 b6 b7
        exact ⟨b0, by rw [Nat.add_assoc]; exact b1, by rw [Nat.add_assoc]; exact b2, by rw [Nat.add_assoc]; exact b3, by rw [Nat.add_assoc]; exact b4, by rw [Nat.add_assoc]; exact b5, by rw [Nat.add_assoc]; exact b6, by rw [Nat.add_assoc]; exact b7⟩
    · obtain ⟨i, hi, rfl⟩ := hmem r hr
      exact ⟨(hq i hi).2.1.hT, (hq i hi).2.2.hT⟩
    · obtain ⟨i, hi, rfl⟩ := hmem r hr
      exact ⟨(hq i hi).2.1.hs, (hq i hi).2.1.hp, (hq i hi).2.2.hs, (hq i hi).2.2.hp⟩

theorem open_door {r : Reach} {b0 : Nat} {T tp pe t e : TypeId} {F0 F1 m0 m1 k0 k1 f0 f1 f2 f3 x0 x1 y0 y1 z0 z1 : Field} {ep : TypeId} {v : Value} {d : DataW H} {ps : List MemPlace}
    (hT : P.underlying T = some (.struct #[F0, F1])) (hone : oneCellFields P #[F0, F1] = true) (hC : P.cellsOf T = 2) (hF : (F0.type, F1.type) = (tp, t))
    (hpt : P.underlying tp = some (.slice pe)) (hpe : P.underlying pe = some (.struct #[m0, m1])) (hpc : (P.cellsOf pe, m0.offset, m1.offset, P.cellsOf m0.type, P.cellsOf m1.type) = (3, 0, 1, 1, 2))
    (hp0 : P.underlying m0.type = some (.int .i64)) (hp1 : P.underlying m1.type = some (.struct #[k0, k1])) (hpk : (k0.offset, k1.offset, P.cellsOf k0.type, P.cellsOf k1.type) = (0, 1, 1, 1)) (hk0 : P.underlying k0.type = some (.int .i64)) (hk1 : P.underlying k1.type = some (.int .i64))
    (ht : P.underlying t = some (.slice e)) (he : P.underlying e = some (.struct #[f0, f1, f2, f3])) (ce : P.cellsOf e = 8)
    (ho : (f0.offset, f1.offset, f2.offset, f3.offset) = (0, 2, 4, 6)) (hc : (P.cellsOf f0.type, P.cellsOf f1.type, P.cellsOf f2.type, P.cellsOf f3.type) = (2, 2, 2, 2)) (h01 : f1.type = f0.type) (h23 : f3.type = f2.type)
    (hE : P.underlying f0.type = some (.struct #[x0, x1])) (hg : (x0.offset, x1.offset, P.cellsOf x0.type, P.cellsOf x1.type) = (0, 1, 1, 1)) (j0 : P.underlying x0.type = some (.int .i64)) (j1 : P.underlying x1.type = some (.int .i64))
    (hS : P.underlying f2.type = some (.struct #[y0, y1])) (hf : (y0.offset, y1.offset, P.cellsOf y0.type, P.cellsOf y1.type) = (0, 1, 1, 1)) (h0 : P.underlying y0.type = some .string) (h1 : P.underlying y1.type = some (.slice ep))
    (hep : P.underlying ep = some (.struct #[z0, z1])) (hz : (P.cellsOf ep, z0.offset, z1.offset, P.cellsOf z0.type, P.cellsOf z1.type) = (2, 0, 1, 1, 1)) (i0 : P.underlying z0.type = some (.int .i64)) (i1 : P.underlying z1.type = some .string)
    (hv : Value.okWide P w r b0 T v) (h : DataW.Trod enc P w base (fun _ => true) true T v d ps) : ∃ ma ml mc m fv rs, v = .agg #[.slice ma ml mc, fv] ∧ ArgD w ma ml mc m fv rs := by
  simp only [Prod.mk.injEq] at hF hpc hpk
  obtain ⟨hF0, hF1⟩ := hF
  obtain ⟨pce, po0, po1, pc0, pc1⟩ := hpc
  obtain ⟨ko0, ko1, kc0, kc1⟩ := hpk
  obtain ⟨v0, v1, Y0, Y1, n, rfl, _, _, l0, l1⟩ := open_agg2 hT hone hC hv h
  rw [hF0] at l0
  rw [hF1] at l1
  obtain ⟨rs, hIF, hfit⟩ := open_flowsC ht he ce ho hc h01 h23 hE hg j0 j1 hS hf h0 h1 hep hz i0 i1 l1
  have hs0 : ∃ a l c, v0 = .slice a l c := by
    rcases open_slice hpt l0 with ⟨hcs, _⟩ | ⟨a, len, cap, m, n', D, Pl, hcs, _⟩
    · simp at hcs; exact ⟨none, 0, 0, hcs⟩
    · simp at hcs; exact ⟨_, _, _, hcs⟩
  obtain ⟨a, l, c, rfl⟩ := hs0
  obtain ⟨m, hm⟩ := open_pairs hpt hpe pce po0 po1 pc0 pc1 hp0 hp1 ko0 ko1 kc0 kc1 hk0 hk1 (show DataW.Trod enc P w base (fun _ => true) true tp (.slice a l c) Y0.1 Y0.2 from ⟨n, by simpa [Value.cells] using l0⟩)
  exact ⟨a, l, c, m, v1, rs, rfl, hm, hIF, hfit⟩
end

section
open Go.Proofs.YtfmjhbdbgcgoiaaGreatDoor.DrP Go.Proofs.YtfmjhbdbgcgoiaaGreatDoor.EndW
theorem fI_mean {rs qs : List RF} (h : rs.map RF.mean = qs.map RF.mean) (a b c d : Int) : fI rs a b c d = fI qs a b c d := by
  have key : ∀ l : List RF, fI l a b c d = (l.map RF.mean).findIdx (fun x => decide (x.1.1 = a ∧ x.1.2 = b) && decide (x.2.1.1 = c ∧ x.2.1.2 = d)) := fun l => by rw [List.findIdx_map]; rfl
  rw [key, key, h]
theorem flB_mean {m : List (Int × Int × Int)} {rs qs : List RF} (h : rs.map RF.mean = qs.map RF.mean) {r q : RF} (e : q.mean = r.mean) (i : Nat) : flB m qs i q = flB m rs i r := by
  simp only [RF.mean, Prod.mk.injEq] at e
  obtain ⟨⟨e1, e2⟩, ⟨e3, e4⟩, ⟨e5, e6⟩, e7, e8⟩ := e
  unfold flB
  rw [e1, e2, e3, e4, e5, e6, e7, e8, fI_mean h]
theorem doorB_up {m : List (Int × Int × Int)} {rs qs : List RF} (h : rs.map RF.mean = qs.map RF.mean) (hd : doorB m rs = true) : doorB m qs = true := by
  have hl : rs.length = qs.length := by have := congrArg List.length h; simpa using this
  obtain ⟨h1, h2⟩ := doorB_ok hd
  refine doorB_good h1 (by omega) fun i q hq => ?_
  obtain ⟨r, hr, e⟩ := mean_at h.symm hq
  rw [flB_mean h e.symm]
  exact doorB_flow hd hr
theorem doorB_mean (m : List (Int × Int × Int)) {rs qs : List RF} (h : rs.map RF.mean = qs.map RF.mean) : doorB m rs = doorB m qs := by
  cases h1 : doorB m rs with
  | true => exact (doorB_up h h1).symm
  | false =>
    cases h2 : doorB m qs with
    | false => rfl
    | true => rw [doorB_up h.symm h2] at h1; cases h1
theorem sm_of {rs qs : List RF} {n : Nat} (hsm : ∀ r ∈ rs, r.up.length ≤ n ∧ r.dn.length ≤ n) (h : qs.map RF.mean = rs.map RF.mean) : ∀ r ∈ qs, r.up.length ≤ n ∧ r.dn.length ≤ n := fun r hr => by
  obtain ⟨i, hi⟩ := List.mem_iff_getElem?.1 hr
  obtain ⟨q, hq, e⟩ := mean_at h hi
  have hb := hsm q (List.mem_of_getElem? hq)
  simp only [RF.mean, Prod.mk.injEq] at e
  obtain ⟨_, _, ⟨_, e2⟩, _, e4⟩ := e
  rw [e2, e4] at hb
  exact hb
end
end Go.Proofs.YtfmjhbdbgcgoiaaGreatDoor.ExD

/- Walks: the exact laws' own copies and comparison of whole doors. -/
import Derived.Test.YtfmjhbdbgcgoiaaGreatDoorExF
import Derived.Test.YtfmjhbdbgcgoiaaGreatDoorExG
namespace Go.Proofs.YtfmjhbdbgcgoiaaGreatDoor.ExD
open Go.RowKit Go.Proofs.YtfmjhbdbgcgoiaaGreatDoor.Kit Go.Proofs.YtfmjhbdbgcgoiaaGreatDoor.St Go.Proofs.YtfmjhbdbgcgoiaaGreatDoor.App Go.Proofs.YtfmjhbdbgcgoiaaGreatDoor.Mm Go.Proofs.YtfmjhbdbgcgoiaaGreatDoor.ExM Go.Proofs.YtfmjhbdbgcgoiaaGreatDoor.ExT Go.Proofs.YtfmjhbdbgcgoiaaGreatDoor.Dr
set_option linter.unusedSimpArgs false
set_option linter.unusedVariables false

/-- a door of the call's own -/
structure OwnD (W : World) (lo : Nat) (mv : Value) (m : List (Int × Int × Int)) (fv : Value) (qs : List RF) : Prop where
  hm : W.ownsRow lo 58 3 mv m.length (cellsM m)
  hf : W.ownsRow lo 56 8 fv qs.length (cellsF qs)
  hq : OwnQ W lo qs
  ap1 : mv.ownBlock = none ∨ mv.ownBlock ≠ fv.ownBlock
  ap2 : ∀ k, mv.ownBlock = some k ∨ fv.ownBlock = some k → k ∉ blks qs
theorem OwnD.below {W W' : World} {lo : Nat} {mv : Value} {m : List (Int × Int × Int)} {fv : Value} {qs : List RF} (h : OwnD W lo mv m fv qs) (k : Below W.heap.size W W') : OwnD W' lo mv m fv qs :=
  ⟨row_below h.hm k, row_below h.hf k, h.hq.below k, h.ap1, h.ap2⟩
theorem OwnD.isM {W : World} {lo : Nat} {mv : Value} {m : List (Int × Int × Int)} {fv : Value} {qs : List RF} (h : OwnD W lo mv m fv qs) : IsM W mv m := isM_of_row h.hm
theorem OwnD.isF {W : World} {lo : Nat} {mv : Value} {m : List (Int × Int × Int)} {fv : Value} {qs : List RF} (h : OwnD W lo mv m fv qs) : IsF W fv qs := isF_of_row h.hf h.hq.good

theorem OwnQ.base {W : World} {lo lo' : Nat} {qs : List RF} (h : OwnQ W lo qs) (hl : lo' ≤ lo) : OwnQ W lo' qs := ⟨fun q hq => ⟨ownsRow_base (h.rows q hq).1 hl, ownsRow_base (h.rows q hq).2 hl⟩, h.apart⟩
theorem OwnD.set {W : World} {lo : Nat} {mv : Value} {m : List (Int × Int × Int)} {fv : Value} {qs : List RF} (h : OwnD W lo mv m fv qs) {p : Addr} (hp : p.block < lo) (v : Value) : OwnD (W.setCell p v) lo mv m fv qs :=
  ⟨ownsRow_setCell_below h.hm hp v, ownsRow_setCell_below h.hf hp v, h.hq.set hp v, h.ap1, h.ap2⟩
theorem OwnD.base {W : World} {lo lo' : Nat} {mv : Value} {m : List (Int × Int × Int)} {fv : Value} {qs : List RF} (h : OwnD W lo mv m fv qs) (hl : lo' ≤ lo) : OwnD W lo' mv m fv qs :=
  ⟨ownsRow_base h.hm hl, ownsRow_base h.hf hl, h.hq.base hl, h.ap1, h.ap2⟩

set_option maxRecDepth 8000 in
set_option maxHeartbeats 8000000 in
theorem toDoor_any (ma : Option Addr) (ml mc : Nat) (m : List (Int × Int × Int)) (fv : Value) (rs : List RF) (W : World) (hA : ArgD W ma ml mc m fv rs) (hml : m.length ≤ 1048576) (hl : rs.length ≤ 1048576) (hsm : ∀ r ∈ rs, r.up.length ≤ 1048576 ∧ r.dn.length ≤ 1048576) :
    Calls Tryz.prog 9 #[.agg #[.slice ma ml mc, fv]] W fun r W' => ∃ mv fv2, r = .returned (.agg #[mv, fv2]) ∧ (∃ qs, OwnD W' W.heap.size mv m fv2 qs ∧ qs.map RF.mean = rs.map RF.mean ∧ qs.length = rs.length) ∧ Below W.heap.size W W' := by
  obtain ⟨hm, hf, -⟩ := hA
  have e0 := hm.hl
  subst e0
  obtain ⟨fa, fc, rfl, -⟩ := id hf.at_
  have bA : Below W.heap.size W (((W.alloc (.cells #[.slice ma m.length mc, .slice fa rs.length fc] 25)).alloc (.cells #[.slice none 0 0, .slice none 0 0] 31)).alloc (.cells #[.slice none 0 0, .slice none 0 0] 31)) := (((Below.refl _ _).alloc (Nat.le_refl _) _).alloc (by simp) _).alloc (by simp; omega) _
  go_enter Tryz.func9, Tryz.ntmps9
  go_wp2_with fail
  refine (toS_any _ ma m.length mc m (hm.below bA) hml).mono ?_
  rintro e w1 ⟨mv, rfl, hrm, k1⟩
  obtain ⟨va, vc, rfl⟩ := isM_slice (isM_of_row hrm)
  have z1 := k1.size
  simp at z1
  have c0 := keepc k1 W.heap.size (by simp; omega)
  have c1 := keepc k1 (W.heap.size + 1) (by simp)
  have f1 := keepf k1 (W.heap.size + 1) (by simp)
  have c2 := keepc k1 (W.heap.size + 1 + 1) (by simp)
  have f2 := keepf k1 (W.heap.size + 1 + 1) (by simp)
  have p1 : w1.cell? ⟨W.heap.size, 1, none⟩ = some (.slice fa rs.length fc) := by rw [c0 1]; simp [go_sem]
  have r0 : w1.cell? ⟨W.heap.size + 1, 0, none⟩ = some (.slice none 0 0) := by rw [c1 0]; simp [go_sem]
  have r1 : w1.cell? ⟨W.heap.size + 1, 1, none⟩ = some (.slice none 0 0) := by rw [c1 1]; simp [go_sem]
  have d0 : w1.cell? ⟨W.heap.size + 1 + 1, 0, none⟩ = some (.slice none 0 0) := by rw [c2 0]; simp [go_sem]
  have d1 : w1.cell? ⟨W.heap.size + 1 + 1, 1, none⟩ = some (.slice none 0 0) := by rw [c2 1]; simp [go_sem]
  have g1 : ∀ j, w1.frozen? ⟨W.heap.size + 1, j, none⟩ = false := fun j => by rw [f1 j]; simp [go_sem]
  have g2 : ∀ j, w1.frozen? ⟨W.heap.size + 1 + 1, j, none⟩ = false := fun j => by rw [f2 j]; simp [go_sem]
  have b1 : Below W.heap.size W w1 := bA.trans (k1.mono (by simp; omega))
  have hF1 := hf.below b1
  have l1 : W.heap.size + 1 + 1 < w1.heap.size := by omega
  have hmlt : ∀ k, (Value.slice va m.length vc).ownBlock = some k → k < w1.heap.size := fun k hk => (hrm.lt k hk).2
  simp only [World.size_alloc] at hrm
  have HRM := (show Hid (w1.ownsRow (W.heap.size + 1 + 1 + 1) 58 3 (.slice va m.length vc) m.length (cellsM m)) from hrm)
  have bS : Below W.heap.size W (w1.setCell ⟨W.heap.size + 1 + 1, 0, none⟩ (.slice va m.length vc)) := b1.setCell (by show W.heap.size ≤ W.heap.size + 1 + 1; omega) _
  have u0 : (w1.setCell ⟨W.heap.size + 1 + 1, 0, none⟩ (.slice va m.length vc)).cell? ⟨W.heap.size + 1 + 1, 0, none⟩ = some (.slice va m.length vc) := by simp [go_sem, d0]
  have u1 : (w1.setCell ⟨W.heap.size + 1 + 1, 0, none⟩ (.slice va m.length vc)).cell? ⟨W.heap.size + 1 + 1, 1, none⟩ = some (.slice none 0 0) := by simp [go_sem, d1]
  have s0 : (w1.setCell ⟨W.heap.size + 1 + 1, 0, none⟩ (.slice va m.length vc)).cell? ⟨W.heap.size + 1, 0, none⟩ = some (.slice none 0 0) := by simp [go_sem, r0]
  have s1 : (w1.setCell ⟨W.heap.size + 1 + 1, 0, none⟩ (.slice va m.length vc)).cell? ⟨W.heap.size + 1, 1, none⟩ = some (.slice none 0 0) := by simp [go_sem, r1]
  have sz : (w1.setCell ⟨W.heap.size + 1 + 1, 0, none⟩ (.slice va m.length vc)).heap.size = w1.heap.size := by simp [World.setCell]
  clear c0 c1 c2 f1 f2 k1 hrm r0 r1
  go_wp2_with fail
  clear p1 d0 d1
  refine (toQ_any _ _ rs (hf.below bS) hl hsm).mono ?_
  rintro e w2 ⟨fv2, rfl, qs, hql, hrf, hqm, hqo, hqb, k2⟩
  obtain ⟨xa, xc, hxe⟩ : ∃ a c, fv2 = .slice a qs.length c := by
    rcases hrf.2 with ⟨rfl, h0⟩ | ⟨g, cap, cur, rfl, _⟩
    · exact ⟨none, 0, by rw [h0]⟩
    · exact ⟨_, _, rfl⟩
  subst hxe
  rw [sz] at hrf hqo hqb
  have z2 := k2.size
  rw [sz] at z2
  have e0 := (k2.cell (p := ⟨W.heap.size + 1 + 1, 0, none⟩) (by rw [sz]; exact l1)).trans u0
  have e1 := (k2.cell (p := ⟨W.heap.size + 1 + 1, 1, none⟩) (by rw [sz]; exact l1)).trans u1
  have e2 := (k2.cell (p := ⟨W.heap.size + 1, 0, none⟩) (by rw [sz]; show W.heap.size + 1 < _; omega)).trans s0
  have e3 := (k2.cell (p := ⟨W.heap.size + 1, 1, none⟩) (by rw [sz]; show W.heap.size + 1 < _; omega)).trans s1
  have e4 : ∀ j, w2.frozen? ⟨W.heap.size + 1, j, none⟩ = false := fun j => (k2.frozen (p := ⟨W.heap.size + 1, j, none⟩) (by rw [sz]; show W.heap.size + 1 < _; omega)).trans (by rw [World.frozen?_setCell]; exact g1 j)
  have e5 : ∀ j, w2.frozen? ⟨W.heap.size + 1 + 1, j, none⟩ = false := fun j => (k2.frozen (p := ⟨W.heap.size + 1 + 1, j, none⟩) (by rw [sz]; exact l1)).trans (by rw [World.frozen?_setCell]; exact g2 j)
  have b2 := bS.trans (k2.mono bS.size)
  have hrm2 := row_below (ownsRow_setCell_below HRM.out (a := ⟨W.heap.size + 1 + 1, 0, none⟩) (by show W.heap.size + 1 + 1 < _; omega) (.slice va m.length vc)) k2
  have HO := (show Hid (OwnD w2 (W.heap.size + 1 + 1 + 1) (.slice va m.length vc) m (.slice xa qs.length xc) qs) from
    ⟨hrm2, ownsRow_base hrf (by omega), hqo.base (by omega), by
      cases q : (Value.slice va m.length vc).ownBlock with
      | none => exact .inl rfl
      | some k =>
        refine .inr fun h => ?_
        have := hmlt k q
        have := (hrf.lt k h.symm).1
        omega, fun k hk hb => by
      have h1 := (hqo.lt hb).1
      rcases hk with hk | hk
      · have := hmlt k hk; omega
      · rcases hqb with h | h
        · rw [h] at hk; cases hk
        · rw [h] at hk; cases hk; omega⟩)
  have HQM := (show Hid (qs.map RF.mean = rs.map RF.mean) from hqm)
  have HQL := (show Hid (qs.length = rs.length) from hql)
  have l2 : W.heap.size + 1 + 1 < w2.heap.size := by omega
  clear hrf hqm hqo hqb k2 hrm2 u0 u1 s0 s1 g1 g2 hql hmlt
  go_wp2
  refine bodyPost_ret (v := .agg #[.slice va m.length vc, .slice xa qs.length xc]) ?_ rfl ?_
  · simp [results, Tryz.results9, go_sem, e0, e1, e2, e3]
  · refine ⟨_, _, rfl, ⟨qs, ?_, HQM.out, HQL.out⟩, ?_⟩
    · have hD : W.heap.size + 1 + 1 < W.heap.size + 1 + 1 + 1 := by omega
      have hR : W.heap.size + 1 < W.heap.size + 1 + 1 + 1 := by omega
      exact (((HO.out.set hD _).set hR _).set hR _).base (by omega)
    · have hD : W.heap.size ≤ W.heap.size + 1 + 1 := by omega
      have hR : W.heap.size ≤ W.heap.size + 1 := by omega
      exact Below.setCell (Below.setCell (Below.setCell b2 hD _) hR _) hR _

set_option maxRecDepth 8000 in
set_option maxHeartbeats 4000000 in
theorem eqDoor_true (m : List (Int × Int × Int)) (mv mv2 fv fv2 : Value) (rs qs : List RF) (W : World) (hml : m.length ≤ 1048576) (hm : rs.length ≤ 1048576) (hsm : ∀ r ∈ rs, r.up.length ≤ 1048576 ∧ r.dn.length ≤ 1048576) (hmean : rs.map RF.mean = qs.map RF.mean)
    (h0 : IsM W mv m) (h1 : IsM W mv2 m) (h2 : IsF W fv rs) (h3 : IsF W fv2 qs) :
    Calls Tryz.prog 11 #[.agg #[mv, fv], .agg #[mv2, fv2]] W fun e W' => e = .returned (.bool true) ∧ Below W.heap.size W W' := by
  have bA : Below W.heap.size W ((W.alloc (.cells #[mv, fv] 31)).alloc (.cells #[mv2, fv2] 31)) := ((Below.refl _ _).alloc (Nat.le_refl _) _).alloc (by simp) _
  obtain ⟨a0, c0, rfl⟩ := isM_slice h0
  obtain ⟨a1, c1, rfl⟩ := isM_slice h1
  obtain ⟨x0, y0, rfl, -⟩ := id h2.at_
  obtain ⟨x1, y1, rfl, -⟩ := id h3.at_
  go_enter Tryz.func11, Tryz.ntmps11
  go_wp2_with fail
  refine (eqM_true _ m hml _ _ (h0.below bA) (h1.below bA)).mono ?_
  rintro e w1 ⟨rfl, k1⟩
  have b1 := bA.trans (k1.mono (by simp; omega))
  have p0 := keepc k1 W.heap.size (by simp; omega)
  have p1 := keepc k1 (W.heap.size + 1) (by simp)
  have e0 : w1.cell? ⟨W.heap.size, 1, none⟩ = some (.slice x0 rs.length y0) := by rw [p0 1]; simp [go_sem]
  have e1 : w1.cell? ⟨W.heap.size + 1, 1, none⟩ = some (.slice x1 qs.length y1) := by rw [p1 1]; simp [go_sem]
  clear p0 p1 k1
  go_wp2_with fail
  refine (eqQ_true _ rs qs hm hsm hmean _ _ (h2.below b1) (h3.below b1)).mono ?_
  rintro e w2 ⟨rfl, k2⟩
  go_wp2
  go_ret
  exact ⟨rfl, b1.trans (k2.mono b1.size)⟩
end Go.Proofs.YtfmjhbdbgcgoiaaGreatDoor.ExD

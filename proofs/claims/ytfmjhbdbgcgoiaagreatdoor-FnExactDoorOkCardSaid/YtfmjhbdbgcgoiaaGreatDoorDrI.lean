/- Walks: DoorOk of the program: an end that has a port; the first flow of two ends; the streams of a flow. -/
import Derived.Test.YtfmjhbdbgcgoiaaGreatDoorDrP
import Derived.Test.YtfmjhbdbgcgoiaaGreatDoorMmOp
import Derived.Deep.RegionWith
namespace Go.Proofs.YtfmjhbdbgcgoiaaGreatDoor.DrI
open Go.RowKit Go.Proofs.YtfmjhbdbgcgoiaaGreatDoor.Kit Go.Proofs.YtfmjhbdbgcgoiaaGreatDoor.St Go.Proofs.YtfmjhbdbgcgoiaaGreatDoor.App Go.Proofs.YtfmjhbdbgcgoiaaGreatDoor.Mp Go.Proofs.YtfmjhbdbgcgoiaaGreatDoor.Mm Go.Proofs.YtfmjhbdbgcgoiaaGreatDoor.Ms Go.Proofs.YtfmjhbdbgcgoiaaGreatDoor.Dr Go.Proofs.YtfmjhbdbgcgoiaaGreatDoor.DrP Go.Proofs.YtfmjhbdbgcgoiaaGreatDoor.EndW
open Go.Proofs.YtfmjhbdbgcgoiaaGreatDoor.EndW (endV)
set_option linter.unusedSimpArgs false
set_option linter.unusedVariables false

theorem lt_ob {W : World} {D : Nat} {ob : Obj} (h : W.heap[D]? = some ob) : D < W.heap.size := (Array.getElem?_eq_some_iff.1 h).1
/-- a doorway -/
structure Dw (W : World) (D : Nat) (mv fv : Value) (m : List (Int × Int × Int)) (rs : List RF) : Prop where
  ob : W.heap[D]? = some (.cells #[mv, fv] 97 (0, 0))
  hm : IsM W mv m
  hf : IsF W fv rs
theorem Dw.below {W W' : World} {D : Nat} {mv fv : Value} {m : List (Int × Int × Int)} {rs : List RF} (h : Dw W D mv fv m rs) (k : Below W.heap.size W W') : Dw W' D mv fv m rs :=
  ⟨(k.block D (lt_ob h.ob)).trans h.ob, h.hm.below k, h.hf.below k⟩
theorem Dw.c0 {W : World} {D : Nat} {mv fv : Value} {m : List (Int × Int × Int)} {rs : List RF} (h : Dw W D mv fv m rs) : W.cell? ⟨D, 0, none⟩ = some mv := by simp [World.cell?, h.ob]
theorem Dw.c1 {W : World} {D : Nat} {mv fv : Value} {m : List (Int × Int × Int)} {rs : List RF} (h : Dw W D mv fv m rs) : W.cell? ⟨D, 1, none⟩ = some fv := by simp [World.cell?, h.ob]

set_option maxHeartbeats 2000000 in
theorem isPort_any (po a b x y : Int) (B : Nat) (w : World) (h0 : w.cell? ⟨B, 0, none⟩ = some (.int .i64 x)) (h1 : w.cell? ⟨B, 1, none⟩ = some (.int .i64 y)) :
    Calls Tryz.prog 120 #[.agg #[.int .i64 po, .int .i64 a, .int .i64 b], .pointer (some ⟨B, 0, none⟩)] w fun e w' => e = .returned (.bool (decide ((a, b) = (x, y)))) ∧ Below w.heap.size w w' := by
  have hB := blk h0
  simp only at hB
  have bA : Below w.heap.size w (w.alloc (.cells #[.int .i64 po, .int .i64 a, .int .i64 b] 58)) := (Below.refl _ _).alloc (Nat.le_refl _) _
  go_enter Tryz.func120, Tryz.ntmps120
  by_cases e1 : a = x
  · subst e1
    by_cases e2 : b = y
    · subst e2
      go_wp2
      go_ret
      exact ⟨by simp, bA⟩
    · have h2 : (b == y) = false := by simpa using e2
      have h3 : decide ((a, b) = (a, y)) = false := by simpa using e2
      rw [h3]
      go_wp2
      go_ret
      exact ⟨rfl, bA⟩
  · have h2 : (a == x) = false := by simpa using e1
    have h3 : decide ((a, b) = (x, y)) = false := by simp [e1]
    rw [h3]
    go_wp2
    go_ret
    exact ⟨rfl, bA⟩

set_option maxRecDepth 8000 in
set_option maxHeartbeats 4000000 in
theorem index_any (m : List (Int × Int × Int)) (v : Value) (B : Nat) (x y : Int) (W : World) (hM : IsM W v m) (hmm : m.length ≤ 1073741824) (h0 : W.cell? ⟨B, 0, none⟩ = some (.int .i64 x)) (h1 : W.cell? ⟨B, 1, none⟩ = some (.int .i64 y)) :
    Calls Tryz.prog 135 #[v, .func (.func 120) #[] #[.pointer (some ⟨B, 0, none⟩)]] W fun e w' => (∃ z : Int, e = .returned (.int .i64 z) ∧ hasB m x y = decide (0 ≤ z)) ∧ Below W.heap.size W w' := by
  obtain ⟨a, c, rfl⟩ := isM_slice hM
  have hB := blk h0
  simp only at hB
  go_enter Tryz.func135, Tryz.ntmps135
  go_wp2
  go_loopw [8] (fun i wr => ∃ k : Nat, k ≤ m.length ∧ i = .int .i64 k ∧ hasB (m.take k) x y = false ∧ Below W.heap.size W wr) (fun i wr => m.length - (intOf i).toNat)
  case atStart => exact ⟨0, Nat.zero_le _, rfl, by simp [hasB], Below.refl _ _⟩
  case round =>
    obtain ⟨k, hk, rfl, hno, hb⟩ := hrel
    by_cases hlt : k < m.length
    · have hlt' : (k : Int) < (m.length : Int) := by omega
      have hp : m[k]? = some m[k] := List.getElem?_eq_getElem hlt
      have hst := hasB_step hp x y
      rw [hno, Bool.false_or] at hst
      obtain ⟨g, o, rfl, _, _, _, q0, q1, q2⟩ := isM_at (hM.below hb) k _ hp
      generalize m[k] = p at hp q0 q1 q2 hst
      obtain ⟨po, ea, ep⟩ := p
      simp only at q0 q1 q2 hst
      have y0 := (hb.cell (p := ⟨B, 0, none⟩) hB).trans h0
      have y1 := (hb.cell (p := ⟨B, 1, none⟩) hB).trans h1
      have hpm : hasB (m.take (k + 1)) x y = true → hasB m x y = true := fun h => by
        unfold hasB at h ⊢
        obtain ⟨q, hq, hq2⟩ := List.any_eq_true.1 h
        exact List.any_eq_true.2 ⟨q, List.mem_of_mem_take hq, hq2⟩
      have HH := (show Hid (hasB (m.take (k + 1)) x y = true → hasB m x y = true) from hpm)
      have HS := (show Hid (hasB (m.take (k + 1)) x y = decide ((ea, ep) = (x, y))) from hst)
      clear hno hst hpm hp h0 h1
      go_wp2_with fail
      refine (isPort_any po ea ep x y B _ y0 y1).mono ?_
      rintro e w2 ⟨rfl, k2⟩
      have b2 := hb.trans (k2.mono hb.size)
      by_cases hd : (ea, ep) = (x, y)
      · have h2 := HS.out
        rw [decide_eq_true hd] at h2
        have h3 := HH.out h2
        rw [decide_eq_true hd]
        clear hd h2
        go_wp2
        go_ret
        exact ⟨⟨_, rfl, by rw [h3]; simp⟩, b2⟩
      · have h2 := HS.out
        rw [decide_eq_false hd] at h2
        rw [decide_eq_false hd]
        clear hd
        go_wp2
        go_roundw
        case rel => exact ⟨k + 1, by omega, by go_num, h2, b2⟩
        case measure => simp [intOf]; omega
    · have hge : (m.length : Int) ≤ (k : Int) := by omega
      have htk : m.take k = m := List.take_of_length_le (by omega)
      rw [htk] at hno
      go_wp2
      go_ret
      exact ⟨⟨_, rfl, by rw [hno]; simp⟩, hb⟩

set_option maxRecDepth 8000 in
set_option maxHeartbeats 4000000 in
theorem contains_any (m : List (Int × Int × Int)) (v : Value) (B : Nat) (x y : Int) (W : World) (hM : IsM W v m) (hmm : m.length ≤ 1073741824) (h0 : W.cell? ⟨B, 0, none⟩ = some (.int .i64 x)) (h1 : W.cell? ⟨B, 1, none⟩ = some (.int .i64 y)) :
    Calls Tryz.prog 119 #[v, .func (.func 120) #[] #[.pointer (some ⟨B, 0, none⟩)]] W fun e w' => e = .returned (.bool (hasB m x y)) ∧ Below W.heap.size W w' := by
  obtain ⟨a, c, rfl⟩ := isM_slice hM
  go_enter Tryz.func119, Tryz.ntmps119
  go_wp2_with fail
  refine (index_any m _ B x y _ hM hmm h0 h1).mono ?_
  rintro e w1 ⟨⟨z, rfl, hz⟩, k1⟩
  have HZ := (show Hid (hasB m x y = decide (0 ≤ z)) from hz)
  clear hz
  by_cases h : 0 ≤ z
  · go_wp2
    go_ret
    exact ⟨by rw [HZ.out]; simp [h], k1⟩
  · go_wp2
    go_ret
    exact ⟨by rw [HZ.out]; simp [h], k1⟩

set_option maxRecDepth 8000 in
set_option maxHeartbeats 4000000 in
theorem hasPort_any (m : List (Int × Int × Int)) (mv fv : Value) (rs : List RF) (D : Nat) (x y : Int) (W : World) (h : Dw W D mv fv m rs) (hmm : m.length ≤ 1073741824) :
    Calls Tryz.prog 97 #[.pointer (some ⟨D, 0, none⟩), endV x y] W fun e w' => e = .returned (.bool (hasB m x y)) ∧ Below W.heap.size W w' := by
  have hD := lt_ob h.ob
  have bA : Below W.heap.size W (W.alloc (.cells #[.int .i64 x, .int .i64 y] 40)) := (Below.refl _ _).alloc (Nat.le_refl _) _
  have h2 := h.below bA
  have q0 := h2.c0
  have a0 : (W.alloc (.cells #[.int .i64 x, .int .i64 y] 40)).cell? ⟨W.heap.size, 0, none⟩ = some (.int .i64 x) := by simp [go_sem]
  have a1 : (W.alloc (.cells #[.int .i64 x, .int .i64 y] 40)).cell? ⟨W.heap.size, 1, none⟩ = some (.int .i64 y) := by simp [go_sem]
  have hmf : ∀ (fn : Fn) (first cap : Array Value) (w : World), (Instr.makeFunc fn first cap).run Tryz.prog w = .ok (.func fn first cap) w := fun _ _ _ _ => rfl
  have hM := h2.hm
  obtain ⟨ma, mc, rfl⟩ := isM_slice hM
  have y0 := h.c0
  go_enter Tryz.func97, Tryz.ntmps97
  go_wp2_with fail
  refine (contains_any m _ W.heap.size x y _ hM hmm a0 a1).mono ?_
  rintro e w1 ⟨rfl, k1⟩
  go_wp2
  go_ret
  exact ⟨rfl, bA.trans (k1.mono (by simp))⟩

/-- where a flow of a list lies -/
def fAt (a : Option Addr) (k n : Nat) : Option Addr := if k < n then a.map (fun p => (⟨p.block, p.off + k * 8, p.spot⟩ : Addr)) else none

set_option maxRecDepth 8000 in
set_option maxHeartbeats 8000000 in
theorem find_any (m : List (Int × Int × Int)) (mv : Value) (a : Option Addr) (fc : Nat) (rs : List RF) (D : Nat) (x0 x1 y0 y1 : Int) (W : World) (h : Dw W D mv (.slice a rs.length fc) m rs) (hn : rs.length ≤ 1073741824) :
    Calls Tryz.prog 78 #[.pointer (some ⟨D, 0, none⟩), endV x0 x1, endV y0 y1] W fun r W' => r = .returned (.pointer (fAt a (fI rs x0 x1 y0 y1) rs.length)) ∧ Below W.heap.size W W' := by
  have hD := lt_ob h.ob
  have bA : Below W.heap.size W ((W.alloc (.cells #[.int .i64 x0, .int .i64 x1] 40)).alloc (.cells #[.int .i64 y0, .int .i64 y1] 40)) := ((Below.refl _ _).alloc (Nat.le_refl _) _).alloc (by simp) _
  have hX : ((W.alloc (.cells #[.int .i64 x0, .int .i64 x1] 40)).alloc (.cells #[.int .i64 y0, .int .i64 y1] 40)).heap.size = W.heap.size + 2 := by simp
  have c0 : ((W.alloc (.cells #[.int .i64 x0, .int .i64 x1] 40)).alloc (.cells #[.int .i64 y0, .int .i64 y1] 40)).cell? ⟨W.heap.size, 0, none⟩ = some (.int .i64 x0) := by simp [go_sem]
  have c1 : ((W.alloc (.cells #[.int .i64 x0, .int .i64 x1] 40)).alloc (.cells #[.int .i64 y0, .int .i64 y1] 40)).cell? ⟨W.heap.size, 1, none⟩ = some (.int .i64 x1) := by simp [go_sem]
  have d0 : ((W.alloc (.cells #[.int .i64 x0, .int .i64 x1] 40)).alloc (.cells #[.int .i64 y0, .int .i64 y1] 40)).cell? ⟨W.heap.size + 1, 0, none⟩ = some (.int .i64 y0) := by simp [go_sem]
  have d1 : ((W.alloc (.cells #[.int .i64 x0, .int .i64 x1] 40)).alloc (.cells #[.int .i64 y0, .int .i64 y1] 40)).cell? ⟨W.heap.size + 1, 1, none⟩ = some (.int .i64 y1) := by simp [go_sem]
  have hw1 := (h.below bA).c1
  have hc1 := h.c1
  obtain ⟨a', cap, ha, hc, hcm, hr⟩ := h.hf.at_
  simp at ha
  obtain ⟨rfl, rfl⟩ := ha
  go_enter Tryz.func78, Tryz.ntmps78
  go_wp2
  go_loopw [14] (fun i wr => ∃ k : Nat, k ≤ rs.length ∧ i = .int .i64 k ∧ (∀ (j : Nat) (r : RF), j < k → rs[j]? = some r → sameB x0 x1 y0 y1 r = false) ∧ Below ((W.alloc (.cells #[.int .i64 x0, .int .i64 x1] 40)).alloc (.cells #[.int .i64 y0, .int .i64 y1] 40)).heap.size ((W.alloc (.cells #[.int .i64 x0, .int .i64 x1] 40)).alloc (.cells #[.int .i64 y0, .int .i64 y1] 40)) wr) (fun i wr => rs.length - (intOf i).toNat)
  case atStart => exact ⟨0, Nat.zero_le _, rfl, fun j r hj => by omega, Below.refl _ _⟩
  case round =>
    obtain ⟨k, hk, rfl, hno, hb⟩ := hrel
    by_cases hlt : k < rs.length
    · have hlt' : (k : Int) < (rs.length : Int) := by omega
      have hp : rs[k]? = some rs[k] := List.getElem?_eq_getElem hlt
      rcases hr with rfl | ⟨g, o, rfl, hat⟩
      · cases hp
      obtain ⟨q0, q1, q2, q3, u4, u5, u6, u7⟩ := ((hat k _ hp).below bA).below hb
      clear u4 u5 u6 u7
      have e0 := (hb.cell (p := ⟨W.heap.size, 0, none⟩) (by rw [hX]; show W.heap.size < _; omega)).trans c0
      have e1 := (hb.cell (p := ⟨W.heap.size, 1, none⟩) (by rw [hX]; show W.heap.size < _; omega)).trans c1
      have f0 := (hb.cell (p := ⟨W.heap.size + 1, 0, none⟩) (by rw [hX]; show W.heap.size + 1 < _; omega)).trans d0
      have f1 := (hb.cell (p := ⟨W.heap.size + 1, 1, none⟩) (by rw [hX]; show W.heap.size + 1 < _; omega)).trans d1
      have z1 := (hb.cell (p := ⟨D, 1, none⟩) (by rw [hX]; show D < _; omega)).trans hw1
      generalize rs[k] = r at hp q0 q1 q2 q3
      obtain ⟨a, b, c, d, us, uv, up, ds, dv, dn⟩ := r
      simp only at q0 q1 q2 q3
      have HN := (show Hid (∀ (j : Nat) (r : RF), j < k → rs[j]? = some r → sameB x0 x1 y0 y1 r = false) from hno)
      have HB := (show Hid (Below ((W.alloc (.cells #[.int .i64 x0, .int .i64 x1] 40)).alloc (.cells #[.int .i64 y0, .int .i64 y1] 40)).heap.size ((W.alloc (.cells #[.int .i64 x0, .int .i64 x1] 40)).alloc (.cells #[.int .i64 y0, .int .i64 y1] 40)) wr) from hb)
      have HA := (show Hid (Below W.heap.size W ((W.alloc (.cells #[.int .i64 x0, .int .i64 x1] 40)).alloc (.cells #[.int .i64 y0, .int .i64 y1] 40))) from bA)
      have HP := (show Hid (rs[k]? = some ⟨a, b, c, d, us, uv, up, ds, dv, dn⟩) from hp)
      have HS : Hid (sameB x0 x1 y0 y1 ⟨a, b, c, d, us, uv, up, ds, dv, dn⟩ = (decide (a = x0 ∧ b = x1) && decide (c = y0 ∧ d = y1))) := rfl
      clear c0 c1 d0 d1 hno hat hp hb bA hw1 hc1 h
      by_cases h1 : a = x0 ∧ b = x1
      · by_cases h2 : c = y0 ∧ d = y1
        · obtain ⟨rfl, rfl⟩ := h1
          obtain ⟨rfl, rfl⟩ := h2
          have hf : Hid (fAt (some ⟨g, o, none⟩) (fI rs a b c d) rs.length = some ⟨g, o + k * 8, none⟩) := by
            have e : fI rs a b c d = k := fI_some HP.out (by rw [HS.out]; simp) HN.out
            show fAt (some ⟨g, o, none⟩) (fI rs a b c d) rs.length = some ⟨g, o + k * 8, none⟩
            unfold fAt; rw [e, if_pos hlt]; rfl
          go_wp2_with fail
          go_quiet (fail)
          go_wp2
          go_ret
          exact ⟨by rw [hf.out]; rfl, HA.out.trans ((HB.out.trans (Ms.below_drewN _ _ _)).mono HA.out.size)⟩
        · have hs := (show sameB x0 x1 y0 y1 ⟨a, b, c, d, us, uv, up, ds, dv, dn⟩ = false by rw [HS.out]; simp [h2])
          have HN2 : Hid (∀ (j : Nat) (r : RF), j < k + 1 → rs[j]? = some r → sameB x0 x1 y0 y1 r = false) := fun j r hj hr => by
            by_cases e : j = k
            · subst e; rw [HP.out] at hr; cases hr; exact hs
            · exact HN.out j r (by omega) hr
          obtain ⟨rfl, rfl⟩ := h1
          clear HN HS hs
          by_cases h3 : c = y0
          · have h4 : (d == y1) = false := by simp; exact fun h => h2 ⟨h3, h⟩
            subst h3
            go_wp2_with fail
            go_quiet (fail)
            go_wp2
            go_roundw
            case rel => exact ⟨k + 1, by omega, by go_num, HN2.out, HB.out.trans (Ms.below_drewN _ _ _)⟩
            case measure => simp [intOf]; omega
          · have h4 : (c == y0) = false := by simp; exact h3
            go_wp2_with fail
            go_quiet (fail)
            go_wp2
            go_roundw
            case rel => exact ⟨k + 1, by omega, by go_num, HN2.out, HB.out.trans (Ms.below_drewN _ _ _)⟩
            case measure => simp [intOf]; omega
      · have hs := (show sameB x0 x1 y0 y1 ⟨a, b, c, d, us, uv, up, ds, dv, dn⟩ = false by rw [HS.out]; simp [h1])
        have HN2 : Hid (∀ (j : Nat) (r : RF), j < k + 1 → rs[j]? = some r → sameB x0 x1 y0 y1 r = false) := fun j r hj hr => by
          by_cases e : j = k
          · subst e; rw [HP.out] at hr; cases hr; exact hs
          · exact HN.out j r (by omega) hr
        clear HN HS hs
        by_cases h3 : a = x0
        · have h4 : (b == x1) = false := by simp; exact fun h => h1 ⟨h3, h⟩
          subst h3
          go_wp2_with fail
          go_quiet (fail)
          go_wp2
          go_roundw
          case rel => exact ⟨k + 1, by omega, by go_num, HN2.out, HB.out.trans (Ms.below_drewN _ _ _)⟩
          case measure => simp [intOf]; omega
        · have h4 : (a == x0) = false := by simp; exact h3
          go_wp2_with fail
          go_quiet (fail)
          go_wp2
          go_roundw
          case rel => exact ⟨k + 1, by omega, by go_num, HN2.out, HB.out.trans (Ms.below_drewN _ _ _)⟩
          case measure => simp [intOf]; omega
    · have hge : (rs.length : Int) ≤ (k : Int) := by omega
      have hf : fAt a (fI rs x0 x1 y0 y1) rs.length = none := by
        have e : fI rs x0 x1 y0 y1 = rs.length := fI_none fun j r hr => hno j r (by have := (List.getElem?_eq_some_iff.1 hr).1; omega) hr
        unfold fAt; rw [e, if_neg (Nat.lt_irrefl _)]
      go_wp2
      go_ret
      exact ⟨by rw [hf]; rfl, bA.trans (hb.mono bA.size)⟩

set_option maxHeartbeats 2000000 in
theorem up_any (p : Addr) (w : World) : Calls Tryz.prog 99 #[.pointer (some p)] w fun e w' => e = .returned (.pointer (some p)) ∧ Below w.heap.size w w' := by
  go_enter Tryz.func99, Tryz.ntmps99
  go_wp2
  go_ret
  exact ⟨rfl, Below.refl _ _⟩
set_option maxHeartbeats 2000000 in
theorem down_any (p : Addr) (w : World) : Calls Tryz.prog 100 #[.pointer (some p)] w fun e w' => e = .returned (.pointer (some p)) ∧ Below w.heap.size w w' := by
  go_enter Tryz.func100, Tryz.ntmps100
  go_wp2
  go_ret
  exact ⟨rfl, Below.refl _ _⟩

set_option maxRecDepth 8000 in
set_option maxHeartbeats 4000000 in
theorem flowOf_any (a b c d : Int) (us : ByteArray) (uv : Value) (ds : ByteArray) (dv : Value) (w : World) (hu : ∃ x n k, uv = .slice x n k) (hd : ∃ x n k, dv = .slice x n k) :
    Calls Tryz.prog 61 #[.agg #[.int .i64 a, .int .i64 b, .int .i64 c, .int .i64 d, .string us, uv, .string ds, dv]] w fun e w' => e = .returned (.agg #[.int .i64 a, .int .i64 b, .int .i64 c, .int .i64 d, .string us, uv, .string ds, dv]) ∧ Below w.heap.size w w' := by
  obtain ⟨x, n, k, rfl⟩ := hu
  obtain ⟨x', n', k', rfl⟩ := hd
  go_enter Tryz.func61, Tryz.ntmps61
  go_wp2
  refine bodyPost_ret (v := .agg #[.int .i64 a, .int .i64 b, .int .i64 c, .int .i64 d, .string us, .slice x n k, .string ds, .slice x' n' k']) ?_ rfl ?_
  · simp [results, Tryz.results61, go_sem]
  · refine ⟨rfl, ?_⟩
    exact ((Below.refl _ _).alloc (Nat.le_refl _) _).alloc (by simp) _
end Go.Proofs.YtfmjhbdbgcgoiaaGreatDoor.DrI

/- Walks: the exact laws' own comparison of doors. -/
import Derived.Test.YtfmjhbdbgcgoiaaGreatDoorExD
namespace Go.Proofs.YtfmjhbdbgcgoiaaGreatDoor.ExD
open Go.RowKit Go.Proofs.YtfmjhbdbgcgoiaaGreatDoor.Kit Go.Proofs.YtfmjhbdbgcgoiaaGreatDoor.St Go.Proofs.YtfmjhbdbgcgoiaaGreatDoor.App Go.Proofs.YtfmjhbdbgcgoiaaGreatDoor.Mm Go.Proofs.YtfmjhbdbgcgoiaaGreatDoor.ExM Go.Proofs.YtfmjhbdbgcgoiaaGreatDoor.ExT Go.Proofs.YtfmjhbdbgcgoiaaGreatDoor.Dr
open Go.Proofs.YtfmjhbdbgcgoiaaGreatDoor.EndW (endV)
set_option linter.unusedSimpArgs false
set_option linter.unusedVariables false

set_option maxRecDepth 8000 in
set_option maxHeartbeats 8000000 in
theorem eqFlow_true (a b c d : Int) (us : ByteArray) (uv uv2 : Value) (up : List (Int × ByteArray)) (ds : ByteArray) (dv dv2 : Value) (dn : List (Int × ByteArray)) (hul : up.length ≤ 1048576) (hdl : dn.length ≤ 1048576) (W : World) (hu : IsT W uv up) (hd : IsT W dv dn) (hu2 : IsT W uv2 up) (hd2 : IsT W dv2 dn) :
    Calls Tryz.prog 65 #[.agg #[.int .i64 a, .int .i64 b, .int .i64 c, .int .i64 d, .string us, uv, .string ds, dv], .agg #[.int .i64 a, .int .i64 b, .int .i64 c, .int .i64 d, .string us, uv2, .string ds, dv2]] W fun e W' => e = .returned (.bool true) ∧ Below W.heap.size W W' := by
  have bA : Below W.heap.size W ((W.alloc (.cells #[.int .i64 a, .int .i64 b, .int .i64 c, .int .i64 d, .string us, uv, .string ds, dv] 56)).alloc (.cells #[.int .i64 a, .int .i64 b, .int .i64 c, .int .i64 d, .string us, uv2, .string ds, dv2] 56)) := ((Below.refl _ _).alloc (Nat.le_refl _) _).alloc (by simp) _
  have HP : ((W.alloc (.cells #[.int .i64 a, .int .i64 b, .int .i64 c, .int .i64 d, .string us, uv, .string ds, dv] 56)).alloc (.cells #[.int .i64 a, .int .i64 b, .int .i64 c, .int .i64 d, .string us, uv2, .string ds, dv2] 56)).heap[W.heap.size]? = some (ob8 56 (.int .i64 a) (.int .i64 b) (.int .i64 c) (.int .i64 d) (.string us) uv (.string ds) dv) := by
    rw [Below.heap_alloc _ _ _ (by simp)]; exact World.alloc_heap_new _ _
  have HQ : ((W.alloc (.cells #[.int .i64 a, .int .i64 b, .int .i64 c, .int .i64 d, .string us, uv, .string ds, dv] 56)).alloc (.cells #[.int .i64 a, .int .i64 b, .int .i64 c, .int .i64 d, .string us, uv2, .string ds, dv2] 56)).heap[W.heap.size + 1]? = some (ob8 56 (.int .i64 a) (.int .i64 b) (.int .i64 c) (.int .i64 d) (.string us) uv2 (.string ds) dv2) := by
    have := World.alloc_heap_new (W.alloc (.cells #[.int .i64 a, .int .i64 b, .int .i64 c, .int .i64 d, .string us, uv, .string ds, dv] 56)) (.cells #[.int .i64 a, .int .i64 b, .int .i64 c, .int .i64 d, .string us, uv2, .string ds, dv2] 56)
    rw [World.size_alloc] at this; exact this
  go_enter Tryz.func65, Tryz.ntmps65
  go_wp2_with fail
  refine (eqEnd_true a b _).mono ?_
  rintro e w1 ⟨rfl, k1⟩
  have HP1 := (k1.block _ (lt_of HP)).trans HP
  have HQ1 := (k1.block _ (lt_of HQ)).trans HQ
  have b1 := bA.trans (k1.mono bA.size)
  clear HP HQ bA k1
  obtain ⟨p0, p1, p2, p3, p4, p5, p6, p7, pf⟩ := ob8_in HP1
  obtain ⟨q0, q1, q2, q3, q4, q5, q6, q7, qf⟩ := ob8_in HQ1
  go_wp2_with fail
  clear p0 p1 p2 p3 p4 p5 p6 p7 pf q0 q1 q2 q3 q4 q5 q6 q7 qf
  refine (eqEnd_true c d _).mono ?_
  rintro e w2 ⟨rfl, k2⟩
  have HP2 := (k2.block _ (lt_of HP1)).trans HP1
  have HQ2 := (k2.block _ (lt_of HQ1)).trans HQ1
  have b2 := b1.trans (k2.mono b1.size)
  clear HP1 HQ1 b1 k2
  obtain ⟨p0, p1, p2, p3, p4, p5, p6, p7, pf⟩ := ob8_in HP2
  obtain ⟨q0, q1, q2, q3, q4, q5, q6, q7, qf⟩ := ob8_in HQ2
  go_wp2_with fail
  clear p0 p1 p2 p3 p4 p5 p6 p7 pf q0 q1 q2 q3 q4 q5 q6 q7 qf
  refine (eqStream_true _ us up hul uv uv2 (hu.below b2) (hu2.below b2)).mono ?_
  rintro e w3 ⟨rfl, k3⟩
  have HP3 := (k3.block _ (lt_of HP2)).trans HP2
  have HQ3 := (k3.block _ (lt_of HQ2)).trans HQ2
  have b3 := b2.trans (k3.mono b2.size)
  clear HP2 HQ2 b2 k3
  obtain ⟨p0, p1, p2, p3, p4, p5, p6, p7, pf⟩ := ob8_in HP3
  obtain ⟨q0, q1, q2, q3, q4, q5, q6, q7, qf⟩ := ob8_in HQ3
  go_wp2_with fail
  clear p0 p1 p2 p3 p4 p5 p6 p7 pf q0 q1 q2 q3 q4 q5 q6 q7 qf
  refine (eqStream_true _ ds dn hdl dv dv2 (hd.below b3) (hd2.below b3)).mono ?_
  rintro e w4 ⟨rfl, k4⟩
  have b4 := b3.trans (k4.mono b3.size)
  go_wp2
  go_ret
  exact ⟨rfl, b4⟩

set_option maxHeartbeats 4000000 in
theorem eqQ_nil (w : World) (c0 c1 : Nat) (a0 a1 : Option Addr) :
    Calls Tryz.prog 34 #[.slice a0 0 c0, .slice a1 0 c1] w fun e w' => e = .returned (.bool true) ∧ Below w.heap.size w w' := by
  go_enter Tryz.func34, Tryz.ntmps34
  go_wp2
  refine wp_loop_rounds 1 ?_
  rw [rounds_succ]
  go_wp2
  go_ret
  exact ⟨rfl, Below.refl _ _⟩

theorem mean_at {rs qs : List RF} (h : rs.map RF.mean = qs.map RF.mean) {k : Nat} {r : RF} (hr : rs[k]? = some r) : ∃ q, qs[k]? = some q ∧ q.mean = r.mean := by
  have e := congrArg (fun l => l[k]?) h
  simp only [List.getElem?_map, hr, Option.map_some] at e
  cases hq : qs[k]? with
  | none => rw [hq] at e; cases e
  | some q => rw [hq] at e; exact ⟨q, rfl, (Option.some.inj e).symm⟩

set_option maxRecDepth 8000 in
set_option maxHeartbeats 8000000 in
theorem eqQ_row (w : World) (rs qs : List RF) (hm : rs.length ≤ 1048576) (hsm : ∀ r ∈ rs, r.up.length ≤ 1048576 ∧ r.dn.length ≤ 1048576) (hmean : rs.map RF.mean = qs.map RF.mean) (g0 o0 c0 g1 o1 c1 : Nat)
    (h0 : ∀ (i : Nat) (p : RF), rs[i]? = some p → At8 w g0 (o0 + i * 8) p) (h1 : ∀ (i : Nat) (p : RF), qs[i]? = some p → At8 w g1 (o1 + i * 8) p) (hg0 : GoodF w rs) (hg1 : GoodF w qs) :
    Calls Tryz.prog 34 #[.slice (some ⟨g0, o0, none⟩) rs.length c0, .slice (some ⟨g1, o1, none⟩) rs.length c1] w fun e w' => e = .returned (.bool true) ∧ Below w.heap.size w w' := by
  go_enter Tryz.func34, Tryz.ntmps34
  go_wp2
  go_loopw [5] (fun i wr => ∃ k : Nat, k ≤ rs.length ∧ i = .int .i64 k ∧ Below w.heap.size w wr) (fun i wr => rs.length - (intOf i).toNat)
  case atStart => exact ⟨0, Nat.zero_le _, rfl, Below.refl _ _⟩
  case round =>
    obtain ⟨k, hk, rfl, hb⟩ := hrel
    by_cases hlt : k < rs.length
    · have hlt' : (k : Int) < (rs.length : Int) := by omega
      have hp : rs[k]? = some rs[k] := List.getElem?_eq_getElem hlt
      have hmem : rs[k] ∈ rs := List.getElem_mem hlt
      obtain ⟨q, hq, hqm⟩ := mean_at hmean hp
      obtain ⟨x0, x1, x2, x3, x4, x5, x6, x7⟩ := (h0 k _ hp).below hb
      obtain ⟨y0, y1, y2, y3, y4, y5, y6, y7⟩ := (h1 k _ hq).below hb
      obtain ⟨s1, s2⟩ := hsm _ hmem
      obtain ⟨g1, g2⟩ := hg0.below hb _ hmem
      obtain ⟨j1, j2⟩ := hg1.below hb _ (List.mem_of_getElem? hq)
      generalize rs[k] = r at hp x0 x1 x2 x3 x4 x5 x6 x7 hmem s1 s2 g1 g2 hqm
      obtain ⟨a, b, c, d, us, uv, up, ds, dv, dn⟩ := r
      obtain ⟨a', b', c', d', us', uv2, up', ds', dv2, dn'⟩ := q
      simp only [RF.mean, Prod.mk.injEq] at hqm
      obtain ⟨⟨rfl, rfl⟩, ⟨rfl, rfl⟩, ⟨rfl, rfl⟩, rfl, rfl⟩ := hqm
      simp only at x0 x1 x2 x3 x4 x5 x6 x7 y0 y1 y2 y3 y4 y5 y6 y7 s1 s2 g1 g2 j1 j2
      clear h0 h1 hp hmem hq hg0 hg1 hmean
      go_wp2_with fail
      go_region_with (go_at_call 65; refine (eqFlow_true a' b' c' d' us' uv uv2 up' ds' dv dv2 dn' s1 s2 _ (g1.below (by first | exact Below.refl _ _ | exact (Below.refl _ _).drew | exact (Below.refl _ _).drew.drew | exact (Below.refl _ _).drew.drew.drew)) (g2.below (by first | exact Below.refl _ _ | exact (Below.refl _ _).drew | exact (Below.refl _ _).drew.drew | exact (Below.refl _ _).drew.drew.drew)) (j1.below (by first | exact Below.refl _ _ | exact (Below.refl _ _).drew | exact (Below.refl _ _).drew.drew | exact (Below.refl _ _).drew.drew.drew)) (j2.below (by first | exact Below.refl _ _ | exact (Below.refl _ _).drew | exact (Below.refl _ _).drew.drew | exact (Below.refl _ _).drew.drew.drew))).mono ?_; rintro e w2 ⟨rfl, k2⟩; have bb : Below wr.heap.size wr w2 := (by first | exact k2 | exact (Below.refl _ wr).drew.trans k2 | exact (Below.refl _ wr).drew.drew.trans k2 | exact (Below.refl _ wr).drew.drew.drew.trans k2))
      all_goals
        go_wp2
        go_roundw
        case rel =>
          have b9 := hb.trans (bb.mono hb.size)
          first | exact ⟨k + 1, by omega, by go_num, b9⟩ | exact ⟨k + 1, by omega, by go_num, b9.drew⟩ | exact ⟨k + 1, by omega, by go_num, b9.drew.drew⟩
        case measure => simp [intOf]; omega
    · have hge : (rs.length : Int) ≤ (k : Int) := by omega
      go_wp2
      go_ret
      exact ⟨rfl, hb⟩
theorem eqQ_true (w : World) (rs qs : List RF) (hm : rs.length ≤ 1048576) (hsm : ∀ r ∈ rs, r.up.length ≤ 1048576 ∧ r.dn.length ≤ 1048576) (hmean : rs.map RF.mean = qs.map RF.mean) (a b : Value) (h0 : IsF w a rs) (h1 : IsF w b qs) :
    Calls Tryz.prog 34 #[a, b] w fun e w' => e = .returned (.bool true) ∧ Below w.heap.size w w' := by
  have hlen : qs.length = rs.length := by have := congrArg List.length hmean; simpa using this.symm
  obtain ⟨⟨a0, c0, rfl, _, _, h0⟩, g0⟩ := h0
  obtain ⟨⟨a1, c1, rfl, _, _, h1⟩, g1⟩ := h1
  rw [hlen]
  rcases h0 with rfl | ⟨x0, o0, rfl, h0⟩
  · exact eqQ_nil w c0 c1 a0 a1
  · rcases h1 with rfl | ⟨x1, o1, rfl, h1⟩
    · rw [← hlen]; exact eqQ_nil w c0 c1 _ a1
    · exact eqQ_row w rs qs hm hsm hmean x0 o0 c0 x1 o1 c1 h0 h1 g0 g1

end Go.Proofs.YtfmjhbdbgcgoiaaGreatDoor.ExD

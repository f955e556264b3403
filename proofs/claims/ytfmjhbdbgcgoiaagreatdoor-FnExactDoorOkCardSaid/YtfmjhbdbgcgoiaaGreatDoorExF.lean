/- Walks: the exact laws' own copies of doors. -/
import Derived.Test.YtfmjhbdbgcgoiaaGreatDoorExD
namespace Go.Proofs.YtfmjhbdbgcgoiaaGreatDoor.ExD
open Go.RowKit Go.Proofs.YtfmjhbdbgcgoiaaGreatDoor.Kit Go.Proofs.YtfmjhbdbgcgoiaaGreatDoor.St Go.Proofs.YtfmjhbdbgcgoiaaGreatDoor.App Go.Proofs.YtfmjhbdbgcgoiaaGreatDoor.Mm Go.Proofs.YtfmjhbdbgcgoiaaGreatDoor.ExM Go.Proofs.YtfmjhbdbgcgoiaaGreatDoor.ExT Go.Proofs.YtfmjhbdbgcgoiaaGreatDoor.Dr
open Go.Proofs.YtfmjhbdbgcgoiaaGreatDoor.EndW (endV)
set_option linter.unusedSimpArgs false
set_option linter.unusedVariables false
set_option maxRecDepth 8000 in
set_option maxHeartbeats 8000000 in
theorem toFlow_any (a b c d : Int) (us : ByteArray) (uv : Value) (up : List (Int × ByteArray)) (ds : ByteArray) (dv : Value) (dn : List (Int × ByteArray)) (hul : up.length ≤ 1048576) (hdl : dn.length ≤ 1048576) (W : World) (hu : IsT W uv up) (hd : IsT W dv dn) :
    Calls Tryz.prog 60 #[.agg #[.int .i64 a, .int .i64 b, .int .i64 c, .int .i64 d, .string us, uv, .string ds, dv]] W fun e W' => ∃ uv2 dv2, e = .returned (.agg #[.int .i64 a, .int .i64 b, .int .i64 c, .int .i64 d, .string us, uv2, .string ds, dv2]) ∧
      (∃ mid, W.heap.size ≤ mid ∧ W'.ownsRow W.heap.size 88 2 uv2 up.length (cellsT up) ∧ (∀ k, uv2.ownBlock = some k → k < mid) ∧ W'.ownsRow mid 88 2 dv2 dn.length (cellsT dn)) ∧ Below W.heap.size W W' := by
  have bA : Below W.heap.size W (((W.alloc (.cells #[.int .i64 a, .int .i64 b, .int .i64 c, .int .i64 d, .string us, uv, .string ds, dv] 82)).alloc (.cells #[.int .i64 0, .int .i64 0, .int .i64 0, .int .i64 0, .string ⟨#[]⟩, .slice none 0 0, .string ⟨#[]⟩, .slice none 0 0] 56)).alloc (.cells #[.int .i64 0, .int .i64 0, .int .i64 0, .int .i64 0, .string ⟨#[]⟩, .slice none 0 0, .string ⟨#[]⟩, .slice none 0 0] 56)) := (((Below.refl _ _).alloc (Nat.le_refl _) _).alloc (by simp) _).alloc (by simp; omega) _
  have HP : (((W.alloc (.cells #[.int .i64 a, .int .i64 b, .int .i64 c, .int .i64 d, .string us, uv, .string ds, dv] 82)).alloc (.cells #[.int .i64 0, .int .i64 0, .int .i64 0, .int .i64 0, .string ⟨#[]⟩, .slice none 0 0, .string ⟨#[]⟩, .slice none 0 0] 56)).alloc (.cells #[.int .i64 0, .int .i64 0, .int .i64 0, .int .i64 0, .string ⟨#[]⟩, .slice none 0 0, .string ⟨#[]⟩, .slice none 0 0] 56)).heap[W.heap.size]? = some (ob8 82 (.int .i64 a) (.int .i64 b) (.int .i64 c) (.int .i64 d) (.string us) uv (.string ds) dv) := by
    rw [Below.heap_alloc _ _ _ (by simp; omega), Below.heap_alloc _ _ _ (by simp)]; exact World.alloc_heap_new _ _
  have HR : (((W.alloc (.cells #[.int .i64 a, .int .i64 b, .int .i64 c, .int .i64 d, .string us, uv, .string ds, dv] 82)).alloc (.cells #[.int .i64 0, .int .i64 0, .int .i64 0, .int .i64 0, .string ⟨#[]⟩, .slice none 0 0, .string ⟨#[]⟩, .slice none 0 0] 56)).alloc (.cells #[.int .i64 0, .int .i64 0, .int .i64 0, .int .i64 0, .string ⟨#[]⟩, .slice none 0 0, .string ⟨#[]⟩, .slice none 0 0] 56)).heap[W.heap.size + 1]? = some (ob8 56 (.int .i64 0) (.int .i64 0) (.int .i64 0) (.int .i64 0) (.string ⟨#[]⟩) (.slice none 0 0) (.string ⟨#[]⟩) (.slice none 0 0)) := by
    rw [Below.heap_alloc _ _ _ (by simp)]
    have := World.alloc_heap_new (W.alloc (.cells #[.int .i64 a, .int .i64 b, .int .i64 c, .int .i64 d, .string us, uv, .string ds, dv] 82)) (.cells #[.int .i64 0, .int .i64 0, .int .i64 0, .int .i64 0, .string ⟨#[]⟩, .slice none 0 0, .string ⟨#[]⟩, .slice none 0 0] 56)
    rw [World.size_alloc] at this; exact this
  have HD : (((W.alloc (.cells #[.int .i64 a, .int .i64 b, .int .i64 c, .int .i64 d, .string us, uv, .string ds, dv] 82)).alloc (.cells #[.int .i64 0, .int .i64 0, .int .i64 0, .int .i64 0, .string ⟨#[]⟩, .slice none 0 0, .string ⟨#[]⟩, .slice none 0 0] 56)).alloc (.cells #[.int .i64 0, .int .i64 0, .int .i64 0, .int .i64 0, .string ⟨#[]⟩, .slice none 0 0, .string ⟨#[]⟩, .slice none 0 0] 56)).heap[W.heap.size + 1 + 1]? = some (ob8 56 (.int .i64 0) (.int .i64 0) (.int .i64 0) (.int .i64 0) (.string ⟨#[]⟩) (.slice none 0 0) (.string ⟨#[]⟩) (.slice none 0 0)) := by
    have := World.alloc_heap_new ((W.alloc (.cells #[.int .i64 a, .int .i64 b, .int .i64 c, .int .i64 d, .string us, uv, .string ds, dv] 82)).alloc (.cells #[.int .i64 0, .int .i64 0, .int .i64 0, .int .i64 0, .string ⟨#[]⟩, .slice none 0 0, .string ⟨#[]⟩, .slice none 0 0] 56)) (.cells #[.int .i64 0, .int .i64 0, .int .i64 0, .int .i64 0, .string ⟨#[]⟩, .slice none 0 0, .string ⟨#[]⟩, .slice none 0 0] 56)
    rw [World.size_alloc, World.size_alloc] at this; exact this
  go_enter Tryz.func60, Tryz.ntmps60
  go_wp2_with fail
  refine (toEnd_any a b _).mono ?_
  rintro e w1 ⟨rfl, k1⟩
  have HP1 := (k1.block _ (lt_of HP)).trans HP
  have HR1 := (k1.block _ (lt_of HR)).trans HR
  have HD1 := (k1.block _ (lt_of HD)).trans HD
  have b1 := bA.trans (k1.mono (by simp; omega))
  clear HP HR HD k1 bA
  have S2 := two0 HD1 (.int .i64 a) (.int .i64 b)
  have SP2 : ((w1.setCell ⟨W.heap.size + 1 + 1, 0, none⟩ (.int .i64 a)).setCell ⟨W.heap.size + 1 + 1, 1, none⟩ (.int .i64 b)).heap[W.heap.size]? = _ := (oth2 _ _ (by omega)).trans HP1
  have SR2 : ((w1.setCell ⟨W.heap.size + 1 + 1, 0, none⟩ (.int .i64 a)).setCell ⟨W.heap.size + 1 + 1, 1, none⟩ (.int .i64 b)).heap[W.heap.size + 1]? = _ := (oth2 _ _ (by omega)).trans HR1
  have bS2 : Below W.heap.size W ((w1.setCell ⟨W.heap.size + 1 + 1, 0, none⟩ (.int .i64 a)).setCell ⟨W.heap.size + 1 + 1, 1, none⟩ (.int .i64 b)) := (b1.setCell (by simp; omega) _).setCell (by simp; omega) _
  obtain ⟨p0, p1, p2, p3, p4, p5, p6, p7, pf⟩ := ob8_in HP1
  obtain ⟨d0, d1, d2, d3, d4, d5, d6, d7, df⟩ := ob8_in HD1
  have HA2 := (show Hid _ from HP1)
  clear HP1 HR1 HD1 b1 HA2
  go_wp2_with fail
  clear p0 p1 p2 p3 p4 p5 p6 p7 pf d0 d1 d2 d3 d4 d5 d6 d7 df
  refine (toEnd_any c d _).mono ?_
  rintro e w2 ⟨rfl, k2⟩
  have HP2 := (k2.block _ (lt_of SP2)).trans SP2
  have HR2 := (k2.block _ (lt_of SR2)).trans SR2
  have HD2 := (k2.block _ (lt_of S2)).trans S2
  have b2 := bS2.trans (k2.mono bS2.size)
  clear S2 SP2 SR2 bS2
  have S3 := two2 HD2 (.int .i64 c) (.int .i64 d)
  have SP3 : ((w2.setCell ⟨W.heap.size + 1 + 1, 2, none⟩ (.int .i64 c)).setCell ⟨W.heap.size + 1 + 1, 3, none⟩ (.int .i64 d)).heap[W.heap.size]? = _ := (oth2 _ _ (by omega)).trans HP2
  have SR3 : ((w2.setCell ⟨W.heap.size + 1 + 1, 2, none⟩ (.int .i64 c)).setCell ⟨W.heap.size + 1 + 1, 3, none⟩ (.int .i64 d)).heap[W.heap.size + 1]? = _ := (oth2 _ _ (by omega)).trans HR2
  have bS3 : Below W.heap.size W ((w2.setCell ⟨W.heap.size + 1 + 1, 2, none⟩ (.int .i64 c)).setCell ⟨W.heap.size + 1 + 1, 3, none⟩ (.int .i64 d)) := (b2.setCell (by simp; omega) _).setCell (by simp; omega) _
  obtain ⟨p0, p1, p2, p3, p4, p5, p6, p7, pf⟩ := ob8_in HP2
  obtain ⟨d0, d1, d2, d3, d4, d5, d6, d7, df⟩ := ob8_in HD2
  have HA3 := (show Hid _ from HP2)
  clear HP2 HR2 HD2 b2 HA3
  go_wp2_with fail
  clear p0 p1 p2 p3 p4 p5 p6 p7 pf d0 d1 d2 d3 d4 d5 d6 d7 df
  refine (toStream_any _ us uv up (hu.below bS3) hul).mono ?_
  rintro e w3 ⟨uv2, rfl, ⟨bu, hbu, hru⟩, k3⟩
  obtain ⟨ua, uc, rfl, _⟩ := isT_of_row hru
  have hbu2 : W.heap.size + 1 + 1 < bu := Nat.lt_of_lt_of_le (lt_of S3) hbu
  have lu : ∀ k, (Value.slice ua up.length uc).ownBlock = some k → k < w3.heap.size := fun k hk => (hru.lt k hk).2
  have HRU := (show Hid (w3.ownsRow bu 88 2 (.slice ua up.length uc) up.length (cellsT up)) from hru)
  clear hru hbu
  have HP3 := (k3.block _ (lt_of SP3)).trans SP3
  have HR3 := (k3.block _ (lt_of SR3)).trans SR3
  have HD3 := (k3.block _ (lt_of S3)).trans S3
  have b3 := bS3.trans (k3.mono bS3.size)
  clear S3 SP3 SR3 bS3
  have S4 := two4 HD3 (.string us) (.slice ua up.length uc)
  have SP4 : ((w3.setCell ⟨W.heap.size + 1 + 1, 4, none⟩ (.string us)).setCell ⟨W.heap.size + 1 + 1, 5, none⟩ (.slice ua up.length uc)).heap[W.heap.size]? = _ := (oth2 _ _ (by omega)).trans HP3
  have SR4 : ((w3.setCell ⟨W.heap.size + 1 + 1, 4, none⟩ (.string us)).setCell ⟨W.heap.size + 1 + 1, 5, none⟩ (.slice ua up.length uc)).heap[W.heap.size + 1]? = _ := (oth2 _ _ (by omega)).trans HR3
  have bS4 : Below W.heap.size W ((w3.setCell ⟨W.heap.size + 1 + 1, 4, none⟩ (.string us)).setCell ⟨W.heap.size + 1 + 1, 5, none⟩ (.slice ua up.length uc)) := (b3.setCell (by simp; omega) _).setCell (by simp; omega) _
  obtain ⟨p0, p1, p2, p3, p4, p5, p6, p7, pf⟩ := ob8_in HP3
  obtain ⟨d0, d1, d2, d3, d4, d5, d6, d7, df⟩ := ob8_in HD3
  have HA4 := (show Hid _ from HP3)
  clear HP3 HR3 HD3 b3 HA4
  go_wp2_with fail
  clear p0 p1 p2 p3 p4 p5 p6 p7 pf d0 d1 d2 d3 d4 d5 d6 d7 df
  refine (toStream_any _ ds dv dn (hd.below bS4) hdl).mono ?_
  rintro e w4 ⟨dv2, rfl, ⟨bd, hbd, hrd⟩, k4⟩
  obtain ⟨da, dc, rfl, _⟩ := isT_of_row hrd
  rw [sz2] at hbd
  have hru := row_below (ownsRow_setCell_below (ownsRow_setCell_below HRU.out (by exact hbu2) _) (by exact hbu2) _) k4
  have HRD := (show Hid (w4.ownsRow bd 88 2 (.slice da dn.length dc) dn.length (cellsT dn)) from hrd)
  have HRU := (show Hid (w4.ownsRow bu 88 2 (.slice ua up.length uc) up.length (cellsT up)) from hru)
  have l3 : W.heap.size + 1 + 1 < w3.heap.size := by have := lt_of S4; rw [sz2] at this; exact this
  clear hru hrd
  have HP4 := (k4.block _ (lt_of SP4)).trans SP4
  have HR4 := (k4.block _ (lt_of SR4)).trans SR4
  have HD4 := (k4.block _ (lt_of S4)).trans S4
  have b4 := bS4.trans (k4.mono bS4.size)
  clear S4 SP4 SR4 bS4
  obtain ⟨d0, d1, d2, d3, d4, d5, d6, d7, df⟩ := ob8_in HD4
  obtain ⟨r0, r1, r2, r3, r4, r5, r6, r7, rf⟩ := ob8_in HR4
  have l4 := lt_of HD4
  clear HP4 HR4 HD4
  go_wp2
  refine bodyPost_ret (v := .agg #[.int .i64 a, .int .i64 b, .int .i64 c, .int .i64 d, .string us, .slice ua up.length uc, .string ds, .slice da dn.length dc]) ?_ rfl ?_
  · simp [results, Tryz.results60, go_sem, r0, r1, r2, r3, r4, r5, r6, r7]
  · have hru := HRU.out
    have hrd := HRD.out
    refine ⟨_, _, rfl, ⟨w3.heap.size, by omega, ?_, lu, ?_⟩, ?_⟩
    · refine ownsRow_base (b := bu) ?_ (by omega)
      have hR : W.heap.size + 1 < bu := by omega
      exact (ownsRow_setCell_below (ownsRow_setCell_below (ownsRow_setCell_below (ownsRow_setCell_below (ownsRow_setCell_below (ownsRow_setCell_below (ownsRow_setCell_below (ownsRow_setCell_below (ownsRow_setCell_below (ownsRow_setCell_below hru hbu2 _) hbu2 _) hR _) hR _) hR _) hR _) hR _) hR _) hR _) hR _)
    · refine ownsRow_base (b := bd) ?_ hbd
      have hR : W.heap.size + 1 < bd := by omega
      have hD : W.heap.size + 1 + 1 < bd := by omega
      exact (ownsRow_setCell_below (ownsRow_setCell_below (ownsRow_setCell_below (ownsRow_setCell_below (ownsRow_setCell_below (ownsRow_setCell_below (ownsRow_setCell_below (ownsRow_setCell_below (ownsRow_setCell_below (ownsRow_setCell_below hrd hD _) hD _) hR _) hR _) hR _) hR _) hR _) hR _) hR _) hR _)
    · have hR : W.heap.size ≤ W.heap.size + 1 := by omega
      have hD : W.heap.size ≤ W.heap.size + 1 + 1 := by omega
      exact (Below.setCell (Below.setCell (Below.setCell (Below.setCell (Below.setCell (Below.setCell (Below.setCell (Below.setCell (Below.setCell (Below.setCell b4 hD _) hD _) hR _) hR _) hR _) hR _) hR _) hR _) hR _) hR _)

set_option maxRecDepth 8000 in
set_option maxHeartbeats 8000000 in
theorem toQ_any (W : World) (v0 : Value) (rs : List RF) (hF : IsF W v0 rs) (hl : rs.length ≤ 1048576) (hsm : ∀ r ∈ rs, r.up.length ≤ 1048576 ∧ r.dn.length ≤ 1048576) :
    Calls Tryz.prog 30 #[v0] W fun r W' => ∃ v, r = .returned v ∧ ∃ qs : List RF, qs.length = rs.length ∧ W'.ownsRow W.heap.size 56 8 v qs.length (cellsF qs) ∧ qs.map RF.mean = rs.map RF.mean ∧ OwnQ W' (W.heap.size + 1) qs ∧ (v.ownBlock = none ∨ v.ownBlock = some W.heap.size) ∧ Below W.heap.size W W' := by
  obtain ⟨i0, hi, hz0, hz1, hz2⟩ := info_parts infoF
  obtain ⟨⟨a, cap, rfl, hc, hcm, hr⟩, hg⟩ := hF
  go_enter Tryz.func30, Tryz.ntmps30
  go_wp2_with (at_make; refine wpList_make_full _ rfl _ _ 29 rfl W.heap.size 56 i0 (.agg #[.int .i64 0, .int .i64 0, .int .i64 0, .int .i64 0, .string ByteArray.empty, .slice none 0 0, .string ByteArray.empty, .slice none 0 0]) 8 Tryz.underlying29 hi hz0 hz1 _ _ _ _ rs.length rfl rfl rfl rfl (by rw [hz2]; omega) (by unfold maxLen; omega) (Nat.le_refl _) ?_; intro w1 hown hgrow)
  have b1 : Below W.heap.size W w1 := ExT.grown_below hgrow (Nat.le_refl _) (fun k hk => by cases hk)
  have l1 : W.heap.size < w1.heap.size := (hown.lt W.heap.size rfl).2
  go_loopw [4] (fun i wr => ∃ (k : Nat) (xs : List Value) (qs : List RF), k ≤ rs.length ∧ i = .int .i64 k ∧ wr.ownsRow W.heap.size 56 8 (.slice (some ⟨W.heap.size, 0, none⟩) rs.length rs.length) rs.length xs ∧ (∀ j, j < k * 8 → xs[j]? = (cellsF qs)[j]?) ∧ qs.length = k ∧ qs.map RF.mean = (rs.take k).map RF.mean ∧ OwnQ wr (W.heap.size + 1) qs ∧ W.heap.size < wr.heap.size ∧ Below W.heap.size W wr) (fun i wr => rs.length - (intOf i).toNat)
  case atStart => exact ⟨0, _, [], Nat.zero_le _, rfl, hown, fun j hj => absurd hj (by omega), rfl, by simp, OwnQ.nil _ _, l1, b1⟩
  case round =>
    obtain ⟨k, xs, qs, hk, rfl, hrow, hxs, hql, hqm, hqo, hlw, hb⟩ := hrel
    by_cases hlt : k < rs.length
    · have hlt' : (k : Int) < (rs.length : Int) := by omega
      have hp : rs[k]? = some rs[k] := List.getElem?_eq_getElem hlt
      have hmem : rs[k] ∈ rs := List.getElem_mem hlt
      rcases hr with rfl | ⟨g, o, rfl, hat⟩
      · cases hp
      obtain ⟨x0, x1, x2, x3, x4, x5, x6, x7⟩ := (hat k _ hp).below hb
      obtain ⟨s1, s2⟩ := hsm _ hmem
      obtain ⟨g1, g2⟩ := hg.below hb _ hmem
      have hmean : (rs.take (k + 1)).map RF.mean = (rs.take k).map RF.mean ++ [rs[k].mean] := by rw [List.take_add_one, hp, List.map_append]; rfl
      generalize rs[k] = r at hp x0 x1 x2 x3 x4 x5 x6 x7 hmem s1 s2 g1 g2 hmean
      obtain ⟨a, b, c, d, us, uv, up, ds, dv, dn⟩ := r
      simp only at x0 x1 x2 x3 x4 x5 x6 x7 s1 s2 g1 g2
      clear hat hp hmem
      have HX : Hid (∀ j, j < k * 8 → xs[j]? = (cellsF qs)[j]?) := hxs
      have HM := (show Hid ((rs.take (k + 1)).map RF.mean = (rs.take k).map RF.mean ++ [RF.mean ⟨a, b, c, d, us, uv, up, ds, dv, dn⟩]) from hmean)
      have HQ := (show Hid (qs.map RF.mean = (rs.take k).map RF.mean) from hqm)
      have HO := (show Hid (OwnQ wr (W.heap.size + 1) qs) from hqo)
      have HL := (show Hid (qs.length = k) from hql)
      clear hxs hown hgrow hmean hqm hqo hql
      go_wp2_with fail
      refine (toFlow_any a b c d us uv up ds dv dn s1 s2 _ g1 g2).mono ?_
      rintro e w2 ⟨uv2, dv2, rfl, ⟨mid, hmid, hru, hum, hrd⟩, k2⟩
      have hrow2 := row_below hrow k2
      have b2 := hb.trans (k2.mono hb.size)
      have hq2 := HO.out.snoc k2 ⟨a, b, c, d, us, uv2, up, ds, dv2, dn⟩ hmid hlw hru hum hrd
      have hxl : xs.length = rs.length * 8 := hrow.1
      have hl2 : W.heap.size < w2.heap.size := Nat.lt_of_lt_of_le hlw k2.size
      obtain ⟨ua, uc, rfl, _⟩ := isT_of_row hru
      obtain ⟨da, dc, rfl, _⟩ := isT_of_row hrd

      obtain ⟨z0, hz0⟩ : ∃ u, xs[k * 8]? = some u := ⟨_, List.getElem?_eq_getElem (by omega)⟩
      have c0 := (hrow2.cellAt (k * 8) (by omega)).trans hz0
      have q0 := hrow2.frozenAt (k * 8)
      obtain ⟨z1, hz1⟩ : ∃ u, xs[k * 8 + 1]? = some u := ⟨_, List.getElem?_eq_getElem (by omega)⟩
      have c1 := (hrow2.cellAt (k * 8 + 1) (by omega)).trans hz1
      have q1 := hrow2.frozenAt (k * 8 + 1)
      obtain ⟨z2, hz2⟩ : ∃ u, xs[k * 8 + 2]? = some u := ⟨_, List.getElem?_eq_getElem (by omega)⟩
      have c2 := (hrow2.cellAt (k * 8 + 2) (by omega)).trans hz2
      have q2 := hrow2.frozenAt (k * 8 + 2)
      obtain ⟨z3, hz3⟩ : ∃ u, xs[k * 8 + 3]? = some u := ⟨_, List.getElem?_eq_getElem (by omega)⟩
      have c3 := (hrow2.cellAt (k * 8 + 3) (by omega)).trans hz3
      have q3 := hrow2.frozenAt (k * 8 + 3)
      obtain ⟨z4, hz4⟩ : ∃ u, xs[k * 8 + 4]? = some u := ⟨_, List.getElem?_eq_getElem (by omega)⟩
      have c4 := (hrow2.cellAt (k * 8 + 4) (by omega)).trans hz4
      have q4 := hrow2.frozenAt (k * 8 + 4)
      obtain ⟨z5, hz5⟩ : ∃ u, xs[k * 8 + 5]? = some u := ⟨_, List.getElem?_eq_getElem (by omega)⟩
      have c5 := (hrow2.cellAt (k * 8 + 5) (by omega)).trans hz5
      have q5 := hrow2.frozenAt (k * 8 + 5)
      obtain ⟨z6, hz6⟩ : ∃ u, xs[k * 8 + 6]? = some u := ⟨_, List.getElem?_eq_getElem (by omega)⟩
      have c6 := (hrow2.cellAt (k * 8 + 6) (by omega)).trans hz6
      have q6 := hrow2.frozenAt (k * 8 + 6)
      obtain ⟨z7, hz7⟩ : ∃ u, xs[k * 8 + 7]? = some u := ⟨_, List.getElem?_eq_getElem (by omega)⟩
      have c7 := (hrow2.cellAt (k * 8 + 7) (by omega)).trans hz7
      have q7 := hrow2.frozenAt (k * 8 + 7)
      have H2 : Hid (w2.ownsRow W.heap.size 56 8 (.slice (some ⟨W.heap.size, 0, none⟩) rs.length rs.length) rs.length xs) := hrow2
      have H3 := (show Hid (OwnQ w2 (W.heap.size + 1) (qs ++ [⟨a, b, c, d, us, .slice ua up.length uc, up, ds, .slice da dn.length dc, dn⟩])) from hq2)
      clear hrow hrow2 k2 hru hrd hum hmid hq2 x0 x1 x2 x3 x4 x5 x6 x7
      go_wp2
      go_roundw
      case rel =>
        have hl := HL.out
        have r1 := (H2.out.stored (k * 8) (.int .i64 a)).1
        have r2 := (r1.stored (k * 8 + 1) (.int .i64 b)).1
        have r3 := (r2.stored (k * 8 + 2) (.int .i64 c)).1
        have r4 := (r3.stored (k * 8 + 3) (.int .i64 d)).1
        have r5 := (r4.stored (k * 8 + 4) (.string us)).1
        have r6 := (r5.stored (k * 8 + 5) (.slice ua up.length uc)).1
        have r7 := (r6.stored (k * 8 + 6) (.string ds)).1
        have r8 := (r7.stored (k * 8 + 7) (.slice da dn.length dc)).1
        refine ⟨k + 1, _, _, by omega, by go_num, r8, fun j hj => ?_, by rw [List.length_append, hl]; rfl, ?_, ((((((((H3.out.set (p := ⟨W.heap.size, k * 8, none⟩) (Nat.lt_succ_self _) _).set (p := ⟨W.heap.size, k * 8 + 1, none⟩) (Nat.lt_succ_self _) _).set (p := ⟨W.heap.size, k * 8 + 2, none⟩) (Nat.lt_succ_self _) _).set (p := ⟨W.heap.size, k * 8 + 3, none⟩) (Nat.lt_succ_self _) _).set (p := ⟨W.heap.size, k * 8 + 4, none⟩) (Nat.lt_succ_self _) _).set (p := ⟨W.heap.size, k * 8 + 5, none⟩) (Nat.lt_succ_self _) _).set (p := ⟨W.heap.size, k * 8 + 6, none⟩) (Nat.lt_succ_self _) _).set (p := ⟨W.heap.size, k * 8 + 7, none⟩) (Nat.lt_succ_self _) _), ?_, ((((((((b2.setCell (p := ⟨W.heap.size, k * 8, none⟩) (Nat.le_refl _) _).setCell (p := ⟨W.heap.size, k * 8 + 1, none⟩) (Nat.le_refl _) _).setCell (p := ⟨W.heap.size, k * 8 + 2, none⟩) (Nat.le_refl _) _).setCell (p := ⟨W.heap.size, k * 8 + 3, none⟩) (Nat.le_refl _) _).setCell (p := ⟨W.heap.size, k * 8 + 4, none⟩) (Nat.le_refl _) _).setCell (p := ⟨W.heap.size, k * 8 + 5, none⟩) (Nat.le_refl _) _).setCell (p := ⟨W.heap.size, k * 8 + 6, none⟩) (Nat.le_refl _) _).setCell (p := ⟨W.heap.size, k * 8 + 7, none⟩) (Nat.le_refl _) _)⟩
        · rw [set8 _ _ _ _ _ _ _ _ _ _ (by omega), cellsF_snoc]
          by_cases hj2 : k * 8 ≤ j ∧ j < k * 8 + 8
          · rw [if_pos hj2, List.getElem?_append_right (by rw [cellsF_len, hl]; omega), cellsF_len, hl]; rfl
          · rw [if_neg hj2, List.getElem?_append_left (by rw [cellsF_len, hl]; omega)]
            exact HX.out j (by omega)
        · rw [List.map_append, HQ.out, HM.out]; rfl
        · simp only [World.setCell, Array.size_modify]; exact hl2
      case measure => simp [intOf]; omega
    · have hge : (rs.length : Int) ≤ (k : Int) := by omega
      have hkr : k = rs.length := by omega
      have hxl : xs.length = rs.length * 8 := hrow.1
      have hx : xs = cellsF qs := by
        apply List.ext_getElem?
        intro j
        by_cases hj : j < k * 8
        · exact hxs j hj
        · rw [List.getElem?_eq_none (by omega), List.getElem?_eq_none (by rw [cellsF_len]; omega)]
      subst hx
      have htk : rs.take k = rs := List.take_of_length_le (by omega)
      rw [htk] at hqm
      have hql2 : qs.length = rs.length := hql.trans hkr
      go_wp2
      go_ret
      exact ⟨_, rfl, qs, hql2, by rw [hql2]; exact hrow, hqm, hqo, .inr rfl, hb⟩


end Go.Proofs.YtfmjhbdbgcgoiaaGreatDoor.ExD

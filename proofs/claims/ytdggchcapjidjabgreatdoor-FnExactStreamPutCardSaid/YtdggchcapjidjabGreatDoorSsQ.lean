/- Walks: a copy of a stream by the model. -/
import Derived.Test.YtdggchcapjidjabGreatDoorSpSs
import Derived.Test.YtdggchcapjidjabGreatDoorDrPQ
import Derived.Test.YtdggchcapjidjabGreatDoorRi
import Derived.Deep.Cut
import Derived.Deep.RegionWith
namespace Go.Proofs.YtdggchcapjidjabGreatDoor.StP
open Go.RowKit Go.Shelf Go.Proofs.YtdggchcapjidjabGreatDoor.Kit Go.Proofs.YtdggchcapjidjabGreatDoor.Tx Go.Proofs.YtdggchcapjidjabGreatDoor.Mp Go.Proofs.YtdggchcapjidjabGreatDoor.Mm Go.Proofs.YtdggchcapjidjabGreatDoor.Ms Go.Proofs.YtdggchcapjidjabGreatDoor.Nm Go.Proofs.YtdggchcapjidjabGreatDoor.App Go.Proofs.YtdggchcapjidjabGreatDoor.St Go.Proofs.YtdggchcapjidjabGreatDoor.SpA
set_option linter.unusedSimpArgs false
set_option linter.unusedVariables false

/-- appending in a region that draws: behind `wpOp_step` -/
theorem op_append {P : Program} {w : World} {ops : Array Oper} {o : Oper} {a : Act} {K : Act → World → Prop} {Q : Exit → Act → World → Prop} (hgd : o.guard = none) (s x : Operand) (t : TypeId)
    (ho : o.op = .call { callee := .builtin .append, args := #[s, x], argTypes := #[t, t] })
    (base : Nat) (e : TypeId) (i : TypeInfo) (z : Value) (size bytes : Nat) (ht : P.underlying t = some (.slice e)) (hi : P.info? e = some i) (hz : i.zero = some z)
    (hsize : i.size = size) (hby : i.bytes = bytes) (hzs : z.cells.size = size) (hsz : 0 < size)
    (v : Value) (n : Nat) (xs : List Value) (hs : a.eval s = v) (hown : w.ownsRow base e size v n xs)
    (ad : Addr) (m c : Nat) (news : List Value) (hx : a.eval x = .slice (some ad) m c) (hl : news.length = m * size) (hnews : ∀ j u, news[j]? = some u → w.cell? (ad.add j) = some u) (h1 : ∀ u ∈ news, u.oneCell' = true)
    (h63 : n + m ≤ maxLen) (hbytes : (n + m) * bytes ≤ 140737488355328) (hbase : base ≤ w.heap.size)
    (h : ∀ v' w', w'.ownsRow base e size v' (n + m) (xs ++ news) → w.grownBy w' v.ownBlock → (v'.ownBlock = v.ownBlock ∨ v'.ownBlock = some w.heap.size) → K (a.put o.dst v') w') :
    if Region.wanted o (yielded ops a.tmps) = true then Oper.wp P o a w K Q else K (a.put o.dst undef) w := by
  have hw : Region.wanted o (yielded ops a.tmps) = true := by unfold Region.wanted; rw [hgd]
  rw [if_pos hw]
  obtain ⟨v', w', hr, h2, h3, h4, h5⟩ := run_append_own_at (P := P) w base t o.type e i z size bytes ht hi hz hsize hby hzs hsz v n xs hown ad m c news hl hnews h1 h63 hbytes hbase
  unfold Oper.wp execOp
  simp only [ho, resolve, invoke, builtin, Sem.run_bind, Sem.run_pure, Result.andThen_ok, List.map_toArray, List.map_cons, List.map_nil, hs, hx, hr]
  exact h v' w' h2 h3 h5

theorem cell_keep {W W' : World} (h : Below W.heap.size W W') {p : Addr} {v : Value} (hc : W.cell? p = some v) : W'.cell? p = some v := by
  have hb : p.block < W.heap.size := by
    unfold World.cell? at hc
    cases hh : W.heap[p.block]? with
    | none => simp [hh] at hc
    | some o => exact (Array.getElem?_eq_some_iff.1 hh).1
  exact (h.cell hb).trans hc
theorem row_mono {w : World} {base base' : Nat} {e : TypeId} {size : Nat} {v : Value} {n : Nat} {xs : List Value} (h : w.ownsRow base e size v n xs) (hb : base' ≤ base) : w.ownsRow base' e size v n xs :=
  ⟨h.1, h.2.imp id fun ⟨g, cap, cur, q, hg, r⟩ => ⟨g, cap, cur, q, Nat.le_trans hb hg, r⟩⟩
/-- what stands while a stream is copied: the new row is made (2), filled (5), and laid at R (7) -/
structure Cp (W0 : World) (s : ByteArray) (ps : List (Int × ByteArray)) (R : Nat) (l : Array Bool) (x y : Value) (w' : World) : Prop where
  up : (l.getD 5 false = true → l.getD 2 false = true) ∧ (l.getD 7 false = true → l.getD 5 false = true)
  a0 : l.getD 2 false = false → Below W0.heap.size W0 w'
  a1 : l.getD 2 false = true → l.getD 5 false = false → Below W0.heap.size W0 w' ∧ w'.ownsRow W0.heap.size 79 2 x 0 [] ∧ ∃ k, x.ownBlock = some k
  a2 : l.getD 5 false = true → l.getD 7 false = false → Below W0.heap.size W0 w' ∧ w'.ownsRow W0.heap.size 79 2 y ps.length (cellsT ps) ∧ ∃ k, y.ownBlock = some k
  a3 : l.getD 7 false = true → ∃ wb, Below W0.heap.size W0 wb ∧ wb.ownsRow W0.heap.size 79 2 y ps.length (cellsT ps) ∧ (∃ k, y.ownBlock = some k) ∧ w' = (wb.setCell ⟨R, 0, none⟩ (.string s)).setCell ⟨R, 1, none⟩ y

variable {W0 : World} {s : ByteArray} {ps : List (Int × ByteArray)} {R : Nat} {l : Array Bool} {x y : Value} {w' : World}
theorem Cp.start (n : Nat) (h : Below W0.heap.size W0 w') : Cp W0 s ps R (Array.replicate n false) x y w' := by
  have e : ∀ i, (Array.replicate n false).getD i false = false := fun i => by
    cases q : (Array.replicate n false).getD i false
    · rfl
    · exact absurd q (by rw [Rg.rep_none]; decide)
  exact ⟨⟨fun q => (by rw [e] at q; cases q), fun q => (by rw [e] at q; cases q)⟩, fun _ => h, fun q => (by rw [e] at q; cases q), fun q => (by rw [e] at q; cases q), fun q => (by rw [e] at q; cases q)⟩
theorem Cp.bel (h : Cp W0 s ps R l x y w') (h7 : l.getD 7 false = false) : Below W0.heap.size W0 w' := by
  cases h2 : l.getD 2 false
  · exact h.a0 h2
  · cases h5 : l.getD 5 false
    · exact (h.a1 h2 h5).1
    · exact (h.a2 h5 h7).1
theorem Cp.other (h : Cp W0 s ps R l x y w') {i : Nat} (h1 : i ≠ 2) (h2 : i ≠ 5) (h3 : i ≠ 7) : Cp W0 s ps R (l.setIfInBounds i true) x y w' := by
  refine ⟨?_, ?_, ?_, ?_, ?_⟩
  · rw [getD_set_ne false h1, getD_set_ne false h2, getD_set_ne false h3]; exact h.up
  · rw [getD_set_ne false h1]; exact h.a0
  · rw [getD_set_ne false h1, getD_set_ne false h2]; exact h.a1
  · rw [getD_set_ne false h2, getD_set_ne false h3]; exact h.a2
  · rw [getD_set_ne false h3]; exact h.a3
theorem Cp.make (h : Cp W0 s ps R l x y w') (hs : 2 < l.size) (hn : l.getD 2 false = false) {x9 : Value} {w9 : World} (k : Below W0.heap.size w' w9) (hr : w9.ownsRow W0.heap.size 79 2 x9 0 []) (ho : ∃ k, x9.ownBlock = some k) : Cp W0 s ps R (l.setIfInBounds 2 true) x9 y w9 := by
  have h5 : l.getD 5 false = false := by
    cases q : l.getD 5 false
    · rfl
    · rw [h.up.1 q] at hn; cases hn
  have h7 : l.getD 7 false = false := by
    cases q : l.getD 7 false
    · rfl
    · rw [h.up.2 q] at h5; cases h5
  refine ⟨?_, ?_, ?_, ?_, ?_⟩
  · rw [getD_set_ne false (by decide : 2 ≠ 5), getD_set_ne false (by decide : 2 ≠ 7), h5, h7]; exact ⟨fun q => (by cases q), fun q => (by cases q)⟩
  · rw [Rg.set_same hs]; intro q; cases q
  · exact fun _ _ => ⟨(h.a0 hn).trans k, hr, ho⟩
  · rw [getD_set_ne false (by decide : 2 ≠ 5), h5]; intro q; cases q
  · rw [getD_set_ne false (by decide : 2 ≠ 7), h7]; intro q; cases q
theorem Cp.fill (h : Cp W0 s ps R l x y w') (hs : 5 < l.size) (hn : l.getD 5 false = false) (h2 : l.getD 2 false = true) {y9 : Value} {w9 : World} (k : Below W0.heap.size w' w9) (hr : w9.ownsRow W0.heap.size 79 2 y9 ps.length (cellsT ps)) (ho : ∃ k, y9.ownBlock = some k) : Cp W0 s ps R (l.setIfInBounds 5 true) x y9 w9 := by
  have h7 : l.getD 7 false = false := by
    cases q : l.getD 7 false
    · rfl
    · rw [h.up.2 q] at hn; cases hn
  refine ⟨?_, ?_, ?_, ?_, ?_⟩
  · rw [getD_set_ne false (by decide : 5 ≠ 2), getD_set_ne false (by decide : 5 ≠ 7), h7]; exact ⟨fun _ => h2, fun q => (by cases q)⟩
  · rw [getD_set_ne false (by decide : 5 ≠ 2), h2]; intro q; cases q
  · rw [Rg.set_same hs]; intro _ q; cases q
  · exact fun _ _ => ⟨(h.a1 h2 hn).1.trans k, hr, ho⟩
  · rw [getD_set_ne false (by decide : 5 ≠ 7), h7]; intro q; cases q
theorem Cp.lay (h : Cp W0 s ps R l x y w') (hs : 7 < l.size) (hn : l.getD 7 false = false) (h5 : l.getD 5 false = true) : Cp W0 s ps R (l.setIfInBounds 7 true) x y ((w'.setCell ⟨R, 0, none⟩ (.string s)).setCell ⟨R, 1, none⟩ y) := by
  refine ⟨?_, ?_, ?_, ?_, ?_⟩
  · rw [getD_set_ne false (by decide : 7 ≠ 2), getD_set_ne false (by decide : 7 ≠ 5), h5, h.up.1 h5]; exact ⟨fun _ => rfl, fun _ => rfl⟩
  · rw [getD_set_ne false (by decide : 7 ≠ 2), h.up.1 h5]; intro q; cases q
  · rw [getD_set_ne false (by decide : 7 ≠ 5), h5]; intro _ q; cases q
  · rw [Rg.set_same hs]; intro _ q; cases q
  · exact fun _ => ⟨w', (h.a2 h5 hn).1, (h.a2 h5 hn).2.1, (h.a2 h5 hn).2.2, rfl⟩
set_option maxRecDepth 8000 in
set_option maxHeartbeats 8000000 in
theorem lcopy_some (s : ByteArray) (ad : Addr) (c : Nat) (ps : List (Int × ByteArray)) (W : World) (hps : ps.length ≤ 1073741824) (hcl : ∀ j u, (cellsT ps)[j]? = some u → W.cell? (ad.add j) = some u) :
    Calls Tryz.prog 33 #[.agg #[.string s, .slice (some ad) ps.length c]] W fun r W' => ∃ v', r = .returned (.agg #[.string s, v']) ∧ W'.ownsRow W.heap.size 79 2 v' ps.length (cellsT ps) ∧ (∃ k, v'.ownBlock = some k) ∧ Below W.heap.size W W' := by
  obtain ⟨i0, hi0, hz0, hz1, hz2⟩ := info_parts infoT
  have hb0 : Below W.heap.size W ((W.alloc (.cells #[.string s, .slice (some ad) ps.length c] 26)).alloc (.cells #[.string ⟨#[]⟩, .slice none 0 0] 26)) := ((Below.refl _ _).alloc (Nat.le_refl _) _).alloc (by simp) _
  have c0 : ((W.alloc (.cells #[.string s, .slice (some ad) ps.length c] 26)).alloc (.cells #[.string ⟨#[]⟩, .slice none 0 0] 26)).cell? ⟨W.heap.size, 0, none⟩ = some (.string s) := by simp
  have c1 : ((W.alloc (.cells #[.string s, .slice (some ad) ps.length c] 26)).alloc (.cells #[.string ⟨#[]⟩, .slice none 0 0] 26)).cell? ⟨W.heap.size, 1, none⟩ = some (.slice (some ad) ps.length c) := by simp
  have r0 : ((W.alloc (.cells #[.string s, .slice (some ad) ps.length c] 26)).alloc (.cells #[.string ⟨#[]⟩, .slice none 0 0] 26)).cell? ⟨W.heap.size + 1, 0, none⟩ = some (.string ⟨#[]⟩) := by simp
  have r1 : ((W.alloc (.cells #[.string s, .slice (some ad) ps.length c] 26)).alloc (.cells #[.string ⟨#[]⟩, .slice none 0 0] 26)).cell? ⟨W.heap.size + 1, 1, none⟩ = some (.slice none 0 0) := by simp
  have rf : ∀ j, ((W.alloc (.cells #[.string s, .slice (some ad) ps.length c] 26)).alloc (.cells #[.string ⟨#[]⟩, .slice none 0 0] 26)).frozen? ⟨W.heap.size + 1, j, none⟩ = false := fun j => by simp
  have hX : W.heap.size < ((W.alloc (.cells #[.string s, .slice (some ad) ps.length c] 26)).alloc (.cells #[.string ⟨#[]⟩, .slice none 0 0] 26)).heap.size := by simp; omega
  have hR : W.heap.size + 1 < ((W.alloc (.cells #[.string s, .slice (some ad) ps.length c] 26)).alloc (.cells #[.string ⟨#[]⟩, .slice none 0 0] 26)).heap.size := by simp
  have hRW : W.heap.size ≤ W.heap.size + 1 := by omega
  go_enter Tryz.func33, Tryz.ntmps33
  go_upto_region 1 with fail
  generalize ((W.alloc (.cells #[.string s, .slice (some ad) ps.length c] 26)).alloc (.cells #[.string ⟨#[]⟩, .slice none 0 0] 26)) = W0 at *
  have hcell : ∀ j u, (cellsT ps)[j]? = some u → W0.cell? (ad.add j) = some u := fun j u hj => cell_keep hb0 (hcl j u hj)
  generalize W.heap.size + 1 = R at *
  obtain ⟨X, hXe⟩ : ∃ X, W.heap.size = X := ⟨_, rfl⟩
  rw [hXe] at c0 c1 hX ⊢
  have hmix : Tryz.prog.follows .mixedOrders = true := by kernel_rfl
  obtain ⟨VV, hVV⟩ : ∃ VV : Nat → Value, VV = fun j => [(.pointer (some ⟨X, 0, none⟩) : Value), (.string s : Value), (undef : Value), (.pointer (some ⟨X, 1, none⟩) : Value), (.slice (some ad) ps.length c : Value), (undef : Value), (undef : Value), (undef : Value)].getD j undef := ⟨_, rfl⟩
  have V0 : VV 0 = (.pointer (some ⟨X, 0, none⟩) : Value) := by rw [hVV]; rfl
  have V1 : VV 1 = (.string s : Value) := by rw [hVV]; rfl
  have V2 : VV 2 = (undef : Value) := by rw [hVV]; rfl
  have V3 : VV 3 = (.pointer (some ⟨X, 1, none⟩) : Value) := by rw [hVV]; rfl
  have V4 : VV 4 = (.slice (some ad) ps.length c : Value) := by rw [hVV]; rfl
  have V5 : VV 5 = (undef : Value) := by rw [hVV]; rfl
  have V6 : VV 6 = (undef : Value) := by rw [hVV]; rfl
  have V7 : VV 7 = (undef : Value) := by rw [hVV]; rfl
  clear hVV
  refine wp_region_any hmix ?_
  refine Ri.any_inv (I := fun l a' w' => l.size = 8 ∧ ∃ (t : Nat → Value) (x y z : Value), a' = { tmps := #[(.agg #[.string s, .slice (some ad) ps.length c] : Value), .pointer (some ⟨X, 0, none⟩), .pointer (some ⟨R, 0, none⟩), t 0, t 1, x, t 3, t 4, y, z], defers := [] } ∧ Rg.Vals l VV t ∧ Cp W0 s ps R l x y w' ∧ (l.getD 6 false = true → l.getD 5 false = true ∧ z = .agg #[.string s, y])) ?sz ?low ?step ?fin _ _ _ _ ?start (Ri.closed_none _ _ _) (Rg.left_all _)
  case sz => exact fun l a' w' h => h.1
  case start =>
    refine ⟨by simp, fun j => undef, undef, undef, undef, rfl, Rg.vals_none _ _ _, Cp.start _ (Below.refl _ _).drew, fun q => absurd q (by rw [Rg.rep_none]; decide)⟩
  case low => exact Ri.low_of (by kernel_rfl)
  case step =>
    rintro l a' w' i ⟨hsz, t, x, y, z, rfl, hv, HM, h69⟩ hcl hi
    obtain ⟨h0, op, ho, hd⟩ := mem_ready.1 hi
    have hin : i < 8 := (Array.getElem?_eq_some_iff.1 ho).1
    have hnl := Rg.not_listed h0
    have hL7 : l.getD 7 false = true → ∀ j, j < 7 → l.getD j false = true := Ri.up_of (by kernel_rfl) hcl
    clear h0 hi hcl
    have hc : i = 0 ∨ i = 1 ∨ i = 2 ∨ i = 3 ∨ i = 4 ∨ i = 5 ∨ i = 6 ∨ i = 7 := by omega
    rcases hc with rfl | rfl | rfl | rfl | rfl | rfl | rfl | rfl
    · obtain rfl : _ = op := Option.some.inj (show some _ = some op from ho)
      have nl : l.getD 0 false = false := by
        cases q : l.getD 0 false
        · rfl
        · rw [q] at hnl; cases hnl
      have n7 : l.getD 7 false = false := by
        cases q : l.getD 7 false
        · rfl
        · rw [hL7 q 0 (by omega)] at nl; cases nl
      have HW := (show Hid (Below W0.heap.size W0 w') from HM.bel n7)
      have HV := (show Hid (Rg.Vals l VV t) from hv)
      have HQ := (show Hid (Cp W0 s ps R l x y w') from HM)
      have H69 := (show Hid (l.getD 6 false = true → l.getD 5 false = true ∧ z = .agg #[.string s, y]) from h69)
      clear hv hd ho HM h69
      refine wpOp_step rfl fun K9 hK9 => ?_
      have HKK := (show Hid _ from hK9)
      clear hK9
      go_simp
      exact HKK.out _ _ ⟨by simp [hsz], fun j => if j = 0 then (.pointer (some ⟨X, 0, none⟩) : Value) else t j, x, y, z, by simp, HV.out.put 0 _ V0.symm, HQ.out.other (by decide) (by decide) (by decide), by rw [getD_set_ne false (by decide : 0 ≠ 6), getD_set_ne false (by decide : 0 ≠ 5)]; exact H69.out⟩
    · obtain rfl : _ = op := Option.some.inj (show some _ = some op from ho)
      have e0 : t 0 = (.pointer (some ⟨X, 0, none⟩) : Value) := (hv 0 (hd { on := 0, ground := .data } (by simp) rfl)).trans V0
      have nl : l.getD 1 false = false := by
        cases q : l.getD 1 false
        · rfl
        · rw [q] at hnl; cases hnl
      have n7 : l.getD 7 false = false := by
        cases q : l.getD 7 false
        · rfl
        · rw [hL7 q 1 (by omega)] at nl; cases nl
      have HW := (show Hid (Below W0.heap.size W0 w') from HM.bel n7)
      have y0 : w'.cell? ⟨X, 0, none⟩ = some (.string s) := (HW.out.cell (p := ⟨X, 0, none⟩) hX).trans c0
      have y1 : w'.cell? ⟨X, 1, none⟩ = some ((.slice (some ad) ps.length c : Value)) := (HW.out.cell (p := ⟨X, 1, none⟩) hX).trans c1
      have HV := (show Hid (Rg.Vals l VV t) from hv)
      have HQ := (show Hid (Cp W0 s ps R l x y w') from HM)
      have H69 := (show Hid (l.getD 6 false = true → l.getD 5 false = true ∧ z = .agg #[.string s, y]) from h69)
      clear hv hd ho HM h69
      refine wpOp_step rfl fun K9 hK9 => ?_
      have HKK := (show Hid _ from hK9)
      clear hK9
      go_simp
      exact HKK.out _ _ ⟨by simp [hsz], fun j => if j = 1 then (.string s : Value) else t j, x, y, z, by simp [e0], HV.out.put 1 _ V1.symm, HQ.out.other (by decide) (by decide) (by decide), by rw [getD_set_ne false (by decide : 1 ≠ 6), getD_set_ne false (by decide : 1 ≠ 5)]; exact H69.out⟩
    · obtain rfl : _ = op := Option.some.inj (show some _ = some op from ho)
      have nl : l.getD 2 false = false := by
        cases q : l.getD 2 false
        · rfl
        · rw [q] at hnl; cases hnl
      have n7 : l.getD 7 false = false := by
        cases q : l.getD 7 false
        · rfl
        · rw [hL7 q 2 (by omega)] at nl; cases nl
      have HW := (show Hid (Below W0.heap.size W0 w') from HM.bel n7)
      have HV := (show Hid (Rg.Vals l VV t) from hv)
      have HQ := (show Hid (Cp W0 s ps R l x y w') from HM)
      have H69 := (show Hid (l.getD 6 false = true → l.getD 5 false = true ∧ z = .agg #[.string s, y]) from h69)
      clear hv hd ho HM h69
      refine wpOp_step rfl fun K9 hK9 => ?_
      have HKK := (show Hid _ from hK9)
      clear hK9
      go_simp
      exact HKK.out _ _ ⟨by simp [hsz], fun j => if j = 2 then (undef : Value) else t j, _, y, z, by simp, HV.out.put 2 _ V2.symm, HQ.out.make (by omega) nl ((Below.refl _ _).alloc HW.out.size _) (World.ownsRow_made (base := W0.heap.size) (e := 79) (size := 2) w' #[] 0 HW.out.size (Nat.zero_le _) rfl) ⟨_, rfl⟩, by rw [getD_set_ne false (by decide : 2 ≠ 6), getD_set_ne false (by decide : 2 ≠ 5)]; exact H69.out⟩
    · obtain rfl : _ = op := Option.some.inj (show some _ = some op from ho)
      have nl : l.getD 3 false = false := by
        cases q : l.getD 3 false
        · rfl
        · rw [q] at hnl; cases hnl
      have n7 : l.getD 7 false = false := by
        cases q : l.getD 7 false
        · rfl
        · rw [hL7 q 3 (by omega)] at nl; cases nl
      have HW := (show Hid (Below W0.heap.size W0 w') from HM.bel n7)
      have HV := (show Hid (Rg.Vals l VV t) from hv)
      have HQ := (show Hid (Cp W0 s ps R l x y w') from HM)
      have H69 := (show Hid (l.getD 6 false = true → l.getD 5 false = true ∧ z = .agg #[.string s, y]) from h69)
      clear hv hd ho HM h69
      refine wpOp_step rfl fun K9 hK9 => ?_
      have HKK := (show Hid _ from hK9)
      clear hK9
      go_simp
      exact HKK.out _ _ ⟨by simp [hsz], fun j => if j = 3 then (.pointer (some ⟨X, 1, none⟩) : Value) else t j, x, y, z, by simp, HV.out.put 3 _ V3.symm, HQ.out.other (by decide) (by decide) (by decide), by rw [getD_set_ne false (by decide : 3 ≠ 6), getD_set_ne false (by decide : 3 ≠ 5)]; exact H69.out⟩
    · obtain rfl : _ = op := Option.some.inj (show some _ = some op from ho)
      have e3 : t 3 = (.pointer (some ⟨X, 1, none⟩) : Value) := (hv 3 (hd { on := 3, ground := .data } (by simp) rfl)).trans V3
      have nl : l.getD 4 false = false := by
        cases q : l.getD 4 false
        · rfl
        · rw [q] at hnl; cases hnl
      have n7 : l.getD 7 false = false := by
        cases q : l.getD 7 false
        · rfl
        · rw [hL7 q 4 (by omega)] at nl; cases nl
      have HW := (show Hid (Below W0.heap.size W0 w') from HM.bel n7)
      have y0 : w'.cell? ⟨X, 0, none⟩ = some (.string s) := (HW.out.cell (p := ⟨X, 0, none⟩) hX).trans c0
      have y1 : w'.cell? ⟨X, 1, none⟩ = some ((.slice (some ad) ps.length c : Value)) := (HW.out.cell (p := ⟨X, 1, none⟩) hX).trans c1
      have HV := (show Hid (Rg.Vals l VV t) from hv)
      have HQ := (show Hid (Cp W0 s ps R l x y w') from HM)
      have H69 := (show Hid (l.getD 6 false = true → l.getD 5 false = true ∧ z = .agg #[.string s, y]) from h69)
      clear hv hd ho HM h69
      refine wpOp_step rfl fun K9 hK9 => ?_
      have HKK := (show Hid _ from hK9)
      clear hK9
      go_simp
      exact HKK.out _ _ ⟨by simp [hsz], fun j => if j = 4 then (.slice (some ad) ps.length c : Value) else t j, x, y, z, by simp [e3], HV.out.put 4 _ V4.symm, HQ.out.other (by decide) (by decide) (by decide), by rw [getD_set_ne false (by decide : 4 ≠ 6), getD_set_ne false (by decide : 4 ≠ 5)]; exact H69.out⟩
    · obtain rfl : _ = op := Option.some.inj (show some _ = some op from ho)
      have q2 : l.getD 2 false = true := hd { on := 2, ground := .data } (by simp) rfl
      have e4 : t 4 = (.slice (some ad) ps.length c : Value) := (hv 4 (hd { on := 4, ground := .data } (by simp) rfl)).trans V4
      have nl : l.getD 5 false = false := by
        cases q : l.getD 5 false
        · rfl
        · rw [q] at hnl; cases hnl
      have n7 : l.getD 7 false = false := by
        cases q : l.getD 7 false
        · rfl
        · rw [hL7 q 5 (by omega)] at nl; cases nl
      have HW := (show Hid (Below W0.heap.size W0 w') from HM.bel n7)
      have HV := (show Hid (Rg.Vals l VV t) from hv)
      have HQ := (show Hid (Cp W0 s ps R l x y w') from HM)
      have H69 := (show Hid (l.getD 6 false = true → l.getD 5 false = true ∧ z = .agg #[.string s, y]) from h69)
      have hrow := (HM.a1 q2 nl).2.1
      have hown2 := (HM.a1 q2 nl).2.2
      clear hv hd ho HM h69
      refine wpOp_step rfl fun K9 hK9 => ?_
      have HKK := (show Hid _ from hK9)
      clear hK9
      rw [e4]
      refine op_append rfl _ _ 24 rfl W0.heap.size 79 i0 (.agg #[.int .i64 0, .string ByteArray.empty]) 2 24 Tryz.underlying24 hi0 hz0 hz1 hz2 rfl (by decide) x 0 [] rfl hrow ad ps.length c (cellsT ps) rfl (cellsT_len ps) (fun j u hj => cell_keep HW.out (hcell j u hj)) (cellsT_one ps) (by unfold maxLen; omega) (by omega) HW.out.size ?_
      intro v9 w9 hown9 hgr hwn
      have hk9 : Below W0.heap.size w' w9 := grown_below hgr HW.out.size (fun k hk => (hrow.lt k hk).1)
      have ho9 : ∃ k, v9.ownBlock = some k := by
        rcases hwn with q | q
        · rw [q]; exact hown2
        · exact ⟨_, q⟩
      exact HKK.out _ _ ⟨by simp [hsz], fun j => if j = 5 then (undef : Value) else t j, x, v9, z, by simp [e4, Act.put], HV.out.put 5 _ V5.symm, HQ.out.fill (by omega) nl q2 hk9 (by simpa using hown9) ho9, fun q => by rw [getD_set_ne false (by decide : 5 ≠ 6)] at q; rw [(H69.out q).1] at nl; cases nl⟩
    · obtain rfl : _ = op := Option.some.inj (show some _ = some op from ho)
      have e1 : t 1 = (.string s : Value) := (hv 1 (hd { on := 1, ground := .data } (by simp) rfl)).trans V1
      have q5 : l.getD 5 false = true := hd { on := 5, ground := .data } (by simp) rfl
      have nl : l.getD 6 false = false := by
        cases q : l.getD 6 false
        · rfl
        · rw [q] at hnl; cases hnl
      have n7 : l.getD 7 false = false := by
        cases q : l.getD 7 false
        · rfl
        · rw [hL7 q 6 (by omega)] at nl; cases nl
      have HW := (show Hid (Below W0.heap.size W0 w') from HM.bel n7)
      obtain ⟨_, hy, _⟩ := HM.a2 q5 n7
      obtain ⟨a5, c5, rfl⟩ := row_slice hy
      clear hy
      have HV := (show Hid (Rg.Vals l VV t) from hv)
      have HQ := (show Hid (Cp W0 s ps R l x (.slice a5 ps.length c5) w') from HM)
      have H69 := (show Hid (l.getD 6 false = true → l.getD 5 false = true ∧ z = .agg #[.string s, (.slice a5 ps.length c5)]) from h69)
      clear hv hd ho HM h69
      refine wpOp_step rfl fun K9 hK9 => ?_
      have HKK := (show Hid _ from hK9)
      clear hK9
      rw [e1]
      go_simp
      exact HKK.out _ _ ⟨by simp [hsz], fun j => if j = 6 then (undef : Value) else t j, x, (.slice a5 ps.length c5), (.agg #[.string s, .slice a5 ps.length c5]), by simp [e1], HV.out.put 6 _ V6.symm, HQ.out.other (by decide) (by decide) (by decide), fun _ => ⟨by rw [getD_set_ne false (by decide : 6 ≠ 5)]; exact q5, rfl⟩⟩
    · obtain rfl : _ = op := Option.some.inj (show some _ = some op from ho)
      have q6 : l.getD 6 false = true := hd { on := 6, ground := .data } (by simp) rfl
      have nl : l.getD 7 false = false := by
        cases q : l.getD 7 false
        · rfl
        · rw [q] at hnl; cases hnl
      have HW := (show Hid (Below W0.heap.size W0 w') from HM.bel nl)
      obtain ⟨q5, rfl⟩ := h69 q6
      obtain ⟨_, hy, _⟩ := HM.a2 q5 nl
      obtain ⟨a5, c5, rfl⟩ := row_slice hy
      have y0 : w'.cell? ⟨R, 0, none⟩ = some (.string ⟨#[]⟩) := (HW.out.cell (p := ⟨R, 0, none⟩) hR).trans r0
      have y1 : w'.cell? ⟨R, 1, none⟩ = some (.slice none 0 0) := (HW.out.cell (p := ⟨R, 1, none⟩) hR).trans r1
      have yf : ∀ j, w'.frozen? ⟨R, j, none⟩ = false := fun j => (HW.out.frozen (p := ⟨R, j, none⟩) hR).trans (rf j)
      clear hy
      have HV := (show Hid (Rg.Vals l VV t) from hv)
      have HQ := (show Hid (Cp W0 s ps R l x (.slice a5 ps.length c5) w') from HM)
      have H69 := (show Hid (l.getD 6 false = true → l.getD 5 false = true ∧ (.agg #[.string s, .slice a5 ps.length c5] : Value) = .agg #[.string s, (.slice a5 ps.length c5)]) from fun _ => ⟨q5, rfl⟩)
      clear hv hd ho HM h69
      refine wpOp_step rfl fun K9 hK9 => ?_
      have HKK := (show Hid _ from hK9)
      clear hK9
      go_simp
      exact HKK.out _ _ ⟨by simp [hsz], fun j => if j = 7 then (undef : Value) else t j, x, (.slice a5 ps.length c5), (.agg #[.string s, .slice a5 ps.length c5]), by simp, HV.out.put 7 _ V7.symm, HQ.out.lay (by omega) nl q5, by rw [getD_set_ne false (by decide : 7 ≠ 6), getD_set_ne false (by decide : 7 ≠ 5)]; exact H69.out⟩
  case fin =>
    rintro l a' w' ⟨hsz, t, x, y, z, rfl, hv, HM, h69⟩ hall
    obtain ⟨wb, k9, hrow, hown, rfl⟩ := HM.a3 (hall 7 (by simp))
    have q0 : wb.cell? ⟨R, 0, none⟩ = some (.string ⟨#[]⟩) := (k9.cell (p := ⟨R, 0, none⟩) hR).trans r0
    have q1 : wb.cell? ⟨R, 1, none⟩ = some (.slice none 0 0) := (k9.cell (p := ⟨R, 1, none⟩) hR).trans r1
    have q := set_two q0 q1 (.string s) y
    clear hv hall h69 HM
    go_wp2
    refine bodyPost_ret (v := .agg #[.string s, y]) ?_ rfl ?_
    · simp [results, Tryz.results33, go_sem, q.1, q.2]
    · have hne : ∀ k, y.ownBlock = some k → k ≠ R := fun k hk e => by have := (hrow.lt k hk).1; omega
      exact ⟨y, rfl, row_mono (ownsRow_setCell_other (ownsRow_setCell_other hrow (a := ⟨R, 0, none⟩) (fun e => hne _ e rfl) _) (a := ⟨R, 1, none⟩) (fun e => hne _ e rfl) _) hb0.size, hown, (((hb0.trans (k9.mono hb0.size)).setCell (p := ⟨R, 0, none⟩) hRW _).setCell (p := ⟨R, 1, none⟩) hRW _)⟩
set_option maxRecDepth 8000 in
set_option maxHeartbeats 8000000 in
theorem lcopy_none (s : ByteArray)  (c : Nat) (ps : List (Int × ByteArray)) (W : World) (hps : ps.length ≤ 1073741824) (hz : Hid (ps = [])) :
    Calls Tryz.prog 33 #[.agg #[.string s, .slice none ps.length c]] W fun r W' => ∃ v', r = .returned (.agg #[.string s, v']) ∧ W'.ownsRow W.heap.size 79 2 v' ps.length (cellsT ps) ∧ (∃ k, v'.ownBlock = some k) ∧ Below W.heap.size W W' := by
  obtain ⟨i0, hi0, hz0, hz1, hz2⟩ := info_parts infoT
  have hb0 : Below W.heap.size W ((W.alloc (.cells #[.string s, .slice none ps.length c] 26)).alloc (.cells #[.string ⟨#[]⟩, .slice none 0 0] 26)) := ((Below.refl _ _).alloc (Nat.le_refl _) _).alloc (by simp) _
  have c0 : ((W.alloc (.cells #[.string s, .slice none ps.length c] 26)).alloc (.cells #[.string ⟨#[]⟩, .slice none 0 0] 26)).cell? ⟨W.heap.size, 0, none⟩ = some (.string s) := by simp
  have c1 : ((W.alloc (.cells #[.string s, .slice none ps.length c] 26)).alloc (.cells #[.string ⟨#[]⟩, .slice none 0 0] 26)).cell? ⟨W.heap.size, 1, none⟩ = some (.slice none ps.length c) := by simp
  have r0 : ((W.alloc (.cells #[.string s, .slice none ps.length c] 26)).alloc (.cells #[.string ⟨#[]⟩, .slice none 0 0] 26)).cell? ⟨W.heap.size + 1, 0, none⟩ = some (.string ⟨#[]⟩) := by simp
  have r1 : ((W.alloc (.cells #[.string s, .slice none ps.length c] 26)).alloc (.cells #[.string ⟨#[]⟩, .slice none 0 0] 26)).cell? ⟨W.heap.size + 1, 1, none⟩ = some (.slice none 0 0) := by simp
  have rf : ∀ j, ((W.alloc (.cells #[.string s, .slice none ps.length c] 26)).alloc (.cells #[.string ⟨#[]⟩, .slice none 0 0] 26)).frozen? ⟨W.heap.size + 1, j, none⟩ = false := fun j => by simp
  have hX : W.heap.size < ((W.alloc (.cells #[.string s, .slice none ps.length c] 26)).alloc (.cells #[.string ⟨#[]⟩, .slice none 0 0] 26)).heap.size := by simp; omega
  have hR : W.heap.size + 1 < ((W.alloc (.cells #[.string s, .slice none ps.length c] 26)).alloc (.cells #[.string ⟨#[]⟩, .slice none 0 0] 26)).heap.size := by simp
  have hRW : W.heap.size ≤ W.heap.size + 1 := by omega
  go_enter Tryz.func33, Tryz.ntmps33
  go_upto_region 1 with fail
  generalize ((W.alloc (.cells #[.string s, .slice none ps.length c] 26)).alloc (.cells #[.string ⟨#[]⟩, .slice none 0 0] 26)) = W0 at *
  generalize W.heap.size + 1 = R at *
  obtain ⟨X, hXe⟩ : ∃ X, W.heap.size = X := ⟨_, rfl⟩
  rw [hXe] at c0 c1 hX ⊢
  have hmix : Tryz.prog.follows .mixedOrders = true := by kernel_rfl
  obtain ⟨VV, hVV⟩ : ∃ VV : Nat → Value, VV = fun j => [(.pointer (some ⟨X, 0, none⟩) : Value), (.string s : Value), (undef : Value), (.pointer (some ⟨X, 1, none⟩) : Value), (.slice none ps.length c : Value), (undef : Value), (undef : Value), (undef : Value)].getD j undef := ⟨_, rfl⟩
  have V0 : VV 0 = (.pointer (some ⟨X, 0, none⟩) : Value) := by rw [hVV]; rfl
  have V1 : VV 1 = (.string s : Value) := by rw [hVV]; rfl
  have V2 : VV 2 = (undef : Value) := by rw [hVV]; rfl
  have V3 : VV 3 = (.pointer (some ⟨X, 1, none⟩) : Value) := by rw [hVV]; rfl
  have V4 : VV 4 = (.slice none ps.length c : Value) := by rw [hVV]; rfl
  have V5 : VV 5 = (undef : Value) := by rw [hVV]; rfl
  have V6 : VV 6 = (undef : Value) := by rw [hVV]; rfl
  have V7 : VV 7 = (undef : Value) := by rw [hVV]; rfl
  clear hVV
  refine wp_region_any hmix ?_
  refine Ri.any_inv (I := fun l a' w' => l.size = 8 ∧ ∃ (t : Nat → Value) (x y z : Value), a' = { tmps := #[(.agg #[.string s, .slice none ps.length c] : Value), .pointer (some ⟨X, 0, none⟩), .pointer (some ⟨R, 0, none⟩), t 0, t 1, x, t 3, t 4, y, z], defers := [] } ∧ Rg.Vals l VV t ∧ Cp W0 s ps R l x y w' ∧ (l.getD 6 false = true → l.getD 5 false = true ∧ z = .agg #[.string s, y])) ?sz ?low ?step ?fin _ _ _ _ ?start (Ri.closed_none _ _ _) (Rg.left_all _)
  case sz => exact fun l a' w' h => h.1
  case start =>
    refine ⟨by simp, fun j => undef, undef, undef, undef, rfl, Rg.vals_none _ _ _, Cp.start _ (Below.refl _ _).drew, fun q => absurd q (by rw [Rg.rep_none]; decide)⟩
  case low => exact Ri.low_of (by kernel_rfl)
  case step =>
    rintro l a' w' i ⟨hsz, t, x, y, z, rfl, hv, HM, h69⟩ hcl hi
    obtain ⟨h0, op, ho, hd⟩ := mem_ready.1 hi
    have hin : i < 8 := (Array.getElem?_eq_some_iff.1 ho).1
    have hnl := Rg.not_listed h0
    have hL7 : l.getD 7 false = true → ∀ j, j < 7 → l.getD j false = true := Ri.up_of (by kernel_rfl) hcl
    clear h0 hi hcl
    have hc : i = 0 ∨ i = 1 ∨ i = 2 ∨ i = 3 ∨ i = 4 ∨ i = 5 ∨ i = 6 ∨ i = 7 := by omega
    rcases hc with rfl | rfl | rfl | rfl | rfl | rfl | rfl | rfl
    · obtain rfl : _ = op := Option.some.inj (show some _ = some op from ho)
      have nl : l.getD 0 false = false := by
        cases q : l.getD 0 false
        · rfl
        · rw [q] at hnl; cases hnl
      have n7 : l.getD 7 false = false := by
        cases q : l.getD 7 false
        · rfl
        · rw [hL7 q 0 (by omega)] at nl; cases nl
      have HW := (show Hid (Below W0.heap.size W0 w') from HM.bel n7)
      have HV := (show Hid (Rg.Vals l VV t) from hv)
      have HQ := (show Hid (Cp W0 s ps R l x y w') from HM)
      have H69 := (show Hid (l.getD 6 false = true → l.getD 5 false = true ∧ z = .agg #[.string s, y]) from h69)
      clear hv hd ho HM h69
      refine wpOp_step rfl fun K9 hK9 => ?_
      have HKK := (show Hid _ from hK9)
      clear hK9
      go_simp
      exact HKK.out _ _ ⟨by simp [hsz], fun j => if j = 0 then (.pointer (some ⟨X, 0, none⟩) : Value) else t j, x, y, z, by simp, HV.out.put 0 _ V0.symm, HQ.out.other (by decide) (by decide) (by decide), by rw [getD_set_ne false (by decide : 0 ≠ 6), getD_set_ne false (by decide : 0 ≠ 5)]; exact H69.out⟩
    · obtain rfl : _ = op := Option.some.inj (show some _ = some op from ho)
      have e0 : t 0 = (.pointer (some ⟨X, 0, none⟩) : Value) := (hv 0 (hd { on := 0, ground := .data } (by simp) rfl)).trans V0
      have nl : l.getD 1 false = false := by
        cases q : l.getD 1 false
        · rfl
        · rw [q] at hnl; cases hnl
      have n7 : l.getD 7 false = false := by
        cases q : l.getD 7 false
        · rfl
        · rw [hL7 q 1 (by omega)] at nl; cases nl
      have HW := (show Hid (Below W0.heap.size W0 w') from HM.bel n7)
      have y0 : w'.cell? ⟨X, 0, none⟩ = some (.string s) := (HW.out.cell (p := ⟨X, 0, none⟩) hX).trans c0
      have y1 : w'.cell? ⟨X, 1, none⟩ = some ((.slice none ps.length c : Value)) := (HW.out.cell (p := ⟨X, 1, none⟩) hX).trans c1
      have HV := (show Hid (Rg.Vals l VV t) from hv)
      have HQ := (show Hid (Cp W0 s ps R l x y w') from HM)
      have H69 := (show Hid (l.getD 6 false = true → l.getD 5 false = true ∧ z = .agg #[.string s, y]) from h69)
      clear hv hd ho HM h69
      refine wpOp_step rfl fun K9 hK9 => ?_
      have HKK := (show Hid _ from hK9)
      clear hK9
      go_simp
      exact HKK.out _ _ ⟨by simp [hsz], fun j => if j = 1 then (.string s : Value) else t j, x, y, z, by simp [e0], HV.out.put 1 _ V1.symm, HQ.out.other (by decide) (by decide) (by decide), by rw [getD_set_ne false (by decide : 1 ≠ 6), getD_set_ne false (by decide : 1 ≠ 5)]; exact H69.out⟩
    · obtain rfl : _ = op := Option.some.inj (show some _ = some op from ho)
      have nl : l.getD 2 false = false := by
        cases q : l.getD 2 false
        · rfl
        · rw [q] at hnl; cases hnl
      have n7 : l.getD 7 false = false := by
        cases q : l.getD 7 false
        · rfl
        · rw [hL7 q 2 (by omega)] at nl; cases nl
      have HW := (show Hid (Below W0.heap.size W0 w') from HM.bel n7)
      have HV := (show Hid (Rg.Vals l VV t) from hv)
      have HQ := (show Hid (Cp W0 s ps R l x y w') from HM)
      have H69 := (show Hid (l.getD 6 false = true → l.getD 5 false = true ∧ z = .agg #[.string s, y]) from h69)
      clear hv hd ho HM h69
      refine wpOp_step rfl fun K9 hK9 => ?_
      have HKK := (show Hid _ from hK9)
      clear hK9
      go_simp
      exact HKK.out _ _ ⟨by simp [hsz], fun j => if j = 2 then (undef : Value) else t j, _, y, z, by simp, HV.out.put 2 _ V2.symm, HQ.out.make (by omega) nl ((Below.refl _ _).alloc HW.out.size _) (World.ownsRow_made (base := W0.heap.size) (e := 79) (size := 2) w' #[] 0 HW.out.size (Nat.zero_le _) rfl) ⟨_, rfl⟩, by rw [getD_set_ne false (by decide : 2 ≠ 6), getD_set_ne false (by decide : 2 ≠ 5)]; exact H69.out⟩
    · obtain rfl : _ = op := Option.some.inj (show some _ = some op from ho)
      have nl : l.getD 3 false = false := by
        cases q : l.getD 3 false
        · rfl
        · rw [q] at hnl; cases hnl
      have n7 : l.getD 7 false = false := by
        cases q : l.getD 7 false
        · rfl
        · rw [hL7 q 3 (by omega)] at nl; cases nl
      have HW := (show Hid (Below W0.heap.size W0 w') from HM.bel n7)
      have HV := (show Hid (Rg.Vals l VV t) from hv)
      have HQ := (show Hid (Cp W0 s ps R l x y w') from HM)
      have H69 := (show Hid (l.getD 6 false = true → l.getD 5 false = true ∧ z = .agg #[.string s, y]) from h69)
      clear hv hd ho HM h69
      refine wpOp_step rfl fun K9 hK9 => ?_
      have HKK := (show Hid _ from hK9)
      clear hK9
      go_simp
      exact HKK.out _ _ ⟨by simp [hsz], fun j => if j = 3 then (.pointer (some ⟨X, 1, none⟩) : Value) else t j, x, y, z, by simp, HV.out.put 3 _ V3.symm, HQ.out.other (by decide) (by decide) (by decide), by rw [getD_set_ne false (by decide : 3 ≠ 6), getD_set_ne false (by decide : 3 ≠ 5)]; exact H69.out⟩
    · obtain rfl : _ = op := Option.some.inj (show some _ = some op from ho)
      have e3 : t 3 = (.pointer (some ⟨X, 1, none⟩) : Value) := (hv 3 (hd { on := 3, ground := .data } (by simp) rfl)).trans V3
      have nl : l.getD 4 false = false := by
        cases q : l.getD 4 false
        · rfl
        · rw [q] at hnl; cases hnl
      have n7 : l.getD 7 false = false := by
        cases q : l.getD 7 false
        · rfl
        · rw [hL7 q 4 (by omega)] at nl; cases nl
      have HW := (show Hid (Below W0.heap.size W0 w') from HM.bel n7)
      have y0 : w'.cell? ⟨X, 0, none⟩ = some (.string s) := (HW.out.cell (p := ⟨X, 0, none⟩) hX).trans c0
      have y1 : w'.cell? ⟨X, 1, none⟩ = some ((.slice none ps.length c : Value)) := (HW.out.cell (p := ⟨X, 1, none⟩) hX).trans c1
      have HV := (show Hid (Rg.Vals l VV t) from hv)
      have HQ := (show Hid (Cp W0 s ps R l x y w') from HM)
      have H69 := (show Hid (l.getD 6 false = true → l.getD 5 false = true ∧ z = .agg #[.string s, y]) from h69)
      clear hv hd ho HM h69
      refine wpOp_step rfl fun K9 hK9 => ?_
      have HKK := (show Hid _ from hK9)
      clear hK9
      go_simp
      exact HKK.out _ _ ⟨by simp [hsz], fun j => if j = 4 then (.slice none ps.length c : Value) else t j, x, y, z, by simp [e3], HV.out.put 4 _ V4.symm, HQ.out.other (by decide) (by decide) (by decide), by rw [getD_set_ne false (by decide : 4 ≠ 6), getD_set_ne false (by decide : 4 ≠ 5)]; exact H69.out⟩
    · obtain rfl : _ = op := Option.some.inj (show some _ = some op from ho)
      have q2 : l.getD 2 false = true := hd { on := 2, ground := .data } (by simp) rfl
      have e4 : t 4 = (.slice none ps.length c : Value) := (hv 4 (hd { on := 4, ground := .data } (by simp) rfl)).trans V4
      have nl : l.getD 5 false = false := by
        cases q : l.getD 5 false
        · rfl
        · rw [q] at hnl; cases hnl
      have n7 : l.getD 7 false = false := by
        cases q : l.getD 7 false
        · rfl
        · rw [hL7 q 5 (by omega)] at nl; cases nl
      have HW := (show Hid (Below W0.heap.size W0 w') from HM.bel n7)
      have HV := (show Hid (Rg.Vals l VV t) from hv)
      have HQ := (show Hid (Cp W0 s ps R l x y w') from HM)
      have H69 := (show Hid (l.getD 6 false = true → l.getD 5 false = true ∧ z = .agg #[.string s, y]) from h69)
      have hrow := (HM.a1 q2 nl).2.1
      have hown2 := (HM.a1 q2 nl).2.2
      have hz9 := hz.out
      subst hz9
      obtain ⟨xa, xc, rfl⟩ := row_slice hrow
      obtain ⟨xk, hxk⟩ := hown2
      obtain ⟨xg, rfl⟩ : ∃ xg, xa = some xg := by cases xa with | none => cases hxk | some g => exact ⟨g, rfl⟩
      clear hv hd ho HM h69
      refine wpOp_step rfl fun K9 hK9 => ?_
      have HKK := (show Hid _ from hK9)
      clear hK9
      go_simp
      exact HKK.out _ _ ⟨by simp [hsz], fun j => if j = 5 then (undef : Value) else t j, (.slice (some xg) 0 xc), (.slice (some xg) 0 xc), z, by simp [e4], HV.out.put 5 _ V5.symm, HQ.out.fill (by omega) nl q2 (Below.refl _ _) (by simpa [cellsT] using hrow) ⟨_, rfl⟩, fun q => by rw [getD_set_ne false (by decide : 5 ≠ 6)] at q; rw [(H69.out q).1] at nl; cases nl⟩
    · obtain rfl : _ = op := Option.some.inj (show some _ = some op from ho)
      have e1 : t 1 = (.string s : Value) := (hv 1 (hd { on := 1, ground := .data } (by simp) rfl)).trans V1
      have q5 : l.getD 5 false = true := hd { on := 5, ground := .data } (by simp) rfl
      have nl : l.getD 6 false = false := by
        cases q : l.getD 6 false
        · rfl
        · rw [q] at hnl; cases hnl
      have n7 : l.getD 7 false = false := by
        cases q : l.getD 7 false
        · rfl
        · rw [hL7 q 6 (by omega)] at nl; cases nl
      have HW := (show Hid (Below W0.heap.size W0 w') from HM.bel n7)
      obtain ⟨_, hy, _⟩ := HM.a2 q5 n7
      obtain ⟨a5, c5, rfl⟩ := row_slice hy
      clear hy
      have HV := (show Hid (Rg.Vals l VV t) from hv)
      have HQ := (show Hid (Cp W0 s ps R l x (.slice a5 ps.length c5) w') from HM)
      have H69 := (show Hid (l.getD 6 false = true → l.getD 5 false = true ∧ z = .agg #[.string s, (.slice a5 ps.length c5)]) from h69)
      clear hv hd ho HM h69
      refine wpOp_step rfl fun K9 hK9 => ?_
      have HKK := (show Hid _ from hK9)
      clear hK9
      rw [e1]
      go_simp
      exact HKK.out _ _ ⟨by simp [hsz], fun j => if j = 6 then (undef : Value) else t j, x, (.slice a5 ps.length c5), (.agg #[.string s, .slice a5 ps.length c5]), by simp [e1], HV.out.put 6 _ V6.symm, HQ.out.other (by decide) (by decide) (by decide), fun _ => ⟨by rw [getD_set_ne false (by decide : 6 ≠ 5)]; exact q5, rfl⟩⟩
    · obtain rfl : _ = op := Option.some.inj (show some _ = some op from ho)
      have q6 : l.getD 6 false = true := hd { on := 6, ground := .data } (by simp) rfl
      have nl : l.getD 7 false = false := by
        cases q : l.getD 7 false
        · rfl
        · rw [q] at hnl; cases hnl
      have HW := (show Hid (Below W0.heap.size W0 w') from HM.bel nl)
      obtain ⟨q5, rfl⟩ := h69 q6
      obtain ⟨_, hy, _⟩ := HM.a2 q5 nl
      obtain ⟨a5, c5, rfl⟩ := row_slice hy
      have y0 : w'.cell? ⟨R, 0, none⟩ = some (.string ⟨#[]⟩) := (HW.out.cell (p := ⟨R, 0, none⟩) hR).trans r0
      have y1 : w'.cell? ⟨R, 1, none⟩ = some (.slice none 0 0) := (HW.out.cell (p := ⟨R, 1, none⟩) hR).trans r1
      have yf : ∀ j, w'.frozen? ⟨R, j, none⟩ = false := fun j => (HW.out.frozen (p := ⟨R, j, none⟩) hR).trans (rf j)
      clear hy
      have HV := (show Hid (Rg.Vals l VV t) from hv)
      have HQ := (show Hid (Cp W0 s ps R l x (.slice a5 ps.length c5) w') from HM)
      have H69 := (show Hid (l.getD 6 false = true → l.getD 5 false = true ∧ (.agg #[.string s, .slice a5 ps.length c5] : Value) = .agg #[.string s, (.slice a5 ps.length c5)]) from fun _ => ⟨q5, rfl⟩)
      clear hv hd ho HM h69
      refine wpOp_step rfl fun K9 hK9 => ?_
      have HKK := (show Hid _ from hK9)
      clear hK9
      go_simp
      exact HKK.out _ _ ⟨by simp [hsz], fun j => if j = 7 then (undef : Value) else t j, x, (.slice a5 ps.length c5), (.agg #[.string s, .slice a5 ps.length c5]), by simp, HV.out.put 7 _ V7.symm, HQ.out.lay (by omega) nl q5, by rw [getD_set_ne false (by decide : 7 ≠ 6), getD_set_ne false (by decide : 7 ≠ 5)]; exact H69.out⟩
  case fin =>
    rintro l a' w' ⟨hsz, t, x, y, z, rfl, hv, HM, h69⟩ hall
    obtain ⟨wb, k9, hrow, hown, rfl⟩ := HM.a3 (hall 7 (by simp))
    have q0 : wb.cell? ⟨R, 0, none⟩ = some (.string ⟨#[]⟩) := (k9.cell (p := ⟨R, 0, none⟩) hR).trans r0
    have q1 : wb.cell? ⟨R, 1, none⟩ = some (.slice none 0 0) := (k9.cell (p := ⟨R, 1, none⟩) hR).trans r1
    have q := set_two q0 q1 (.string s) y
    clear hv hall h69 HM
    go_wp2
    refine bodyPost_ret (v := .agg #[.string s, y]) ?_ rfl ?_
    · simp [results, Tryz.results33, go_sem, q.1, q.2]
    · have hne : ∀ k, y.ownBlock = some k → k ≠ R := fun k hk e => by have := (hrow.lt k hk).1; omega
      exact ⟨y, rfl, row_mono (ownsRow_setCell_other (ownsRow_setCell_other hrow (a := ⟨R, 0, none⟩) (fun e => hne _ e rfl) _) (a := ⟨R, 1, none⟩) (fun e => hne _ e rfl) _) hb0.size, hown, (((hb0.trans (k9.mono hb0.size)).setCell (p := ⟨R, 0, none⟩) hRW _).setCell (p := ⟨R, 1, none⟩) hRW _)⟩
theorem lcopy_any (s : ByteArray) (v : Value) (ps : List (Int × ByteArray)) (W : World) (hT : IsT W v ps) (hps : ps.length ≤ 1073741824) :
    Calls Tryz.prog 33 #[.agg #[.string s, v]] W fun r W' => ∃ v', r = .returned (.agg #[.string s, v']) ∧ W'.ownsRow W.heap.size 79 2 v' ps.length (cellsT ps) ∧ (∃ k, v'.ownBlock = some k) ∧ Below W.heap.size W W' := by
  obtain ⟨a, c, rfl, h1, h2, h3⟩ := hT
  rcases h3 with rfl | ⟨g, o, rfl, hat⟩
  · cases a with
    | none => exact lcopy_none s c [] W hps rfl
    | some ad => exact lcopy_some s ad c [] W hps (fun j u hj => by simp [cellsT] at hj)
  · exact lcopy_some s ⟨g, o, none⟩ c ps W hps (rowT_cells hat)
end Go.Proofs.YtdggchcapjidjabGreatDoor.StP

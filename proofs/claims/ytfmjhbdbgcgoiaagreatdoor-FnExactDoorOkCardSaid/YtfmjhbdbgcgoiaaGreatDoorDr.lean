/- Lists of flows in memory: how they read. -/
import Derived.Test.YtfmjhbdbgcgoiaaGreatDoorPt
import Derived.Test.YtfmjhbdbgcgoiaaGreatDoorApp
namespace Go.Proofs.YtfmjhbdbgcgoiaaGreatDoor.Dr
open Go.RowKit Go.Proofs.YtfmjhbdbgcgoiaaGreatDoor.Kit Go.Proofs.YtfmjhbdbgcgoiaaGreatDoor.St Go.Proofs.YtfmjhbdbgcgoiaaGreatDoor.App
set_option linter.unusedSimpArgs false
set_option linter.unusedVariables false

/-- a flow, as it lies in memory, and what its two lists of parts read as -/
structure RF where
  a : Int
  b : Int
  c : Int
  d : Int
  us : ByteArray
  uv : Value
  up : List (Int × ByteArray)
  ds : ByteArray
  dv : Value
  dn : List (Int × ByteArray)
def RF.cells (r : RF) : List Value := [.int .i64 r.a, .int .i64 r.b, .int .i64 r.c, .int .i64 r.d, .string r.us, r.uv, .string r.ds, r.dv]
/-- what a flow means -/
def RF.mean (r : RF) : (Int × Int) × (Int × Int) × (ByteArray × List (Int × ByteArray)) × (ByteArray × List (Int × ByteArray)) := ((r.a, r.b), (r.c, r.d), (r.us, r.up), (r.ds, r.dn))
def cellsF (rs : List RF) : List Value := rs.flatMap RF.cells
theorem cellsF_cons (r : RF) (rs : List RF) : cellsF (r :: rs) = r.cells ++ cellsF rs := by simp [cellsF]
theorem cellsF_snoc (rs : List RF) (r : RF) : cellsF (rs ++ [r]) = cellsF rs ++ r.cells := by simp [cellsF]
theorem cells8 (r : RF) : r.cells.length = 8 := rfl
theorem cellsF_len (rs : List RF) : (cellsF rs).length = rs.length * 8 := by
  induction rs with
  | nil => rfl
  | cons r rs ih => rw [cellsF_cons, List.length_append, cells8, ih, List.length_cons]; omega
theorem cellsF_at (rs : List RF) (i : Nat) (r : RF) (h : rs[i]? = some r) (j : Nat) (hj : j < 8) : (cellsF rs)[i * 8 + j]? = r.cells[j]? := by
  induction rs generalizing i with
  | nil => simp at h
  | cons q rs ih =>
    rw [cellsF_cons]
    cases i with
    | zero =>
      simp at h; subst h
      rw [List.getElem?_append_left (by rw [cells8]; omega), Nat.zero_mul, Nat.zero_add]
    | succ i =>
      simp at h
      rw [List.getElem?_append_right (by rw [cells8]; omega), cells8]
      rw [show (i + 1) * 8 + j - 8 = i * 8 + j by omega]
      exact ih i h
theorem infoF : (Tryz.prog.info? 56).map (fun i => (i.zero, i.size, i.bytes)) = some (some (.agg #[.int .i64 0, .int .i64 0, .int .i64 0, .int .i64 0, .string ByteArray.empty, .slice none 0 0, .string ByteArray.empty, .slice none 0 0]), 8, 112) := by kernel_rfl
theorem infoG : (Tryz.prog.info? 101).map (fun i => (i.zero, i.size, i.bytes)) = some (some (.agg #[.int .i64 0, .int .i64 0, .int .i64 0, .int .i64 0, .string ByteArray.empty, .slice none 0 0, .string ByteArray.empty, .slice none 0 0]), 8, 112) := by kernel_rfl

/-- the eight cells of a flow -/
structure At8 (W : World) (g o : Nat) (r : RF) : Prop where
  e0 : W.cell? ⟨g, o, none⟩ = some (.int .i64 r.a)
  e1 : W.cell? ⟨g, o + 1, none⟩ = some (.int .i64 r.b)
  e2 : W.cell? ⟨g, o + 2, none⟩ = some (.int .i64 r.c)
  e3 : W.cell? ⟨g, o + 3, none⟩ = some (.int .i64 r.d)
  e4 : W.cell? ⟨g, o + 4, none⟩ = some (.string r.us)
  e5 : W.cell? ⟨g, o + 5, none⟩ = some r.uv
  e6 : W.cell? ⟨g, o + 6, none⟩ = some (.string r.ds)
  e7 : W.cell? ⟨g, o + 7, none⟩ = some r.dv
theorem At8.same {W W' : World} {g o : Nat} {r : RF} (h : At8 W g o r) (k : W'.heap[g]? = W.heap[g]?) : At8 W' g o r := by
  have e : ∀ j, W'.cell? ⟨g, j, none⟩ = W.cell? ⟨g, j, none⟩ := fun j => World.cell?_of_block k
  exact ⟨(e _).trans h.e0, (e _).trans h.e1, (e _).trans h.e2, (e _).trans h.e3, (e _).trans h.e4, (e _).trans h.e5, (e _).trans h.e6, (e _).trans h.e7⟩
theorem At8.below {W W' : World} {g o : Nat} {r : RF} (h : At8 W g o r) (k : Below W.heap.size W W') : At8 W' g o r := h.same (k.block g (blk h.e0))

/-- the parts of flows read as they should -/
def GoodF (W : World) (rs : List RF) : Prop := ∀ r ∈ rs, IsT W r.uv r.up ∧ IsT W r.dv r.dn
theorem GoodF.below {W W' : World} {rs : List RF} (h : GoodF W rs) (k : Below W.heap.size W W') : GoodF W' rs := fun r hr => ⟨(h r hr).1.below k, (h r hr).2.below k⟩
/-- a slice that reads as flows -/
structure IsF (W : World) (v : Value) (rs : List RF) : Prop where
  at_ : ∃ a cap, v = .slice a rs.length cap ∧ rs.length ≤ cap ∧ cap ≤ maxLen ∧ (rs = [] ∨ ∃ g o, a = some ⟨g, o, none⟩ ∧ ∀ (i : Nat) (r : RF), rs[i]? = some r → At8 W g (o + i * 8) r)
  good : GoodF W rs
theorem IsF.below {W W' : World} {v : Value} {rs : List RF} (h : IsF W v rs) (k : Below W.heap.size W W') : IsF W' v rs := by
  obtain ⟨⟨a, cap, h1, h2, h3, h4⟩, hg⟩ := h
  refine ⟨⟨a, cap, h1, h2, h3, ?_⟩, hg.below k⟩
  rcases h4 with r | ⟨g, o, rfl, hc⟩
  · exact .inl r
  · exact .inr ⟨g, o, rfl, fun i p hp => (hc i p hp).below k⟩
theorem isF_take {W : World} {a : Option Addr} {n c : Nat} {rs : List RF} (h : IsF W (.slice a n c) rs) (k : Nat) (hk : k ≤ rs.length) : IsF W (.slice a k c) (rs.take k) := by
  obtain ⟨⟨a', cap, h1, h2, h3, h4⟩, hg⟩ := h
  simp at h1
  obtain ⟨rfl, rfl, rfl⟩ := h1
  refine ⟨⟨a, c, by simp [Nat.min_eq_left hk], by simp; omega, h3, ?_⟩, fun r hr => hg r (List.mem_of_mem_take hr)⟩
  rcases h4 with rfl | ⟨g, o, rfl, hc⟩
  · exact .inl (by simp)
  · refine .inr ⟨g, o, rfl, fun i r hr => hc i r ?_⟩
    rw [List.getElem?_take] at hr
    split at hr
    · exact hr
    · cases hr

/-- eight cells of a row are written -/
theorem set8 (xs : List Value) (o : Nat) (u0 u1 u2 u3 u4 u5 u6 u7 : Value) (ho : o + 8 ≤ xs.length) (j : Nat) :
    ((((((((xs.set o u0).set (o + 1) u1).set (o + 2) u2).set (o + 3) u3).set (o + 4) u4).set (o + 5) u5).set (o + 6) u6).set (o + 7) u7)[j]? =
      if o ≤ j ∧ j < o + 8 then [u0, u1, u2, u3, u4, u5, u6, u7][j - o]? else xs[j]? := by
  by_cases h : o ≤ j ∧ j < o + 8
  · rw [if_pos h]
    have hc : j = o ∨ j = o + 1 ∨ j = o + 2 ∨ j = o + 3 ∨ j = o + 4 ∨ j = o + 5 ∨ j = o + 6 ∨ j = o + 7 := by omega
    rcases hc with rfl | rfl | rfl | rfl | rfl | rfl | rfl | rfl
    · rw [List.getElem?_set_ne (by omega)]; rw [List.getElem?_set_ne (by omega)]; rw [List.getElem?_set_ne (by omega)]; rw [List.getElem?_set_ne (by omega)]; rw [List.getElem?_set_ne (by omega)]; rw [List.getElem?_set_ne (by omega)]; rw [List.getElem?_set_ne (by omega)]; rw [List.getElem?_set_self (by omega), Nat.sub_self]; rfl
    · rw [List.getElem?_set_ne (by omega)]; rw [List.getElem?_set_ne (by omega)]; rw [List.getElem?_set_ne (by omega)]; rw [List.getElem?_set_ne (by omega)]; rw [List.getElem?_set_ne (by omega)]; rw [List.getElem?_set_ne (by omega)]; rw [List.getElem?_set_self (by simp only [List.length_set]; omega), show o + 1 - o = 1 by omega]; rfl
    · rw [List.getElem?_set_ne (by omega)]; rw [List.getElem?_set_ne (by omega)]; rw [List.getElem?_set_ne (by omega)]; rw [List.getElem?_set_ne (by omega)]; rw [List.getElem?_set_ne (by omega)]; rw [List.getElem?_set_self (by simp only [List.length_set]; omega), show o + 2 - o = 2 by omega]; rfl
    · rw [List.getElem?_set_ne (by omega)]; rw [List.getElem?_set_ne (by omega)]; rw [List.getElem?_set_ne (by omega)]; rw [List.getElem?_set_ne (by omega)]; rw [List.getElem?_set_self (by simp only [List.length_set]; omega), show o + 3 - o = 3 by omega]; rfl
    · rw [List.getElem?_set_ne (by omega)]; rw [List.getElem?_set_ne (by omega)]; rw [List.getElem?_set_ne (by omega)]; rw [List.getElem?_set_self (by simp only [List.length_set]; omega), show o + 4 - o = 4 by omega]; rfl
    · rw [List.getElem?_set_ne (by omega)]; rw [List.getElem?_set_ne (by omega)]; rw [List.getElem?_set_self (by simp only [List.length_set]; omega), show o + 5 - o = 5 by omega]; rfl
    · rw [List.getElem?_set_ne (by omega)]; rw [List.getElem?_set_self (by simp only [List.length_set]; omega), show o + 6 - o = 6 by omega]; rfl
    · rw [List.getElem?_set_self (by simp only [List.length_set]; omega), show o + 7 - o = 7 by omega]; rfl
  · rw [if_neg h]
    rw [List.getElem?_set_ne (by omega), List.getElem?_set_ne (by omega), List.getElem?_set_ne (by omega), List.getElem?_set_ne (by omega), List.getElem?_set_ne (by omega), List.getElem?_set_ne (by omega), List.getElem?_set_ne (by omega), List.getElem?_set_ne (by omega)]

/-- a row of flows reads as flows -/
theorem isF_of_row {W : World} {b : Nat} {e : TypeId} {v : Value} {rs : List RF} (h : W.ownsRow b e 8 v rs.length (cellsF rs)) (hg : GoodF W rs) : IsF W v rs := by
  refine ⟨?_, hg⟩
  have hlen := h.1
  rcases h.2 with ⟨rfl, h0⟩ | ⟨g, cap, cur, rfl, _, hh, hnc, hcm, hcs, htake⟩
  · exact ⟨none, 0, by rw [h0], by omega, Nat.zero_le _, .inl (List.length_eq_zero_iff.1 h0)⟩
  · refine ⟨_, cap, rfl, hnc, hcm, .inr ⟨g, 0, rfl, fun i r hr => ?_⟩⟩
    have hi : i < rs.length := (List.getElem?_eq_some_iff.1 hr).1
    have hj : ∀ j, j < 8 → W.cell? ⟨g, 0 + i * 8 + j, none⟩ = r.cells[j]? := by
      intro j hj
      have q := cellsF_at rs i r hr j hj
      rw [← htake, List.getElem?_take_of_lt (by omega), Array.getElem?_toList] at q
      rw [Nat.zero_add]
      rw [← q]
      simp only [World.cell?, hh]
      have : i * 8 + j < cur.size := by omega
      simp [Array.getElem?_eq_getElem this]
    exact ⟨hj 0 (by omega), hj 1 (by omega), hj 2 (by omega), hj 3 (by omega), hj 4 (by omega), hj 5 (by omega), hj 6 (by omega), hj 7 (by omega)⟩
theorem cellsF_one (rs : List RF) {W : World} (hg : GoodF W rs) : ∀ u ∈ cellsF rs, u.oneCell' = true := by
  intro u hu
  simp only [cellsF, List.mem_flatMap] at hu
  obtain ⟨r, hr, hp⟩ := hu
  obtain ⟨⟨a1, c1, e1, _⟩, ⟨a2, c2, e2, _⟩⟩ := hg r hr
  simp [RF.cells] at hp
  rcases hp with rfl | rfl | rfl | rfl | rfl | rfl | rfl | rfl <;> first | rfl | (rw [e1]; rfl) | (rw [e2]; rfl)

/-- an object of eight cells -/
def ob8 (t : TypeId) (u0 u1 u2 u3 u4 u5 u6 u7 : Value) : Obj := .cells #[u0, u1, u2, u3, u4, u5, u6, u7] t (0, 0)
theorem ob8_in {W : World} {D : Nat} {t : TypeId} {u0 u1 u2 u3 u4 u5 u6 u7 : Value} (h : W.heap[D]? = some (ob8 t u0 u1 u2 u3 u4 u5 u6 u7)) :
    W.cell? ⟨D, 0, none⟩ = some u0 ∧ W.cell? ⟨D, 1, none⟩ = some u1 ∧ W.cell? ⟨D, 2, none⟩ = some u2 ∧ W.cell? ⟨D, 3, none⟩ = some u3 ∧ W.cell? ⟨D, 4, none⟩ = some u4 ∧ W.cell? ⟨D, 5, none⟩ = some u5 ∧ W.cell? ⟨D, 6, none⟩ = some u6 ∧ W.cell? ⟨D, 7, none⟩ = some u7 ∧
    (∀ j, W.frozen? ⟨D, j, none⟩ = false) := by
  refine ⟨?_, ?_, ?_, ?_, ?_, ?_, ?_, ?_, fun j => ?_⟩ <;> simp [World.cell?, World.frozen?, h, ob8]
end Go.Proofs.YtfmjhbdbgcgoiaaGreatDoor.Dr

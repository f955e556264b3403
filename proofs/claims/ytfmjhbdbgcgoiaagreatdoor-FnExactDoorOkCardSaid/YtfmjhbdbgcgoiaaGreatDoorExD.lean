/- Walks: the exact laws' own copies, sizes and comparison, on doors. And doors that are handed in. -/
import Derived.Test.YtfmjhbdbgcgoiaaGreatDoorDr
import Derived.Test.YtfmjhbdbgcgoiaaGreatDoorExM
import Derived.Test.YtfmjhbdbgcgoiaaGreatDoorExT
namespace Go.Proofs.YtfmjhbdbgcgoiaaGreatDoor.ExD
open Go.RowKit Go.Proofs.YtfmjhbdbgcgoiaaGreatDoor.Kit Go.Proofs.YtfmjhbdbgcgoiaaGreatDoor.St Go.Proofs.YtfmjhbdbgcgoiaaGreatDoor.App Go.Proofs.YtfmjhbdbgcgoiaaGreatDoor.Mm Go.Proofs.YtfmjhbdbgcgoiaaGreatDoor.ExM Go.Proofs.YtfmjhbdbgcgoiaaGreatDoor.ExT Go.Proofs.YtfmjhbdbgcgoiaaGreatDoor.Dr
open Go.Proofs.YtfmjhbdbgcgoiaaGreatDoor.EndW (endV)
set_option linter.unusedSimpArgs false
set_option linter.unusedVariables false

def bulkF (r : RF) : Nat := bulkS r.us r.up + bulkS r.ds r.dn
def bulkG (rs : List RF) : Nat := (rs.map bulkF).sum
def bulkQ (rs : List RF) : Nat := rs.length + bulkG rs
theorem bulkG_step {rs : List RF} {k : Nat} {r : RF} (h : rs[k]? = some r) : bulkG (rs.take (k + 1)) = bulkG (rs.take k) + bulkF r := by
  rw [List.take_add_one, h]; simp [bulkG]
theorem bulkG_le (rs : List RF) (k : Nat) : bulkG (rs.take k) ≤ bulkG rs := by
  have e : bulkG (rs.take k ++ rs.drop k) = bulkG (rs.take k) + bulkG (rs.drop k) := by simp only [bulkG, List.map_append, List.sum_append]
  rw [List.take_append_drop] at e
  omega
theorem bulkG_mem {rs : List RF} {r : RF} (h : r ∈ rs) : bulkF r ≤ bulkG rs := by
  induction rs with
  | nil => cases h
  | cons q rs ih =>
    have e : bulkG (q :: rs) = bulkF q + bulkG rs := by simp [bulkG]
    rcases List.mem_cons.1 h with rfl | h
    · omega
    · have := ih h; omega

/-- texts of a flow are no longer than any may be -/
def Fits (r : RF) : Prop := r.us.size ≤ maxLen ∧ (∀ p ∈ r.up, p.2.size ≤ maxLen) ∧ r.ds.size ≤ maxLen ∧ ∀ p ∈ r.dn, p.2.size ≤ maxLen
/-- a door that is handed in -/
structure ArgD (W : World) (ma : Option Addr) (ml mc : Nat) (m : List (Int × Int × Int)) (fv : Value) (rs : List RF) : Prop where
  hm : ArgM W ma ml mc m
  hf : IsF W fv rs
  fits : ∀ r ∈ rs, Fits r
theorem ArgD.below {W W' : World} {ma : Option Addr} {ml mc : Nat} {m : List (Int × Int × Int)} {fv : Value} {rs : List RF} (h : ArgD W ma ml mc m fv rs) (k : Below W.heap.size W W') : ArgD W' ma ml mc m fv rs := ⟨h.hm.below k, h.hf.below k, h.fits⟩

theorem leftZ_add {left : Int} {n : Nat} (h : (n : Int) ≤ left) (m : Nat) : leftZ (left - (n : Nat)) m = leftZ left (n + m) := by
  unfold leftZ
  by_cases h2 : (m : Int) ≤ left - (n : Nat)
  · rw [if_pos h2, if_pos (by omega)]; omega
  · rw [if_neg h2, if_neg (by omega)]
theorem leftZ_neg {left : Int} {n : Nat} (hl : 0 ≤ left) (h : leftZ left n < 0) : leftZ left n = -1 := by
  unfold leftZ at h ⊢
  by_cases h2 : (n : Int) ≤ left
  · rw [if_pos h2] at h; omega
  · rw [if_neg h2]
theorem leftZ_no {left : Int} {n : Nat} (h : ¬ (n : Int) ≤ left) (m : Nat) : leftZ left (n + m) = -1 := if_neg (by omega)

set_option maxRecDepth 8000 in
set_option maxHeartbeats 4000000 in
theorem szFlow_any (a b c d : Int) (us : ByteArray) (uv : Value) (up : List (Int × ByteArray)) (ds : ByteArray) (dv : Value) (dn : List (Int × ByteArray)) (left : Int) (hl : 0 ≤ left ∧ left ≤ 1048576) (w : World) (hu : ArgS w us uv up) (hd : ArgS w ds dv dn) :
    Calls Tryz.prog 54 #[.agg #[.int .i64 a, .int .i64 b, .int .i64 c, .int .i64 d, .string us, uv, .string ds, dv], .int .i64 left] w fun e w' => e = .returned (.int .i64 (leftZ left (bulkS us up + bulkS ds dn))) ∧ Below w.heap.size w w' := by
  have bA : Below w.heap.size w (w.alloc (.cells #[.int .i64 a, .int .i64 b, .int .i64 c, .int .i64 d, .string us, uv, .string ds, dv] 82)) := (Below.refl _ _).alloc (Nat.le_refl _) _
  have HP : (w.alloc (.cells #[.int .i64 a, .int .i64 b, .int .i64 c, .int .i64 d, .string us, uv, .string ds, dv] 82)).heap[w.heap.size]? = some (ob8 82 (.int .i64 a) (.int .i64 b) (.int .i64 c) (.int .i64 d) (.string us) uv (.string ds) dv) := World.alloc_heap_new _ _
  go_enter Tryz.func54, Tryz.ntmps54
  go_wp2_with fail
  refine (szStream_any us uv up left hl _ (hu.below bA)).mono ?_
  rintro e w1 ⟨rfl, k1⟩
  have b1 := bA.trans (k1.mono (by simp))
  have HP1 := (k1.block w.heap.size (by simp)).trans HP
  obtain ⟨p0, p1, p2, p3, p4, p5, p6, p7, pf⟩ := ob8_in HP1
  clear HP HP1 k1
  by_cases h0 : (bulkS us up : Int) ≤ left
  · have e1 : leftZ left (bulkS us up) = left - ((bulkS us up : Nat) : Int) := if_pos h0
    rw [e1]
    obtain ⟨L, hL⟩ : ∃ L : Int, left - ((bulkS us up : Nat) : Int) = L := ⟨_, rfl⟩
    have hL0 : 0 ≤ L ∧ L ≤ 1048576 := by omega
    have hn : ¬ L < 0 := by omega
    have e2 := leftZ_add h0 (bulkS ds dn)
    rw [hL] at e2 ⊢
    have HE := (show Hid (leftZ L (bulkS ds dn) = leftZ left (bulkS us up + bulkS ds dn)) from e2)
    clear e1 e2 hL h0
    go_wp2_with fail
    refine (szStream_any ds dv dn L hL0 _ (hd.below b1)).mono ?_
    rintro e w2 ⟨rfl, k2⟩
    rw [HE.out]
    have b2 := b1.trans (k2.mono b1.size)
    by_cases hq : leftZ left (bulkS us up + bulkS ds dn) < 0
    · have hz := leftZ_neg hl.1 hq
      rw [hz]
      clear hq
      go_wp2
      go_ret
      exact ⟨by rw [hz]; rfl, b2⟩
    · go_wp2
      go_ret
      exact ⟨rfl, b2⟩
  · have e1 : leftZ left (bulkS us up) = -1 := if_neg h0
    have h9 := (show Hid _ from leftZ_no h0 (bulkS ds dn))
    rw [e1]
    clear e1 h0
    go_wp2
    go_ret
    exact ⟨by rw [h9.out]; rfl, b1⟩

set_option maxRecDepth 8000 in
set_option maxHeartbeats 4000000 in
theorem szQ_any (rs : List RF) (v : Value) (left : Int) (hl : 0 ≤ left ∧ left ≤ 1048576) (w : World) (hF : IsF w v rs) (hfit : ∀ r ∈ rs, Fits r) :
    Calls Tryz.prog 24 #[v, .int .i64 left] w fun e w' => e = .returned (.int .i64 (leftZ left (bulkQ rs))) ∧ Below w.heap.size w w' := by
  obtain ⟨⟨a, cap, rfl, hc, hcm, hr⟩, hg⟩ := hF
  unfold maxLen at hcm
  go_enter Tryz.func24, Tryz.ntmps24
  by_cases h0 : left - ((rs.length : Nat) : Int) < 0
  · have hb : leftZ left (bulkQ rs) = -1 := if_neg (by unfold bulkQ; omega)
    go_wp2
    go_ret
    exact ⟨by rw [hb]; rfl, Below.refl _ _⟩
  · go_wp2
    go_loopw [1, 5] (fun l i wr => ∃ k : Nat, k ≤ rs.length ∧ i = .int .i64 k ∧ l = .int .i64 (left - (rs.length : Nat) - (bulkG (rs.take k) : Nat)) ∧ 0 ≤ left - ((rs.length : Nat) : Int) - ((bulkG (rs.take k) : Nat) : Int) ∧ Below w.heap.size w wr) (fun l i wr => rs.length - (intOf i).toNat)
    case atStart => exact ⟨0, Nat.zero_le _, rfl, congrArg (Value.int IntKind.i64) (by simp [bulkG]), by simp [bulkG]; omega, Below.refl _ _⟩
    case round =>
      obtain ⟨k, hk, rfl, rfl, hge0, hb⟩ := hrel
      by_cases hlt : k < rs.length
      · have hlt' : (k : Int) < (rs.length : Int) := by omega
        have hp : rs[k]? = some rs[k] := List.getElem?_eq_getElem hlt
        have hst := bulkG_step hp
        have hmem : rs[k] ∈ rs := List.getElem_mem hlt
        have hle := bulkG_le rs (k + 1)
        rcases hr with rfl | ⟨g, o, rfl, hat⟩
        · simp at hp
        obtain ⟨x0, x1, x2, x3, x4, x5, x6, x7⟩ := (hat k _ hp).below hb
        obtain ⟨f1, f2, f3, f4⟩ := hfit _ hmem
        obtain ⟨g1, g2⟩ := hg.below hb _ hmem
        generalize rs[k] = r at hp x0 x1 x2 x3 x4 x5 x6 x7 hst hmem f1 f2 f3 f4 g1 g2
        obtain ⟨a, b, c, d, us, uv, up, ds, dv, dn⟩ := r
        simp only at x0 x1 x2 x3 x4 x5 x6 x7 f1 f2 f3 f4 g1 g2
        have hsF : bulkF ⟨a, b, c, d, us, uv, up, ds, dv, dn⟩ = bulkS us up + bulkS ds dn := rfl
        rw [hsF] at hst
        clear hat hp hmem hsF
        generalize hL : left - ((rs.length : Nat) : Int) - ((bulkG (rs.take k) : Nat) : Int) = L at hge0
        have hL2 : L ≤ 1048576 := by omega
        go_wp2_with fail
        refine (szFlow_any a b c d us uv up ds dv dn L ⟨hge0, hL2⟩ _ ⟨f1, g1, f2⟩ ⟨f3, g2, f4⟩).mono ?_
        rintro e w2 ⟨rfl, k2⟩
        have b2 := hb.trans (k2.mono hb.size)
        by_cases hq : ((bulkS us up + bulkS ds dn : Nat) : Int) ≤ L
        · have e1 : leftZ L (bulkS us up + bulkS ds dn) = L - ((bulkS us up + bulkS ds dn : Nat) : Int) := if_pos hq
          rw [e1]
          generalize hM : L - ((bulkS us up + bulkS ds dn : Nat) : Int) = M
          have hM0 : ¬ M < 0 := by omega
          have HE := (show Hid (L - ((bulkS us up + bulkS ds dn : Nat) : Int) = M) from hM)
          have HL := (show Hid (left - ((rs.length : Nat) : Int) - ((bulkG (rs.take k) : Nat) : Int) = L) from hL)
          have HS := (show Hid (bulkG (rs.take (k + 1)) = bulkG (rs.take k) + (bulkS us up + bulkS ds dn)) from hst)
          clear e1 hM hL hst hle
          go_wp2
          go_roundw
          case rel =>
            have q1 := HE.out
            have q2 := HL.out
            have q3 := HS.out
            exact ⟨k + 1, by omega, by go_num, congrArg (Value.int IntKind.i64) (by rw [q3]; omega), by rw [q3]; omega, b2⟩
          case measure => simp [intOf]; omega
        · have e1 : leftZ L (bulkS us up + bulkS ds dn) = -1 := if_neg hq
          have hbad : leftZ left (bulkQ rs) = -1 := if_neg (by unfold bulkQ; omega)
          rw [e1]
          clear e1 hL hst hle
          go_wp2
          go_ret
          exact ⟨by rw [hbad]; rfl, b2⟩
      · have hge : (rs.length : Int) ≤ (k : Int) := by omega
        have htk : rs.take k = rs := List.take_of_length_le (by omega)
        rw [htk] at hge0 ⊢
        have hgood : leftZ left (bulkQ rs) = left - ((rs.length : Nat) : Int) - ((bulkG rs : Nat) : Int) := by
          unfold leftZ bulkQ; rw [if_pos (by omega)]; omega
        go_wp2
        go_ret
        exact ⟨by rw [hgood]; rfl, hb⟩

set_option maxRecDepth 8000 in
set_option maxHeartbeats 4000000 in
theorem szDoor_any (ma : Option Addr) (ml mc : Nat) (m : List (Int × Int × Int)) (fv : Value) (rs : List RF) (w : World) (hA : ArgD w ma ml mc m fv rs) :
    Calls Tryz.prog 7 #[.agg #[.slice ma ml mc, fv], .int .i64 1048576] w fun e w' => e = .returned (.int .i64 (leftZ 1048576 (m.length + bulkQ rs))) ∧ Below w.heap.size w w' := by
  obtain ⟨hm, hf, hfit⟩ := hA
  have hml := hm.hl
  subst hml
  have hmx : m.length ≤ maxLen := Nat.le_trans hm.hc.1 hm.hc.2
  have bA : Below w.heap.size w (w.alloc (.cells #[.slice ma m.length mc, fv] 25)) := (Below.refl _ _).alloc (Nat.le_refl _) _
  go_enter Tryz.func7, Tryz.ntmps7
  by_cases h0 : (m.length : Int) ≤ 1048576
  · go_wp2_with fail
    refine (sz_ok ma m.length mc h0 _).mono ?_
    rintro e w1 ⟨rfl, rfl⟩
    obtain ⟨L, hL⟩ : ∃ L : Int, 1048576 - ((m.length : Nat) : Int) = L := ⟨_, rfl⟩
    have hL0 : 0 ≤ L ∧ L ≤ 1048576 := by omega
    have hn : ¬ L < 0 := by omega
    have e2 := leftZ_add h0 (bulkQ rs)
    rw [hL] at e2 ⊢
    have HE := (show Hid (leftZ L (bulkQ rs) = leftZ 1048576 (m.length + bulkQ rs)) from e2)
    clear e2 hL h0
    go_wp2_with fail
    refine (szQ_any rs fv L hL0 _ (hf.below bA) hfit).mono ?_
    rintro e w2 ⟨rfl, k2⟩
    rw [HE.out]
    have b2 := bA.trans (k2.mono (by simp))
    by_cases hq : leftZ 1048576 (m.length + bulkQ rs) < 0
    · have hz := leftZ_neg (by decide) hq
      rw [hz]
      clear hq
      go_wp2
      go_ret
      exact ⟨by rw [hz]; rfl, b2⟩
    · go_wp2
      go_ret
      exact ⟨rfl, b2⟩
  · have h9 := (show Hid (leftZ 1048576 (m.length + bulkQ rs) = -1) from leftZ_no h0 (bulkQ rs))
    have h1 : (1048576 : Int) < (m.length : Int) := by omega
    clear h0
    go_wp2_with fail
    refine (sz_big ma m.length mc h1 hmx _).mono ?_
    rintro e w1 ⟨rfl, rfl⟩
    clear h1
    go_wp2
    go_ret
    exact ⟨by rw [h9.out]; rfl, bA⟩

/-- the blocks of the parts of flows -/
def blks (qs : List RF) : List Nat := (qs.flatMap fun q => [q.uv, q.dv]).filterMap Value.ownBlock
theorem blks_snoc (qs : List RF) (q : RF) : blks (qs ++ [q]) = blks qs ++ [q.uv, q.dv].filterMap Value.ownBlock := by simp [blks, List.filterMap_append]
theorem blks_mem {qs : List RF} {k : Nat} (h : k ∈ blks qs) : ∃ q ∈ qs, q.uv.ownBlock = some k ∨ q.dv.ownBlock = some k := by
  simp only [blks, List.mem_filterMap, List.mem_flatMap] at h
  obtain ⟨v, ⟨q, hq, hv⟩, hk⟩ := h
  simp at hv
  rcases hv with rfl | rfl
  · exact ⟨q, hq, .inl hk⟩
  · exact ⟨q, hq, .inr hk⟩
/-- the parts of flows lie in rows of their own, from lo on -/
structure OwnQ (W : World) (lo : Nat) (qs : List RF) : Prop where
  rows : ∀ q ∈ qs, W.ownsRow lo 88 2 q.uv q.up.length (cellsT q.up) ∧ W.ownsRow lo 88 2 q.dv q.dn.length (cellsT q.dn)
  apart : (blks qs).Nodup
theorem OwnQ.below {W W' : World} {lo : Nat} {qs : List RF} (h : OwnQ W lo qs) (k : Below W.heap.size W W') : OwnQ W' lo qs := ⟨fun q hq => ⟨row_below (h.rows q hq).1 k, row_below (h.rows q hq).2 k⟩, h.apart⟩
theorem OwnQ.nil (W : World) (lo : Nat) : OwnQ W lo [] := ⟨fun q hq => (by cases hq), List.nodup_nil⟩
theorem OwnQ.lt {W : World} {lo : Nat} {qs : List RF} (h : OwnQ W lo qs) {k : Nat} (hk : k ∈ blks qs) : lo ≤ k ∧ k < W.heap.size := by
  obtain ⟨q, hq, h1 | h1⟩ := blks_mem hk
  · exact (h.rows q hq).1.lt k h1
  · exact (h.rows q hq).2.lt k h1
theorem OwnQ.good {W : World} {lo : Nat} {qs : List RF} (h : OwnQ W lo qs) : GoodF W qs := fun q hq => ⟨isT_of_row (h.rows q hq).1, isT_of_row (h.rows q hq).2⟩
theorem OwnQ.set {W : World} {lo : Nat} {qs : List RF} (h : OwnQ W lo qs) {p : Addr} (hp : p.block < lo) (v : Value) : OwnQ (W.setCell p v) lo qs := ⟨fun q hq => ⟨ownsRow_setCell_below (h.rows q hq).1 hp v, ownsRow_setCell_below (h.rows q hq).2 hp v⟩, h.apart⟩
theorem OwnQ.snoc {W W' : World} {lo mid : Nat} {qs : List RF} (h : OwnQ W lo qs) (k : Below W.heap.size W W') (q : RF) (hm : W.heap.size ≤ mid) (hlo : lo ≤ W.heap.size)
    (hu : W'.ownsRow W.heap.size 88 2 q.uv q.up.length (cellsT q.up)) (hum : ∀ k, q.uv.ownBlock = some k → k < mid) (hd : W'.ownsRow mid 88 2 q.dv q.dn.length (cellsT q.dn)) : OwnQ W' lo (qs ++ [q]) := by
  refine ⟨fun r hr => ?_, ?_⟩
  · rcases List.mem_append.1 hr with hr | hr
    · exact (h.below k).rows r hr
    · simp at hr; subst hr
      exact ⟨ownsRow_base hu hlo, ownsRow_base hd (Nat.le_trans hlo hm)⟩
  · rw [blks_snoc]
    have hu2 := fun k hk => (hu.lt k hk).1
    have hd2 := fun k hk => (hd.lt k hk).1
    have old := fun k (hk : k ∈ blks qs) => (h.lt hk).2
    refine List.nodup_append.2 ⟨h.apart, ?_, fun x hx y hy e => ?_⟩
    · cases e1 : q.uv.ownBlock with
      | none => cases e2 : q.dv.ownBlock <;> simp [e1, e2]
      | some k1 =>
        cases e2 : q.dv.ownBlock with
        | none => simp [e1, e2]
        | some k2 =>
          have := hum k1 e1
          have := hd2 k2 e2
          simp [e1, e2]; omega
    · subst e
      have := old x hx
      simp only [List.mem_filterMap] at hy
      obtain ⟨v, hv, hk⟩ := hy
      simp at hv
      rcases hv with rfl | rfl
      · have := hu2 x hk; omega
      · have := hd2 x hk; omega

theorem lt_of {W : World} {D : Nat} {ob : Obj} (h : W.heap[D]? = some ob) : D < W.heap.size := (Array.getElem?_eq_some_iff.1 h).1

theorem two0 {w : World} {D : Nat} {t : TypeId} {u0 u1 u2 u3 u4 u5 u6 u7 : Value} (h : w.heap[D]? = some (ob8 t u0 u1 u2 u3 u4 u5 u6 u7)) (x y : Value) : ((w.setCell ⟨D, 0, none⟩ x).setCell ⟨D, 1, none⟩ y).heap[D]? = some (ob8 t x y u2 u3 u4 u5 u6 u7) := by
  rw [setCell_obj (setCell_obj (show w.heap[D]? = some (.cells #[u0, u1, u2, u3, u4, u5, u6, u7] t (0, 0)) from h) x) y]; rfl
theorem two2 {w : World} {D : Nat} {t : TypeId} {u0 u1 u2 u3 u4 u5 u6 u7 : Value} (h : w.heap[D]? = some (ob8 t u0 u1 u2 u3 u4 u5 u6 u7)) (x y : Value) : ((w.setCell ⟨D, 2, none⟩ x).setCell ⟨D, 3, none⟩ y).heap[D]? = some (ob8 t u0 u1 x y u4 u5 u6 u7) := by
  rw [setCell_obj (setCell_obj (show w.heap[D]? = some (.cells #[u0, u1, u2, u3, u4, u5, u6, u7] t (0, 0)) from h) x) y]; rfl
theorem two4 {w : World} {D : Nat} {t : TypeId} {u0 u1 u2 u3 u4 u5 u6 u7 : Value} (h : w.heap[D]? = some (ob8 t u0 u1 u2 u3 u4 u5 u6 u7)) (x y : Value) : ((w.setCell ⟨D, 4, none⟩ x).setCell ⟨D, 5, none⟩ y).heap[D]? = some (ob8 t u0 u1 u2 u3 x y u6 u7) := by
  rw [setCell_obj (setCell_obj (show w.heap[D]? = some (.cells #[u0, u1, u2, u3, u4, u5, u6, u7] t (0, 0)) from h) x) y]; rfl
theorem two6 {w : World} {D : Nat} {t : TypeId} {u0 u1 u2 u3 u4 u5 u6 u7 : Value} (h : w.heap[D]? = some (ob8 t u0 u1 u2 u3 u4 u5 u6 u7)) (x y : Value) : ((w.setCell ⟨D, 6, none⟩ x).setCell ⟨D, 7, none⟩ y).heap[D]? = some (ob8 t u0 u1 u2 u3 u4 u5 x y) := by
  rw [setCell_obj (setCell_obj (show w.heap[D]? = some (.cells #[u0, u1, u2, u3, u4, u5, u6, u7] t (0, 0)) from h) x) y]; rfl
theorem oth2 {w : World} {D E i j : Nat} (x y : Value) (hne : E ≠ D) : ((w.setCell ⟨D, i, none⟩ x).setCell ⟨D, j, none⟩ y).heap[E]? = w.heap[E]? := (Below.heap_setCell _ _ _ _ hne).trans (Below.heap_setCell _ _ _ _ hne)
theorem sz2 {w : World} {D i j : Nat} (x y : Value) : ((w.setCell ⟨D, i, none⟩ x).setCell ⟨D, j, none⟩ y).heap.size = w.heap.size := by simp [World.setCell]


end Go.Proofs.YtfmjhbdbgcgoiaaGreatDoor.ExD

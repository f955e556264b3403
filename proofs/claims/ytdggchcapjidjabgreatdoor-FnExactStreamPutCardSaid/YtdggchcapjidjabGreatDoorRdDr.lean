/- Walks: the reader of a code: it is opened, and a number is picked. -/
import Derived.Test.YtdggchcapjidjabGreatDoorRows
import Derived.Test.YtdggchcapjidjabGreatDoorKit
import Derived.WalkKit
import Derived.ProofKit
import Derived.WalkLawsBesides
import Derived.WalkSpells
import Derived.BigQuiet
import Derived.Deep.QuietTactic
namespace Go.Proofs.YtdggchcapjidjabGreatDoor.Rd
open Go.RowKit Go.Proofs.YtdggchcapjidjabGreatDoor.Kit

set_option maxHeartbeats 400000 in
theorem pick_none (b : Nat) (a : Option Addr) (cap : Nat) (p : Nat) (n : Int) (w : World)
    (c0 : w.cell? ⟨b, 0, none⟩ = some (.slice a 0 cap)) (c1 : w.cell? ⟨b, 1, none⟩ = some (.int .i64 p)) (f1 : w.frozen? ⟨b, 1, none⟩ = false)
    (hp : (p : Int) ≤ 1000000000) (hn : 1 ≤ n) :
    Calls Tryz.prog 28 #[.pointer (some ⟨b, 0, none⟩), .int .i64 n] w fun e w' => e = .returned (.int .i64 0) ∧ w' = w.setCell ⟨b, 1, none⟩ (.int .i64 ((p : Int) + 1)) := by
  go_enter Tryz.func28, Tryz.ntmps28
  go_wp2
  go_ret
  exact ⟨rfl, rfl⟩

set_option maxHeartbeats 400000 in
theorem pick_here (b xb xo : Nat) (len cap : Nat) (p : Nat) (zk : Int) (n : Int) (w : World)
    (c0 : w.cell? ⟨b, 0, none⟩ = some (.slice (some ⟨xb, xo, none⟩) len cap)) (c1 : w.cell? ⟨b, 1, none⟩ = some (.int .i64 p)) (f1 : w.frozen? ⟨b, 1, none⟩ = false)
    (hp : (p : Int) < len) (hl : (len : Int) ≤ 2000) (hn : 1 ≤ n) (hb : xb ≠ b) (hc : w.cell? ⟨xb, xo + p, none⟩ = some (.int .u8 zk)) (z0 : 0 ≤ zk) (z1 : zk ≤ 255) :
    Calls Tryz.prog 28 #[.pointer (some ⟨b, 0, none⟩), .int .i64 n] w fun e w' => e = .returned (.int .i64 (zk % n)) ∧ w' = w.setCell ⟨b, 1, none⟩ (.int .i64 ((p : Int) + 1)) := by
  have hc' : (w.setCell ⟨b, 1, none⟩ (.int .i64 ((p : Int) + 1))).cell? ⟨xb, xo + p, none⟩ = some (.int .u8 zk) := by
    rw [cell_set (fun e => hb e.symm)]; exact hc
  have hn0 : ((len : Int) == 0) = false := by simp; omega
  go_enter Tryz.func28, Tryz.ntmps28
  go_wp2
  go_ret
  exact ⟨rfl, rfl⟩

set_option maxHeartbeats 1000000 in
theorem pick_far (b xb xo : Nat) (len cap : Nat) (p : Nat) (z1 z2 : Int) (n : Int) (w : World)
    (c0 : w.cell? ⟨b, 0, none⟩ = some (.slice (some ⟨xb, xo, none⟩) len cap)) (c1 : w.cell? ⟨b, 1, none⟩ = some (.int .i64 p)) (f1 : w.frozen? ⟨b, 1, none⟩ = false)
    (hp : (len : Int) ≤ p) (hpm : (p : Int) ≤ 1000000000) (hl : (len : Int) ≤ 2000) (hl0 : 0 < (len : Int)) (hn : 1 ≤ n) (hb : xb ≠ b)
    (hc1 : w.cell? ⟨xb, xo + p % len, none⟩ = some (.int .u8 z1)) (hc2 : w.cell? ⟨xb, xo + (p * 7 + 3) % len, none⟩ = some (.int .u8 z2))
    (z10 : 0 ≤ z1) (z11 : z1 ≤ 255) (z20 : 0 ≤ z2) (z21 : z2 ≤ 255) :
    Calls Tryz.prog 28 #[.pointer (some ⟨b, 0, none⟩), .int .i64 n] w fun e w' => (∃ v, e = .returned (.int .i64 v) ∧ 0 ≤ v ∧ v < n) ∧ ∃ nq, w' = (w.setCell ⟨b, 1, none⟩ (.int .i64 ((p : Int) + 1))).drewN nq := by
  have hn0 : ((len : Int) == 0) = false := by simp; omega
  have hm0 := Int.emod_nonneg (p : Int) (show (len : Int) ≠ 0 by omega)
  have hm1 := Int.emod_lt_of_pos (p : Int) hl0
  have hm2 := Int.emod_nonneg ((p : Int) * 7 + 3) (show (len : Int) ≠ 0 by omega)
  have hm3 := Int.emod_lt_of_pos ((p : Int) * 7 + 3) hl0
  have hq0 := Int.ediv_nonneg (show (0 : Int) ≤ (p : Int) by omega) (show (0 : Int) ≤ (len : Int) by omega)
  have hq1 := Int.ediv_le_self (len : Int) (show (0 : Int) ≤ (p : Int) by omega)
  have hq2 : (p : Int) / (len : Int) ≤ 1000000000 := by omega
  go_enter Tryz.func28, Tryz.ntmps28
  go_wp2
  go_quiet (fail)
  go_wp2
  go_ret
  exact ⟨⟨_, rfl, mix_rem _ _ n (by omega) (by omega) (by omega) (by omega) hn⟩, _, rfl⟩

/-- a pick: a number below n; the reader goes on by one -/
theorem pick_any (b : Nat) (a : Option Addr) (len cap : Nat) (z : Nat → Int) (p : Nat) (n : Int) (w : World) (h : Rd w b a len cap z p) (hp : p ≤ 1000000000) (hn : 1 ≤ n) :
    Calls Tryz.prog 28 #[.pointer (some ⟨b, 0, none⟩), .int .i64 n] w fun e w' => ∃ v, e = .returned (.int .i64 v) ∧ 0 ≤ v ∧ v < n ∧ Rd w' b a len cap z (p + 1) ∧ But b w w' := by
  have hs := h.small
  by_cases h0 : len = 0
  · subst h0
    refine (pick_none b a cap p n w h.c0 h.c1 h.f1 (by omega) hn).mono ?_
    rintro e w' ⟨rfl, hw⟩
    have k := h.next (nq := 0) (w' := w') hw
    exact ⟨0, rfl, by omega, by omega, k.1, k.2⟩
  · rcases h.row with r | ⟨xb, xo, rfl, hx, hc⟩
    · exact absurd r h0
    · by_cases hl : p < len
      · have v := h.val p
        refine (pick_here b xb xo len cap p (z p) n w h.c0 h.c1 h.f1 (by omega) (by omega) hn hx (hc p hl) v.1 v.2).mono ?_
        rintro e w' ⟨rfl, hw⟩
        have k := h.next (nq := 0) (w' := w') hw
        exact ⟨_, rfl, Int.emod_nonneg _ (by omega), Int.emod_lt_of_pos _ (by omega), k.1, k.2⟩
      · have v1 := h.val (p % len)
        have v2 := h.val ((p * 7 + 3) % len)
        refine (pick_far b xb xo len cap p _ _ n w h.c0 h.c1 h.f1 (by omega) (by omega) (by omega) (by omega) hn hx (hc (p % len) (Nat.mod_lt _ (by omega))) (hc ((p * 7 + 3) % len) (Nat.mod_lt _ (by omega))) v1.1 v1.2 v2.1 v2.2).mono ?_
        rintro e w' ⟨⟨v, rfl, hv0, hv1⟩, nq, hw⟩
        have k := h.next hw
        exact ⟨_, rfl, hv0, hv1, k.1, k.2⟩

set_option maxHeartbeats 400000 in
theorem open_small (a : Option Addr) (len cap : Nat) (w : World) (hl : (len : Int) ≤ 2000) :
    Calls Tryz.prog 25 #[.slice a len cap] w fun e w' => e = .returned (.pointer (some ⟨w.heap.size, 0, none⟩)) ∧ w' = w.alloc (.cells #[.slice a len cap, .int .i64 0] 101) := by
  go_enter Tryz.func25, Tryz.ntmps25
  go_wp2
  go_ret
  exact ⟨rfl, rfl⟩

set_option maxHeartbeats 400000 in
theorem open_great (xb xo : Nat) (len cap : Nat) (w : World) (hl : (2000 : Int) < (len : Int)) (hc : len ≤ cap) :
    Calls Tryz.prog 25 #[.slice (some ⟨xb, xo, none⟩) len cap] w fun e w' => e = .returned (.pointer (some ⟨w.heap.size, 0, none⟩)) ∧ w' = w.alloc (.cells #[.slice (some ⟨xb, xo, none⟩) 2000 cap, .int .i64 0] 101) := by
  go_enter Tryz.func25, Tryz.ntmps25
  go_wp2
  go_ret
  exact ⟨rfl, rfl⟩

theorem open_any (a : Option Addr) (len cap : Nat) (z : Nat → Int) (w : World) (h : CodeIn w a len cap z) :
    Calls Tryz.prog 25 #[.slice a len cap] w fun e w' => ∃ b len', e = .returned (.pointer (some ⟨b, 0, none⟩)) ∧ b = w.heap.size ∧ Rd w' b a len' cap z 0 ∧ Below w.heap.size w w' := by
  by_cases hl : len ≤ 2000
  · refine (open_small a len cap w (by omega)).mono ?_
    rintro e w' ⟨rfl, rfl⟩
    refine ⟨_, len, rfl, rfl, ⟨by simp, by simp, by simp, ?_, hl, h.val⟩, (Below.refl _ _).alloc (Nat.le_refl _) _⟩
    rcases h.row with r | ⟨xb, xo, rfl, hc, hx⟩
    · exact .inl r
    · by_cases h0 : len = 0
      · exact .inl h0
      · have hlt : xb < w.heap.size := blk (hx 0 (by omega))
        exact .inr ⟨xb, xo, rfl, Nat.ne_of_lt hlt, fun i hi => by rw [Below.cell (p := ⟨xb, xo + i, none⟩) ((Below.refl _ _).alloc (Nat.le_refl _) _) hlt]; exact hx i hi⟩
  · rcases h.row with r | ⟨xb, xo, rfl, hc, hx⟩
    · omega
    · refine (open_great xb xo len cap w (by omega) hc).mono ?_
      rintro e w' ⟨rfl, rfl⟩
      have hlt : xb < w.heap.size := blk (hx 0 (by omega))
      refine ⟨_, 2000, rfl, rfl, ⟨by simp, by simp, by simp, ?_, by omega, h.val⟩, (Below.refl _ _).alloc (Nat.le_refl _) _⟩
      exact .inr ⟨xb, xo, rfl, Nat.ne_of_lt hlt, fun i hi => by rw [Below.cell (p := ⟨xb, xo + i, none⟩) ((Below.refl _ _).alloc (Nat.le_refl _) _) hlt]; exact hx i (by omega)⟩

end Go.Proofs.YtdggchcapjidjabGreatDoor.Rd

/- Walks: ends that are drawn from a code. -/
namespace Go.Proofs.YtdggchcapjidjabGreatDoor.Draw
open Go.RowKit Go.Proofs.YtdggchcapjidjabGreatDoor.Kit Go.Proofs.YtdggchcapjidjabGreatDoor.Rd

abbrev endV (a p : Int) : Value := .agg #[.int .i64 a, .int .i64 p]

set_option maxHeartbeats 1000000 in
theorem l71_any (b : Nat) (a : Option Addr) (len cap : Nat) (z : Nat → Int) (p : Nat) (w : World) (h : Rd w b a len cap z p) (hp : p ≤ 999999000) :
    Calls Tryz.prog 56 #[.pointer (some ⟨b, 0, none⟩)] w fun e w' => ∃ x y p', e = .returned (endV x y) ∧ (0 ≤ x ∧ x ≤ 20 ∧ 0 ≤ y ∧ y ≤ 20) ∧ p' ≤ p + 3 ∧ Rd w' b a len cap z p' ∧ Aside b w w' := by
  have hb : b < w.heap.size := blk h.c0
  have h0 := h.below ((Below.refl _ _).alloc (Nat.le_refl _) (.cells #[.int .i64 0, .int .i64 0] 81))
  have s0 : Aside b w (w.alloc (.cells #[.int .i64 0, .int .i64 0] 81)) := (Aside.refl b w).alloc _
  go_enter Tryz.func56, Tryz.ntmps56
  go_wp2_with fail
  refine (pick_any b a len cap z p _ _ h0 (by omega) (by omega)).mono ?_
  rintro e w1 ⟨v, rfl, hv0, hv1, r1, k1⟩
  have c1 := fun j => k1.cell (p := ⟨w.heap.size, j, none⟩) (by simp; omega)
  have f1 := fun j => k1.frozen (p := ⟨w.heap.size, j, none⟩) (by simp; omega)
  have z1 := k1.size
  simp at z1
  have s1 := s0.but k1
  clear s0 h0 k1
  go_wp2_with fail
  all_goals
    refine (pick_any b a len cap z (p + 1) _ _ r1 (by omega) (by omega)).mono ?_
    rintro e w2 ⟨v2, rfl, hu0, hu1, r2, k2⟩
    have c2 := fun j => (k2.cell (p := ⟨w.heap.size, j, none⟩) (by simp; omega)).trans (c1 j)
    have f2 := fun j => (k2.frozen (p := ⟨w.heap.size, j, none⟩) (by simp; omega)).trans (f1 j)
    have s2 := s1.but k2
    have z2 := k2.size.trans z1
    clear k2
    go_wp2_with fail
  all_goals
    first
    | (refine bodyPost_ret (v := endV 9 (10 + v2)) ?_ rfl ?_
       · simp [results, Tryz.results56, go_sem, c2]
       · exact ⟨_, _, _, rfl, ⟨by omega, by omega, by omega, by omega⟩, by omega, Rd.setNew h (s2.setNew (Nat.le_refl _) _) (Rd.setNew h s2 r2 _ _ (Nat.le_refl _)) _ _ (Nat.le_refl _), (s2.setNew (Nat.le_refl _) _).setNew (Nat.le_refl _) _⟩)
    | skip
  all_goals
    refine (pick_any b a len cap z (p + 1 + 1) _ _ r2 (by omega) (by omega)).mono ?_
    rintro e w3 ⟨v3, rfl, ht0, ht1, r3, k3⟩
    have c3 := fun j => (k3.cell (p := ⟨w.heap.size, j, none⟩) (by simp; omega)).trans (c2 j)
    have f3 := fun j => (k3.frozen (p := ⟨w.heap.size, j, none⟩) (by simp; omega)).trans (f2 j)
    have s3 := s2.but k3
    clear k3
    go_wp2_with fail
    first
    | (refine bodyPost_ret (v := endV (1 + v2) (1 + v3)) ?_ rfl ?_
       · simp [results, Tryz.results56, go_sem, c3]
       · exact ⟨_, _, _, rfl, ⟨by omega, by omega, by omega, by omega⟩, by omega, Rd.setNew h (s3.setNew (Nat.le_refl _) _) (Rd.setNew h s3 r3 _ _ (Nat.le_refl _)) _ _ (Nat.le_refl _), (s3.setNew (Nat.le_refl _) _).setNew (Nat.le_refl _) _⟩)
    | (refine bodyPost_ret (v := endV (4 + v2) (1 + v3)) ?_ rfl ?_
       · simp [results, Tryz.results56, go_sem, c3]
       · exact ⟨_, _, _, rfl, ⟨by omega, by omega, by omega, by omega⟩, by omega, Rd.setNew h (s3.setNew (Nat.le_refl _) _) (Rd.setNew h s3 r3 _ _ (Nat.le_refl _)) _ _ (Nat.le_refl _), (s3.setNew (Nat.le_refl _) _).setNew (Nat.le_refl _) _⟩)
    | (refine bodyPost_ret (v := endV v2 v3) ?_ rfl ?_
       · simp [results, Tryz.results56, go_sem, c3]
       · exact ⟨_, _, _, rfl, ⟨by omega, by omega, by omega, by omega⟩, by omega, Rd.setNew h (s3.setNew (Nat.le_refl _) _) (Rd.setNew h s3 r3 _ _ (Nat.le_refl _)) _ _ (Nat.le_refl _), (s3.setNew (Nat.le_refl _) _).setNew (Nat.le_refl _) _⟩)

end Go.Proofs.YtdggchcapjidjabGreatDoor.Draw

/- Packets that are drawn from a code. Of what is drawn no more is said than that it is short. -/
import Derived.Test.YtnjggammbebpkaaGreatDoorDrawT
import Derived.Test.YtnjggammbebpkaaGreatDoorPkA
namespace Go.Proofs.YtnjggammbebpkaaGreatDoor.PkD
open Go.RowKit Go.Proofs.YtnjggammbebpkaaGreatDoor.Kit Go.Proofs.YtnjggammbebpkaaGreatDoor.Rd Go.Proofs.YtnjggammbebpkaaGreatDoor.Draw
open Go.Proofs.YtnjggammbebpkaaGreatDoor.Pk (pktV)

/-- numbers of a packet that is drawn -/
structure Small (k a b c d n : Int) (t : ByteArray) : Prop where
  k0 : 0 ≤ k
  k1 : k ≤ 4
  a0 : 0 ≤ a
  a1 : a ≤ 20
  b0 : 0 ≤ b
  b1 : b ≤ 20
  c0 : 0 ≤ c
  c1 : c ≤ 20
  d0 : 0 ≤ d
  d1 : d ≤ 20
  n0 : -1 ≤ n
  n1 : n ≤ 100
  t1 : t.size ≤ 20

/-- a reader at its place, and what it left as it was -/
structure RA (b : Nat) (a : Option Addr) (len cap : Nat) (z : Nat → Int) (w w2 : World) (p : Nat) : Prop where
  rd : Kit.Rd w2 b a len cap z p
  sd : Aside b w w2
theorem RA.set {b : Nat} {a : Option Addr} {len cap : Nat} {z : Nat → Int} {w w2 : World} {p p0 : Nat} (q : RA b a len cap z w w2 p) (h : Rd w b a len cap z p0) (g : Addr) (u : Value) (hg : w.heap.size ≤ g.block) : RA b a len cap z w (w2.setCell g u) p :=
  ⟨Rd.setNew h q.sd q.rd g u hg, q.sd.setNew hg u⟩
theorem RA.both {b : Nat} {a : Option Addr} {len cap : Nat} {z : Nat → Int} {w w2 : World} {p : Nat} (q : RA b a len cap z w w2 p) : Kit.Rd w2 b a len cap z p ∧ Aside b w w2 := ⟨q.rd, q.sd⟩

/-- what bytes may be spoilt with -/
def S3 : List ByteArray := [⟨#[]⟩, ⟨#[97, 32, 98]⟩, ⟨#[120]⟩]
theorem S3_short (i : Nat) : (S3.getD i ⟨#[]⟩).size ≤ 3 := short_of S3 3 (by decide) i

set_option maxRecDepth 8000 in
set_option maxHeartbeats 4000000 in
theorem pkt_any (b : Nat) (a : Option Addr) (len cap : Nat) (z : Nat → Int) (p : Nat) (w : World) (h : Rd w b a len cap z p) (hp : p ≤ 100000) :
    Calls Tryz.prog 13 #[.pointer (some ⟨b, 0, none⟩)] w fun e w' => ∃ k x y x2 y2 n t p', e = .returned (pktV k x y x2 y2 n t) ∧ Small k x y x2 y2 n t ∧ p' ≤ p + 300 ∧ Rd w' b a len cap z p' ∧ Aside b w w' := by
  have hb : b < w.heap.size := blk h.c0
  have h0 := h.below ((Below.refl _ _).alloc (Nat.le_refl _) (.cells #[.int .i64 0, .int .i64 0, .int .i64 0, .int .i64 0, .int .i64 0, .int .i64 0, .string ⟨#[]⟩] 26))
  have s0 : Aside b w (w.alloc (.cells #[.int .i64 0, .int .i64 0, .int .i64 0, .int .i64 0, .int .i64 0, .int .i64 0, .string ⟨#[]⟩] 26)) := (Aside.refl b w).alloc _
  go_enter Tryz.func13, Tryz.ntmps13
  go_wp2_with fail
  refine (pick_any b a len cap z p _ _ h0 (by omega) (by omega)).mono ?_
  rintro e w1 ⟨v1, rfl, hv0, hv1, r1, k1⟩
  have z1 := Nat.le_of_eq k1.size.symm
  simp at z1
  have c1 := fun j => k1.cell (p := ⟨w.heap.size, j, none⟩) (by simp; omega)
  have f1 := fun j => k1.frozen (p := ⟨w.heap.size, j, none⟩) (by simp; omega)
  have s1 := s0.but k1
  clear s0 h0 k1
  go_wp2_with fail
  refine (l71_any b a len cap z (p + 1) _ r1 (by omega)).mono ?_
  rintro e w2 ⟨x, y, p2, rfl, hxy, hp2, r2, k2⟩
  have z2 := k2.size
  have c2 := fun j => (k2.cell (p := ⟨w.heap.size, j, none⟩) (by simp; omega) (by simp; omega)).trans (c1 j)
  have f2 := fun j => (k2.frozen (p := ⟨w.heap.size, j, none⟩) (by simp; omega) (by simp; omega)).trans (f1 j)
  have s2 := s1.trans k2
  clear s1 k2 r1 c1 f1
  go_wp2_with fail
  refine (l71_any b a len cap z p2 _ r2 (by omega)).mono ?_
  rintro e w3 ⟨x2, y2, p3, rfl, hxy2, hp3, r3, k3⟩
  have z3 := k3.size
  have c3 := fun j => (k3.cell (p := ⟨w.heap.size, j, none⟩) (by simp; omega) (by simp; omega)).trans (c2 j)
  have f3 := fun j => (k3.frozen (p := ⟨w.heap.size, j, none⟩) (by simp; omega) (by simp; omega)).trans (f2 j)
  have s3 := s2.trans k3
  clear s2 k3 r2 c2 f2
  go_wp2_with fail
  refine (pick_any b a len cap z p3 _ _ r3 (by omega) (by omega)).mono ?_
  rintro e w4 ⟨n, rfl, hn0, hn1, r4, k4⟩
  have z4 := Nat.le_of_eq k4.size.symm
  have c4 := fun j => (k4.cell (p := ⟨w.heap.size, j, none⟩) (by simp; omega)).trans (c3 j)
  have f4 := fun j => (k4.frozen (p := ⟨w.heap.size, j, none⟩) (by simp; omega)).trans (f3 j)
  have s4 := s3.but k4
  clear s3 k4 r3 c3 f3
  have hPb : w4.heap.size ≠ b := by omega
  have hRb : w.heap.size ≠ b := by omega
  have hWP : w.heap.size < w4.heap.size := by omega
  by_cases hk : v1 = 0
  · subst hk
    have eP := (Below.refl w4.heap.size w4).alloc (Nat.le_refl _) (.cells #[.int .i64 1, .int .i64 x, .int .i64 y, .int .i64 x2, .int .i64 y2, .int .i64 n, .string ⟨#[]⟩] 26)
    have rP := r4.below ((Below.refl _ _).alloc (Nat.le_refl _) (.cells #[.int .i64 1, .int .i64 x, .int .i64 y, .int .i64 x2, .int .i64 y2, .int .i64 n, .string ⟨#[]⟩] 26))
    have sP := s4.alloc (.cells #[.int .i64 1, .int .i64 x, .int .i64 y, .int .i64 x2, .int .i64 y2, .int .i64 n, .string ⟨#[]⟩] 26)
    go_wp2_with fail
    refine (text_any b a len cap z (p3 + 1) 16 (by omega) _ rP (by omega)).mono ?_
    rintro e w5 ⟨t, p5, rfl, ht, hp5, r5, k5⟩
    have z5 := k5.size
    simp at z5
    have c5 := fun j => (k5.cell (p := ⟨w.heap.size, j, none⟩) (by simp; omega) (by simp; omega)).trans ((eP.cell (p := ⟨w.heap.size, j, none⟩) hWP).trans (c4 j))
    have f5 := fun j => (k5.frozen (p := ⟨w.heap.size, j, none⟩) (by simp; omega) (by simp; omega)).trans ((eP.frozen (p := ⟨w.heap.size, j, none⟩) hWP).trans (f4 j))
    have d5 := fun j => (k5.cell (p := ⟨w4.heap.size, j, none⟩) (by simp) (by simp; omega))
    have g5 := fun j => (k5.frozen (p := ⟨w4.heap.size, j, none⟩) (by simp) (by simp; omega))
    have s5 := sP.trans k5
    have q5 : RA b a len cap z w w5 p5 := ⟨r5, s5⟩
    have q6 := q5.set h ⟨w4.heap.size, 6, none⟩ (.string (t ++ ⟨#[97]⟩)) (by show w.heap.size ≤ w4.heap.size; omega)
    clear eP sP k5 rP r4 s4 c4 f4 r5 s5 q5
    go_wp2_with fail
    refine (pick_any b a len cap z p5 _ _ q6.rd (by omega) (by omega)).mono ?_
    rintro e w6 ⟨v, rfl, hu0, hu1, r6, k6⟩
    have TTs : (t ++ ⟨#[97]⟩).size ≤ 20 := by have e1 : (⟨#[97]⟩ : ByteArray).size = 1 := rfl; rw [ByteArray.size_append]; omega
    have zW : w4.heap.size < (w5.setCell ⟨w4.heap.size, 6, none⟩ (.string (t ++ ⟨#[97]⟩))).heap.size := by simp [World.setCell] <;> omega
    have sW : ∀ j, j ≠ 6 → (w5.setCell ⟨w4.heap.size, 6, none⟩ (.string (t ++ ⟨#[97]⟩))).cell? ⟨w4.heap.size, j, none⟩ = w5.cell? ⟨w4.heap.size, j, none⟩ := fun j hj => by
      have ne : (⟨w4.heap.size, 6, none⟩ : Addr) ≠ ⟨w4.heap.size, j, none⟩ := by simp <;> omega
      first | exact World.cell?_setCell_other _ _ _ ne | exact World.cell?_setCell_other _ _ _ _ ne | exact World.cell?_setCell_other _ _ ne
    have mW0 : (w5.setCell ⟨w4.heap.size, 6, none⟩ (.string (t ++ ⟨#[97]⟩))).cell? ⟨w4.heap.size, 0, none⟩ = some (.int .i64 1) := by rw [sW 0 (by omega), d5]; simp
    have mW1 : (w5.setCell ⟨w4.heap.size, 6, none⟩ (.string (t ++ ⟨#[97]⟩))).cell? ⟨w4.heap.size, 1, none⟩ = some (.int .i64 x) := by rw [sW 1 (by omega), d5]; simp
    have mW2 : (w5.setCell ⟨w4.heap.size, 6, none⟩ (.string (t ++ ⟨#[97]⟩))).cell? ⟨w4.heap.size, 2, none⟩ = some (.int .i64 y) := by rw [sW 2 (by omega), d5]; simp
    have mW3 : (w5.setCell ⟨w4.heap.size, 6, none⟩ (.string (t ++ ⟨#[97]⟩))).cell? ⟨w4.heap.size, 3, none⟩ = some (.int .i64 x2) := by rw [sW 3 (by omega), d5]; simp
    have mW4 : (w5.setCell ⟨w4.heap.size, 6, none⟩ (.string (t ++ ⟨#[97]⟩))).cell? ⟨w4.heap.size, 4, none⟩ = some (.int .i64 y2) := by rw [sW 4 (by omega), d5]; simp
    have mW5 : (w5.setCell ⟨w4.heap.size, 6, none⟩ (.string (t ++ ⟨#[97]⟩))).cell? ⟨w4.heap.size, 5, none⟩ = some (.int .i64 n) := by rw [sW 5 (by omega), d5]; simp
    have mW6 : (w5.setCell ⟨w4.heap.size, 6, none⟩ (.string (t ++ ⟨#[97]⟩))).cell? ⟨w4.heap.size, 6, none⟩ = some (.string (t ++ ⟨#[97]⟩)) := by
      have old : w5.cell? ⟨w4.heap.size, 6, none⟩ = some (.string ⟨#[]⟩) := by rw [d5]; simp
      first | exact World.cell?_setCell_same _ _ _ old | exact World.cell?_setCell_same _ _ old | exact World.cell?_setCell_same _ old
    have gW : ∀ j, (w5.setCell ⟨w4.heap.size, 6, none⟩ (.string (t ++ ⟨#[97]⟩))).frozen? ⟨w4.heap.size, j, none⟩ = false := fun j => by simp [g5]
    have cW : ∀ j, (w5.setCell ⟨w4.heap.size, 6, none⟩ (.string (t ++ ⟨#[97]⟩))).cell? ⟨w.heap.size, j, none⟩ = (w.alloc (.cells #[.int .i64 0, .int .i64 0, .int .i64 0, .int .i64 0, .int .i64 0, .int .i64 0, .string ⟨#[]⟩] 26)).cell? ⟨w.heap.size, j, none⟩ := fun j => by rw [cell_set (by show w4.heap.size ≠ w.heap.size; omega)]; exact c5 j
    have fW : ∀ j, (w5.setCell ⟨w4.heap.size, 6, none⟩ (.string (t ++ ⟨#[97]⟩))).frozen? ⟨w.heap.size, j, none⟩ = (w.alloc (.cells #[.int .i64 0, .int .i64 0, .int .i64 0, .int .i64 0, .int .i64 0, .int .i64 0, .string ⟨#[]⟩] 26)).frozen? ⟨w.heap.size, j, none⟩ := fun j => by simp only [World.frozen?_setCell]; exact f5 j
    have qW := q6
    clear q6 d5 g5 c5 f5 sW
    generalize t ++ ⟨#[97]⟩ = T at *
    generalize hww : w5.setCell ⟨w4.heap.size, 6, none⟩ (.string T) = wW at *
    clear hww
    have m6 := fun j => k6.cell (p := ⟨w4.heap.size, j, none⟩) hPb
    have g6 := fun j => k6.frozen (p := ⟨w4.heap.size, j, none⟩) hPb
    have c6 := fun j => (k6.cell (p := ⟨w.heap.size, j, none⟩) hRb).trans (cW j)
    have f6 := fun j => (k6.frozen (p := ⟨w.heap.size, j, none⟩) hRb).trans (fW j)
    have z6 : w4.heap.size < w6.heap.size := by rw [k6.size]; exact zW
    have P0 := (m6 0).trans mW0
    have P1 := (m6 1).trans mW1
    have P2 := (m6 2).trans mW2
    have P3 := (m6 3).trans mW3
    have P4 := (m6 4).trans mW4
    have P5 := (m6 5).trans mW5
    have P6 := (m6 6).trans mW6
    have G6 := fun j => (g6 j).trans (gW j)
    have q6 : RA b a len cap z w w6 (p5 + 1) := ⟨r6, qW.sd.but k6⟩
    clear m6 g6 mW0 mW1 mW2 mW3 mW4 mW5 mW6 gW cW fW zW qW k6 r6
    by_cases e0 : v = 0
    · subst e0
      go_wp2_with fail
      refine (pick_any b a len cap z (p5 + 1) _ _ q6.rd (by omega) (by omega)).mono ?_
      rintro e w8 ⟨kn, rfl, h80, h81, r8, k8⟩
      have c8 := fun j => (k8.cell (p := ⟨w.heap.size, j, none⟩) hRb).trans (c6 j)
      have f8 := fun j => (k8.frozen (p := ⟨w.heap.size, j, none⟩) hRb).trans (f6 j)
      have Q0 := (k8.cell (p := ⟨w4.heap.size, 0, none⟩) hPb).trans P0
      have Q1 := (k8.cell (p := ⟨w4.heap.size, 1, none⟩) hPb).trans P1
      have Q2 := (k8.cell (p := ⟨w4.heap.size, 2, none⟩) hPb).trans P2
      have Q3 := (k8.cell (p := ⟨w4.heap.size, 3, none⟩) hPb).trans P3
      have Q4 := (k8.cell (p := ⟨w4.heap.size, 4, none⟩) hPb).trans P4
      have Q5 := (k8.cell (p := ⟨w4.heap.size, 5, none⟩) hPb).trans P5
      have Q6 := (k8.cell (p := ⟨w4.heap.size, 6, none⟩) hPb).trans P6
      have H8 := fun j => (k8.frozen (p := ⟨w4.heap.size, j, none⟩) hPb).trans (G6 j)
      have q8 : RA b a len cap z w w8 (p5 + 1 + 1) := ⟨r8, q6.sd.but k8⟩
      clear P0 P1 P2 P3 P4 P5 P6 G6 c6 f6 q6 r8 k8
      go_wp2_with fail
      refine bodyPost_ret (v := pktV kn x y x2 y2 n T) ?_ rfl ?_
      · simp [results, Tryz.results13, go_sem, c8]
      · refine ⟨_, _, _, _, _, _, _, p5 + 1 + 1, rfl, ⟨by omega, by omega, by omega, by omega, by omega, by omega, by omega, by omega, by omega, by omega, by omega, by omega, by omega⟩, by omega, RA.both ?_⟩
        repeat (refine RA.set ?_ h _ _ (by simp <;> omega))
        exact q8
    · have b0 : (v == 0) = false := by simpa using e0
      by_cases e1 : v = 1
      · subst e1
        have eN := (Below.refl w6.heap.size w6).alloc (Nat.le_refl _) (.cells #[.int .i64 (-1), .int .i64 99, .int .i64 100] 3)
        have q7 : RA b a len cap z w (w6.alloc (.cells #[.int .i64 (-1), .int .i64 99, .int .i64 100] 3)) (p5 + 1) := ⟨q6.rd.below eN, q6.sd.alloc _⟩
        have h6b : b < w6.heap.size := blk q6.rd.c0
        go_wp2_with fail
        refine (pick_any b a len cap z (p5 + 1) _ _ q7.rd (by omega) (by omega)).mono ?_
        rintro e w8 ⟨kn, rfl, h80, h81, r8, k8⟩
        have c8 := fun j => ((k8.cell (p := ⟨w.heap.size, j, none⟩) hRb).trans (eN.cell (p := ⟨w.heap.size, j, none⟩) (Nat.lt_trans hWP z6))).trans (c6 j)
        have f8 := fun j => ((k8.frozen (p := ⟨w.heap.size, j, none⟩) hRb).trans (eN.frozen (p := ⟨w.heap.size, j, none⟩) (Nat.lt_trans hWP z6))).trans (f6 j)
        have Q0 := ((k8.cell (p := ⟨w4.heap.size, 0, none⟩) hPb).trans (eN.cell (p := ⟨w4.heap.size, 0, none⟩) z6)).trans P0
        have Q1 := ((k8.cell (p := ⟨w4.heap.size, 1, none⟩) hPb).trans (eN.cell (p := ⟨w4.heap.size, 1, none⟩) z6)).trans P1
        have Q2 := ((k8.cell (p := ⟨w4.heap.size, 2, none⟩) hPb).trans (eN.cell (p := ⟨w4.heap.size, 2, none⟩) z6)).trans P2
        have Q3 := ((k8.cell (p := ⟨w4.heap.size, 3, none⟩) hPb).trans (eN.cell (p := ⟨w4.heap.size, 3, none⟩) z6)).trans P3
        have Q4 := ((k8.cell (p := ⟨w4.heap.size, 4, none⟩) hPb).trans (eN.cell (p := ⟨w4.heap.size, 4, none⟩) z6)).trans P4
        have Q5 := ((k8.cell (p := ⟨w4.heap.size, 5, none⟩) hPb).trans (eN.cell (p := ⟨w4.heap.size, 5, none⟩) z6)).trans P5
        have Q6 := ((k8.cell (p := ⟨w4.heap.size, 6, none⟩) hPb).trans (eN.cell (p := ⟨w4.heap.size, 6, none⟩) z6)).trans P6
        have H8 := fun j => ((k8.frozen (p := ⟨w4.heap.size, j, none⟩) hPb).trans (eN.frozen (p := ⟨w4.heap.size, j, none⟩) z6)).trans (G6 j)
        have N0 : w8.cell? ⟨w6.heap.size, 0, none⟩ = some (.int .i64 (-1)) := by rw [k8.cell (p := ⟨w6.heap.size, 0, none⟩) (by show w6.heap.size ≠ b; omega)]; simp
        have N1 : w8.cell? ⟨w6.heap.size, 1, none⟩ = some (.int .i64 99) := by rw [k8.cell (p := ⟨w6.heap.size, 1, none⟩) (by show w6.heap.size ≠ b; omega)]; simp
        have N2 : w8.cell? ⟨w6.heap.size, 2, none⟩ = some (.int .i64 100) := by rw [k8.cell (p := ⟨w6.heap.size, 2, none⟩) (by show w6.heap.size ≠ b; omega)]; simp
        have q8 : RA b a len cap z w w8 (p5 + 1 + 1) := ⟨r8, q7.sd.but k8⟩
        clear P0 P1 P2 P3 P4 P5 P6 G6 c6 f6 q6 q7 eN r8 k8
        have h3 : kn = 0 ∨ kn = 1 ∨ kn = 2 := by omega
        rcases h3 with rfl | rfl | rfl
        · go_wp2_with fail
          refine bodyPost_ret (v := pktV 1 x y x2 y2 (-1) T) ?_ rfl ?_
          · simp [results, Tryz.results13, go_sem, c8]
          · refine ⟨_, _, _, _, _, _, _, p5 + 1 + 1, rfl, ⟨by omega, by omega, by omega, by omega, by omega, by omega, by omega, by omega, by omega, by omega, by omega, by omega, by omega⟩, by omega, RA.both ?_⟩
            repeat (refine RA.set ?_ h _ _ (by simp <;> omega))
            exact q8
        · go_wp2_with fail
          refine bodyPost_ret (v := pktV 1 x y x2 y2 99 T) ?_ rfl ?_
          · simp [results, Tryz.results13, go_sem, c8]
          · refine ⟨_, _, _, _, _, _, _, p5 + 1 + 1, rfl, ⟨by omega, by omega, by omega, by omega, by omega, by omega, by omega, by omega, by omega, by omega, by omega, by omega, by omega⟩, by omega, RA.both ?_⟩
            repeat (refine RA.set ?_ h _ _ (by simp <;> omega))
            exact q8
        · go_wp2_with fail
          refine bodyPost_ret (v := pktV 1 x y x2 y2 100 T) ?_ rfl ?_
          · simp [results, Tryz.results13, go_sem, c8]
          · refine ⟨_, _, _, _, _, _, _, p5 + 1 + 1, rfl, ⟨by omega, by omega, by omega, by omega, by omega, by omega, by omega, by omega, by omega, by omega, by omega, by omega, by omega⟩, by omega, RA.both ?_⟩
            repeat (refine RA.set ?_ h _ _ (by simp <;> omega))
            exact q8
      · have b1 : (v == 1) = false := by simpa using e1
        by_cases e2 : v = 2
        · subst e2
          have eN := (Below.refl w6.heap.size w6).alloc (Nat.le_refl _) (.cells (S3.map Value.string).toArray 9)
          have q7 : RA b a len cap z w (w6.alloc (.cells (S3.map Value.string).toArray 9)) (p5 + 1) := ⟨q6.rd.below eN, q6.sd.alloc _⟩
          have h6b : b < w6.heap.size := blk q6.rd.c0
          have hl := list_cells w6 9 S3
          go_wp2_with fail
          refine (ofs_any b a len cap z (p5 + 1) w6.heap.size 3 (fun i => S3.getD i ⟨#[]⟩) _ q7.rd (by omega) (by omega) (by omega) hl).mono ?_
          rintro e w8 ⟨j3, _, rfl, r8, k8⟩
          have hX := S3_short j3
          have q8 : RA b a len cap z w w8 (p5 + 1 + 1) := ⟨r8, q7.sd.but k8⟩
          have c8 := fun j => ((k8.cell (p := ⟨w.heap.size, j, none⟩) hRb).trans (eN.cell (p := ⟨w.heap.size, j, none⟩) (Nat.lt_trans hWP z6))).trans (c6 j)
          have f8 := fun j => ((k8.frozen (p := ⟨w.heap.size, j, none⟩) hRb).trans (eN.frozen (p := ⟨w.heap.size, j, none⟩) (Nat.lt_trans hWP z6))).trans (f6 j)
          have Q0 := ((k8.cell (p := ⟨w4.heap.size, 0, none⟩) hPb).trans (eN.cell (p := ⟨w4.heap.size, 0, none⟩) z6)).trans P0
          have Q1 := ((k8.cell (p := ⟨w4.heap.size, 1, none⟩) hPb).trans (eN.cell (p := ⟨w4.heap.size, 1, none⟩) z6)).trans P1
          have Q2 := ((k8.cell (p := ⟨w4.heap.size, 2, none⟩) hPb).trans (eN.cell (p := ⟨w4.heap.size, 2, none⟩) z6)).trans P2
          have Q3 := ((k8.cell (p := ⟨w4.heap.size, 3, none⟩) hPb).trans (eN.cell (p := ⟨w4.heap.size, 3, none⟩) z6)).trans P3
          have Q4 := ((k8.cell (p := ⟨w4.heap.size, 4, none⟩) hPb).trans (eN.cell (p := ⟨w4.heap.size, 4, none⟩) z6)).trans P4
          have Q5 := ((k8.cell (p := ⟨w4.heap.size, 5, none⟩) hPb).trans (eN.cell (p := ⟨w4.heap.size, 5, none⟩) z6)).trans P5
          have Q6 := ((k8.cell (p := ⟨w4.heap.size, 6, none⟩) hPb).trans (eN.cell (p := ⟨w4.heap.size, 6, none⟩) z6)).trans P6
          have H8 := fun j => ((k8.frozen (p := ⟨w4.heap.size, j, none⟩) hPb).trans (eN.frozen (p := ⟨w4.heap.size, j, none⟩) z6)).trans (G6 j)
          generalize S3.getD j3 ⟨#[]⟩ = X at hX
          clear P0 P1 P2 P3 P4 P5 P6 G6 c6 f6 q6 q7 eN r8 k8 hl
          go_wp2_with fail
          refine bodyPost_ret (v := pktV 1 x y x2 y2 n X) ?_ rfl ?_
          · simp [results, Tryz.results13, go_sem, c8]
          · refine ⟨_, _, _, _, _, _, _, p5 + 1 + 1, rfl, ⟨by omega, by omega, by omega, by omega, by omega, by omega, by omega, by omega, by omega, by omega, by omega, by omega, by omega⟩, by omega, RA.both ?_⟩
            repeat (refine RA.set ?_ h _ _ (by simp <;> omega))
            exact q8
        · have b2 : (v == 2) = false := by simpa using e2
          go_wp2_with fail
          refine bodyPost_ret (v := pktV 1 x y x2 y2 n T) ?_ rfl ?_
          · simp [results, Tryz.results13, go_sem, c6]
          · refine ⟨_, _, _, _, _, _, _, p5 + 1, rfl, ⟨by omega, by omega, by omega, by omega, by omega, by omega, by omega, by omega, by omega, by omega, by omega, by omega, by omega⟩, by omega, RA.both ?_⟩
            repeat (refine RA.set ?_ h _ _ (by simp <;> omega))
            exact q6
  · obtain rfl : v1 = 1 := by omega
    have rP := r4.below ((Below.refl _ _).alloc (Nat.le_refl _) (.cells #[.int .i64 2, .int .i64 x, .int .i64 y, .int .i64 x2, .int .i64 y2, .int .i64 n, .string ⟨#[]⟩] 26))
    have sP := s4.alloc (.cells #[.int .i64 2, .int .i64 x, .int .i64 y, .int .i64 x2, .int .i64 y2, .int .i64 n, .string ⟨#[]⟩] 26)
    go_wp2_with fail
    refine (pick_any b a len cap z (p3 + 1) _ _ rP (by omega) (by omega)).mono ?_
    rintro e w6 ⟨v, rfl, hu0, hu1, r6, k6⟩
    have mW0 : (w4.alloc (.cells #[.int .i64 2, .int .i64 x, .int .i64 y, .int .i64 x2, .int .i64 y2, .int .i64 n, .string ⟨#[]⟩] 26)).cell? ⟨w4.heap.size, 0, none⟩ = some (.int .i64 2) := by simp
    have mW1 : (w4.alloc (.cells #[.int .i64 2, .int .i64 x, .int .i64 y, .int .i64 x2, .int .i64 y2, .int .i64 n, .string ⟨#[]⟩] 26)).cell? ⟨w4.heap.size, 1, none⟩ = some (.int .i64 x) := by simp
    have mW2 : (w4.alloc (.cells #[.int .i64 2, .int .i64 x, .int .i64 y, .int .i64 x2, .int .i64 y2, .int .i64 n, .string ⟨#[]⟩] 26)).cell? ⟨w4.heap.size, 2, none⟩ = some (.int .i64 y) := by simp
    have mW3 : (w4.alloc (.cells #[.int .i64 2, .int .i64 x, .int .i64 y, .int .i64 x2, .int .i64 y2, .int .i64 n, .string ⟨#[]⟩] 26)).cell? ⟨w4.heap.size, 3, none⟩ = some (.int .i64 x2) := by simp
    have mW4 : (w4.alloc (.cells #[.int .i64 2, .int .i64 x, .int .i64 y, .int .i64 x2, .int .i64 y2, .int .i64 n, .string ⟨#[]⟩] 26)).cell? ⟨w4.heap.size, 4, none⟩ = some (.int .i64 y2) := by simp
    have mW5 : (w4.alloc (.cells #[.int .i64 2, .int .i64 x, .int .i64 y, .int .i64 x2, .int .i64 y2, .int .i64 n, .string ⟨#[]⟩] 26)).cell? ⟨w4.heap.size, 5, none⟩ = some (.int .i64 n) := by simp
    have mW6 : (w4.alloc (.cells #[.int .i64 2, .int .i64 x, .int .i64 y, .int .i64 x2, .int .i64 y2, .int .i64 n, .string ⟨#[]⟩] 26)).cell? ⟨w4.heap.size, 6, none⟩ = some (.string ⟨#[]⟩) := by simp
    have gW : ∀ j, (w4.alloc (.cells #[.int .i64 2, .int .i64 x, .int .i64 y, .int .i64 x2, .int .i64 y2, .int .i64 n, .string ⟨#[]⟩] 26)).frozen? ⟨w4.heap.size, j, none⟩ = false := fun j => by simp
    have eP := (Below.refl w4.heap.size w4).alloc (Nat.le_refl _) (.cells #[.int .i64 2, .int .i64 x, .int .i64 y, .int .i64 x2, .int .i64 y2, .int .i64 n, .string ⟨#[]⟩] 26)
    have cW := fun j => (eP.cell (p := ⟨w.heap.size, j, none⟩) hWP).trans (c4 j)
    have fW := fun j => (eP.frozen (p := ⟨w.heap.size, j, none⟩) hWP).trans (f4 j)
    have zW : w4.heap.size < (w4.alloc (.cells #[.int .i64 2, .int .i64 x, .int .i64 y, .int .i64 x2, .int .i64 y2, .int .i64 n, .string ⟨#[]⟩] 26)).heap.size := by simp
    have qW : RA b a len cap z w (w4.alloc (.cells #[.int .i64 2, .int .i64 x, .int .i64 y, .int .i64 x2, .int .i64 y2, .int .i64 n, .string ⟨#[]⟩] 26)) (p3 + 1) := ⟨rP, sP⟩
    have TTs : (⟨#[]⟩ : ByteArray).size ≤ 20 := Nat.zero_le _
    clear eP rP sP c4 f4 r4 s4
    generalize hww : w4.alloc (.cells #[.int .i64 2, .int .i64 x, .int .i64 y, .int .i64 x2, .int .i64 y2, .int .i64 n, .string ⟨#[]⟩] 26) = wW at *
    clear hww
    have m6 := fun j => k6.cell (p := ⟨w4.heap.size, j, none⟩) hPb
    have g6 := fun j => k6.frozen (p := ⟨w4.heap.size, j, none⟩) hPb
    have c6 := fun j => (k6.cell (p := ⟨w.heap.size, j, none⟩) hRb).trans (cW j)
    have f6 := fun j => (k6.frozen (p := ⟨w.heap.size, j, none⟩) hRb).trans (fW j)
    have z6 : w4.heap.size < w6.heap.size := by rw [k6.size]; exact zW
    have P0 := (m6 0).trans mW0
    have P1 := (m6 1).trans mW1
    have P2 := (m6 2).trans mW2
    have P3 := (m6 3).trans mW3
    have P4 := (m6 4).trans mW4
    have P5 := (m6 5).trans mW5
    have P6 := (m6 6).trans mW6
    have G6 := fun j => (g6 j).trans (gW j)
    have q6 : RA b a len cap z w w6 ((p3 + 1) + 1) := ⟨r6, qW.sd.but k6⟩
    clear m6 g6 mW0 mW1 mW2 mW3 mW4 mW5 mW6 gW cW fW zW qW k6 r6
    by_cases e0 : v = 0
    · subst e0
      go_wp2_with fail
      refine (pick_any b a len cap z ((p3 + 1) + 1) _ _ q6.rd (by omega) (by omega)).mono ?_
      rintro e w8 ⟨kn, rfl, h80, h81, r8, k8⟩
      have c8 := fun j => (k8.cell (p := ⟨w.heap.size, j, none⟩) hRb).trans (c6 j)
      have f8 := fun j => (k8.frozen (p := ⟨w.heap.size, j, none⟩) hRb).trans (f6 j)
      have Q0 := (k8.cell (p := ⟨w4.heap.size, 0, none⟩) hPb).trans P0
      have Q1 := (k8.cell (p := ⟨w4.heap.size, 1, none⟩) hPb).trans P1
      have Q2 := (k8.cell (p := ⟨w4.heap.size, 2, none⟩) hPb).trans P2
      have Q3 := (k8.cell (p := ⟨w4.heap.size, 3, none⟩) hPb).trans P3
      have Q4 := (k8.cell (p := ⟨w4.heap.size, 4, none⟩) hPb).trans P4
      have Q5 := (k8.cell (p := ⟨w4.heap.size, 5, none⟩) hPb).trans P5
      have Q6 := (k8.cell (p := ⟨w4.heap.size, 6, none⟩) hPb).trans P6
      have H8 := fun j => (k8.frozen (p := ⟨w4.heap.size, j, none⟩) hPb).trans (G6 j)
      have q8 : RA b a len cap z w w8 ((p3 + 1) + 1 + 1) := ⟨r8, q6.sd.but k8⟩
      clear P0 P1 P2 P3 P4 P5 P6 G6 c6 f6 q6 r8 k8
      go_wp2_with fail
      refine bodyPost_ret (v := pktV kn x y x2 y2 n ⟨#[]⟩) ?_ rfl ?_
      · simp [results, Tryz.results13, go_sem, c8]
      · refine ⟨_, _, _, _, _, _, _, (p3 + 1) + 1 + 1, rfl, ⟨by omega, by omega, by omega, by omega, by omega, by omega, by omega, by omega, by omega, by omega, by omega, by omega, by omega⟩, by omega, RA.both ?_⟩
        repeat (refine RA.set ?_ h _ _ (by simp <;> omega))
        exact q8
    · have b0 : (v == 0) = false := by simpa using e0
      by_cases e1 : v = 1
      · subst e1
        have eN := (Below.refl w6.heap.size w6).alloc (Nat.le_refl _) (.cells #[.int .i64 (-1), .int .i64 99, .int .i64 100] 3)
        have q7 : RA b a len cap z w (w6.alloc (.cells #[.int .i64 (-1), .int .i64 99, .int .i64 100] 3)) ((p3 + 1) + 1) := ⟨q6.rd.below eN, q6.sd.alloc _⟩
        have h6b : b < w6.heap.size := blk q6.rd.c0
        go_wp2_with fail
        refine (pick_any b a len cap z ((p3 + 1) + 1) _ _ q7.rd (by omega) (by omega)).mono ?_
        rintro e w8 ⟨kn, rfl, h80, h81, r8, k8⟩
        have c8 := fun j => ((k8.cell (p := ⟨w.heap.size, j, none⟩) hRb).trans (eN.cell (p := ⟨w.heap.size, j, none⟩) (Nat.lt_trans hWP z6))).trans (c6 j)
        have f8 := fun j => ((k8.frozen (p := ⟨w.heap.size, j, none⟩) hRb).trans (eN.frozen (p := ⟨w.heap.size, j, none⟩) (Nat.lt_trans hWP z6))).trans (f6 j)
        have Q0 := ((k8.cell (p := ⟨w4.heap.size, 0, none⟩) hPb).trans (eN.cell (p := ⟨w4.heap.size, 0, none⟩) z6)).trans P0
        have Q1 := ((k8.cell (p := ⟨w4.heap.size, 1, none⟩) hPb).trans (eN.cell (p := ⟨w4.heap.size, 1, none⟩) z6)).trans P1
        have Q2 := ((k8.cell (p := ⟨w4.heap.size, 2, none⟩) hPb).trans (eN.cell (p := ⟨w4.heap.size, 2, none⟩) z6)).trans P2
        have Q3 := ((k8.cell (p := ⟨w4.heap.size, 3, none⟩) hPb).trans (eN.cell (p := ⟨w4.heap.size, 3, none⟩) z6)).trans P3
        have Q4 := ((k8.cell (p := ⟨w4.heap.size, 4, none⟩) hPb).trans (eN.cell (p := ⟨w4.heap.size, 4, none⟩) z6)).trans P4
        have Q5 := ((k8.cell (p := ⟨w4.heap.size, 5, none⟩) hPb).trans (eN.cell (p := ⟨w4.heap.size, 5, none⟩) z6)).trans P5
        have Q6 := ((k8.cell (p := ⟨w4.heap.size, 6, none⟩) hPb).trans (eN.cell (p := ⟨w4.heap.size, 6, none⟩) z6)).trans P6
        have H8 := fun j => ((k8.frozen (p := ⟨w4.heap.size, j, none⟩) hPb).trans (eN.frozen (p := ⟨w4.heap.size, j, none⟩) z6)).trans (G6 j)
        have N0 : w8.cell? ⟨w6.heap.size, 0, none⟩ = some (.int .i64 (-1)) := by rw [k8.cell (p := ⟨w6.heap.size, 0, none⟩) (by show w6.heap.size ≠ b; omega)]; simp
        have N1 : w8.cell? ⟨w6.heap.size, 1, none⟩ = some (.int .i64 99) := by rw [k8.cell (p := ⟨w6.heap.size, 1, none⟩) (by show w6.heap.size ≠ b; omega)]; simp
        have N2 : w8.cell? ⟨w6.heap.size, 2, none⟩ = some (.int .i64 100) := by rw [k8.cell (p := ⟨w6.heap.size, 2, none⟩) (by show w6.heap.size ≠ b; omega)]; simp
        have q8 : RA b a len cap z w w8 ((p3 + 1) + 1 + 1) := ⟨r8, q7.sd.but k8⟩
        clear P0 P1 P2 P3 P4 P5 P6 G6 c6 f6 q6 q7 eN r8 k8
        have h3 : kn = 0 ∨ kn = 1 ∨ kn = 2 := by omega
        rcases h3 with rfl | rfl | rfl
        · go_wp2_with fail
          refine bodyPost_ret (v := pktV 2 x y x2 y2 (-1) ⟨#[]⟩) ?_ rfl ?_
          · simp [results, Tryz.results13, go_sem, c8]
          · refine ⟨_, _, _, _, _, _, _, (p3 + 1) + 1 + 1, rfl, ⟨by omega, by omega, by omega, by omega, by omega, by omega, by omega, by omega, by omega, by omega, by omega, by omega, by omega⟩, by omega, RA.both ?_⟩
            repeat (refine RA.set ?_ h _ _ (by simp <;> omega))
            exact q8
        · go_wp2_with fail
          refine bodyPost_ret (v := pktV 2 x y x2 y2 99 ⟨#[]⟩) ?_ rfl ?_
          · simp [results, Tryz.results13, go_sem, c8]
          · refine ⟨_, _, _, _, _, _, _, (p3 + 1) + 1 + 1, rfl, ⟨by omega, by omega, by omega, by omega, by omega, by omega, by omega, by omega, by omega, by omega, by omega, by omega, by omega⟩, by omega, RA.both ?_⟩
            repeat (refine RA.set ?_ h _ _ (by simp <;> omega))
            exact q8
        · go_wp2_with fail
          refine bodyPost_ret (v := pktV 2 x y x2 y2 100 ⟨#[]⟩) ?_ rfl ?_
          · simp [results, Tryz.results13, go_sem, c8]
          · refine ⟨_, _, _, _, _, _, _, (p3 + 1) + 1 + 1, rfl, ⟨by omega, by omega, by omega, by omega, by omega, by omega, by omega, by omega, by omega, by omega, by omega, by omega, by omega⟩, by omega, RA.both ?_⟩
            repeat (refine RA.set ?_ h _ _ (by simp <;> omega))
            exact q8
      · have b1 : (v == 1) = false := by simpa using e1
        by_cases e2 : v = 2
        · subst e2
          have eN := (Below.refl w6.heap.size w6).alloc (Nat.le_refl _) (.cells (S3.map Value.string).toArray 9)
          have q7 : RA b a len cap z w (w6.alloc (.cells (S3.map Value.string).toArray 9)) ((p3 + 1) + 1) := ⟨q6.rd.below eN, q6.sd.alloc _⟩
          have h6b : b < w6.heap.size := blk q6.rd.c0
          have hl := list_cells w6 9 S3
          go_wp2_with fail
          refine (ofs_any b a len cap z ((p3 + 1) + 1) w6.heap.size 3 (fun i => S3.getD i ⟨#[]⟩) _ q7.rd (by omega) (by omega) (by omega) hl).mono ?_
          rintro e w8 ⟨j3, _, rfl, r8, k8⟩
          have hX := S3_short j3
          have q8 : RA b a len cap z w w8 ((p3 + 1) + 1 + 1) := ⟨r8, q7.sd.but k8⟩
          have c8 := fun j => ((k8.cell (p := ⟨w.heap.size, j, none⟩) hRb).trans (eN.cell (p := ⟨w.heap.size, j, none⟩) (Nat.lt_trans hWP z6))).trans (c6 j)
          have f8 := fun j => ((k8.frozen (p := ⟨w.heap.size, j, none⟩) hRb).trans (eN.frozen (p := ⟨w.heap.size, j, none⟩) (Nat.lt_trans hWP z6))).trans (f6 j)
          have Q0 := ((k8.cell (p := ⟨w4.heap.size, 0, none⟩) hPb).trans (eN.cell (p := ⟨w4.heap.size, 0, none⟩) z6)).trans P0
          have Q1 := ((k8.cell (p := ⟨w4.heap.size, 1, none⟩) hPb).trans (eN.cell (p := ⟨w4.heap.size, 1, none⟩) z6)).trans P1
          have Q2 := ((k8.cell (p := ⟨w4.heap.size, 2, none⟩) hPb).trans (eN.cell (p := ⟨w4.heap.size, 2, none⟩) z6)).trans P2
          have Q3 := ((k8.cell (p := ⟨w4.heap.size, 3, none⟩) hPb).trans (eN.cell (p := ⟨w4.heap.size, 3, none⟩) z6)).trans P3
          have Q4 := ((k8.cell (p := ⟨w4.heap.size, 4, none⟩) hPb).trans (eN.cell (p := ⟨w4.heap.size, 4, none⟩) z6)).trans P4
          have Q5 := ((k8.cell (p := ⟨w4.heap.size, 5, none⟩) hPb).trans (eN.cell (p := ⟨w4.heap.size, 5, none⟩) z6)).trans P5
          have Q6 := ((k8.cell (p := ⟨w4.heap.size, 6, none⟩) hPb).trans (eN.cell (p := ⟨w4.heap.size, 6, none⟩) z6)).trans P6
          have H8 := fun j => ((k8.frozen (p := ⟨w4.heap.size, j, none⟩) hPb).trans (eN.frozen (p := ⟨w4.heap.size, j, none⟩) z6)).trans (G6 j)
          generalize S3.getD j3 ⟨#[]⟩ = X at hX
          clear P0 P1 P2 P3 P4 P5 P6 G6 c6 f6 q6 q7 eN r8 k8 hl
          go_wp2_with fail
          refine bodyPost_ret (v := pktV 2 x y x2 y2 n X) ?_ rfl ?_
          · simp [results, Tryz.results13, go_sem, c8]
          · refine ⟨_, _, _, _, _, _, _, (p3 + 1) + 1 + 1, rfl, ⟨by omega, by omega, by omega, by omega, by omega, by omega, by omega, by omega, by omega, by omega, by omega, by omega, by omega⟩, by omega, RA.both ?_⟩
            repeat (refine RA.set ?_ h _ _ (by simp <;> omega))
            exact q8
        · have b2 : (v == 2) = false := by simpa using e2
          go_wp2_with fail
          refine bodyPost_ret (v := pktV 2 x y x2 y2 n ⟨#[]⟩) ?_ rfl ?_
          · simp [results, Tryz.results13, go_sem, c6]
          · refine ⟨_, _, _, _, _, _, _, (p3 + 1) + 1, rfl, ⟨by omega, by omega, by omega, by omega, by omega, by omega, by omega, by omega, by omega, by omega, by omega, by omega, by omega⟩, by omega, RA.both ?_⟩
            repeat (refine RA.set ?_ h _ _ (by simp <;> omega))
            exact q6


set_option maxRecDepth 8000 in
set_option maxHeartbeats 4000000 in
theorem drawPktText (a : Option Addr) (len cap : Nat) (z : Nat → Int) (w : World) (h : CodeIn w a len cap z) :
    Calls Tryz.prog 6 #[.slice a len cap] w fun e w' => ∃ k x y x2 y2 n t, e = .returned (pktV k x y x2 y2 n t) ∧ Small k x y x2 y2 n t ∧ Below w.heap.size w w' := by
  have eR := (Below.refl w.heap.size w).alloc (Nat.le_refl _) (.cells #[.int .i64 0, .int .i64 0, .int .i64 0, .int .i64 0, .int .i64 0, .int .i64 0, .string ⟨#[]⟩] 26)
  have hin := h.below eR
  go_enter Tryz.func6, Tryz.ntmps6
  go_wp2_with fail
  refine (open_any a len cap z _ hin).mono ?_
  rintro e w1 ⟨b, len', rfl, hbs, r1, k1⟩
  have hb1 : b < w1.heap.size := blk r1.c0
  simp at hbs
  have hb0 : w.heap.size < b := by omega
  clear hbs
  have z1 := k1.size
  simp at z1
  have c1 := keepc k1 w.heap.size (by simp)
  have f1 := keepf k1 w.heap.size (by simp)
  have bel1 := eR.trans (k1.mono (by simp))
  clear k1 eR hin
  go_wp2_with fail
  refine (pkt_any b a len' cap z 0 _ r1 (by omega)).mono ?_
  rintro e w2 ⟨k, x, y, x2, y2, n, t, p2, rfl, sm, hp2, r2, s2⟩
  have z2 := s2.size
  have c2 := fun j => (s2.cell (p := ⟨w.heap.size, j, none⟩) (by show w.heap.size < _; omega) (by show w.heap.size ≠ b; omega)).trans (c1 j)
  have f2 := fun j => (s2.frozen (p := ⟨w.heap.size, j, none⟩) (by show w.heap.size < _; omega) (by show w.heap.size ≠ b; omega)).trans (f1 j)
  have bel2 := bel1.trans (s2.below (B := w.heap.size) (by omega) (by omega))
  go_wp2_with fail
  refine bodyPost_ret (v := pktV k x y x2 y2 n t) ?_ rfl ?_
  · simp [results, Tryz.results6, go_sem, c2]
  · refine ⟨_, _, _, _, _, _, _, rfl, sm, ?_⟩
    repeat (refine Below.setCell ?_ (by simp <;> omega) _)
    exact bel2
end Go.Proofs.YtnjggammbebpkaaGreatDoor.PkD

/- Lists of pairs in memory: how they read. -/
import Derived.Test.YtfmjhbdbgcgoiaaGreatDoorMp
import Derived.Test.YtfmjhbdbgcgoiaaGreatDoorApp
import Derived.Test.YtfmjhbdbgcgoiaaGreatDoorEndV
import Derived.Deep.RegionWith
import Derived.Deep.QuietTactic
import Derived.BigQuiet
import Derived.OwnWalk
import Derived.Maps.AppendAt
namespace Go.Proofs.YtfmjhbdbgcgoiaaGreatDoor.Mm
open Go.RowKit Go.Proofs.YtfmjhbdbgcgoiaaGreatDoor.Kit Go.Proofs.YtfmjhbdbgcgoiaaGreatDoor.Mp Go.Proofs.YtfmjhbdbgcgoiaaGreatDoor.App
set_option linter.unusedSimpArgs false

/-- pairs, cell by cell -/
def cellsM (m : List (Int × Int × Int)) : List Value := m.flatMap fun p => [.int .i64 p.1, .int .i64 p.2.1, .int .i64 p.2.2]
theorem cellsM_snoc (m : List (Int × Int × Int)) (p : Int × Int × Int) : cellsM (m ++ [p]) = cellsM m ++ [.int .i64 p.1, .int .i64 p.2.1, .int .i64 p.2.2] := by simp [cellsM]
theorem cellsM_len (m : List (Int × Int × Int)) : (cellsM m).length = m.length * 3 := by
  induction m with
  | nil => rfl
  | cons p m ih =>
    have : cellsM (p :: m) = .int .i64 p.1 :: .int .i64 p.2.1 :: .int .i64 p.2.2 :: cellsM m := by simp [cellsM]
    rw [this]; simp only [List.length_cons]; omega
theorem cellsM_one (m : List (Int × Int × Int)) : ∀ u ∈ cellsM m, u.oneCell' = true := by
  intro u hu
  simp only [cellsM, List.mem_flatMap] at hu
  obtain ⟨p, _, hp⟩ := hu
  simp at hp
  rcases hp with rfl | rfl | rfl <;> rfl
theorem infoM : (Tryz.prog.info? 58).map (fun i => (i.zero, i.size, i.bytes)) = some (some (.agg #[.int .i64 0, .int .i64 0, .int .i64 0]), 3, 24) := by kernel_rfl

/-- the three cells of a pair -/
def At3 (W : World) (g o : Nat) (p : Int × Int × Int) : Prop := W.cell? ⟨g, o, none⟩ = some (.int .i64 p.1) ∧ W.cell? ⟨g, o + 1, none⟩ = some (.int .i64 p.2.1) ∧ W.cell? ⟨g, o + 2, none⟩ = some (.int .i64 p.2.2)
theorem At3.same {W W' : World} {g o : Nat} {p : Int × Int × Int} (h : At3 W g o p) (k : W'.heap[g]? = W.heap[g]?) : At3 W' g o p := by
  have e : ∀ j, W'.cell? ⟨g, j, none⟩ = W.cell? ⟨g, j, none⟩ := fun j => World.cell?_of_block k
  exact ⟨(e _).trans h.1, (e _).trans h.2.1, (e _).trans h.2.2⟩
theorem At3.below {W W' : World} {g o : Nat} {p : Int × Int × Int} (h : At3 W g o p) (k : Below W.heap.size W W') : At3 W' g o p := h.same (k.block g (blk h.1))

/-- a slice that reads as pairs -/
def IsM (W : World) (v : Value) (m : List (Int × Int × Int)) : Prop :=
  (v = .slice none 0 0 ∧ m = []) ∨ ∃ g o cap, v = .slice (some ⟨g, o, none⟩) m.length cap ∧ m.length ≤ cap ∧ cap ≤ maxLen ∧ g < W.heap.size ∧ ∀ (i : Nat) (p : Int × Int × Int), m[i]? = some p → At3 W g (o + i * 3) p
theorem IsM.below {W W' : World} {v : Value} {m : List (Int × Int × Int)} (h : IsM W v m) (k : Below W.heap.size W W') : IsM W' v m := by
  rcases h with h | ⟨g, o, cap, h1, h2, h3, h5, h4⟩
  · exact .inl h
  · exact .inr ⟨g, o, cap, h1, h2, h3, Nat.lt_of_lt_of_le h5 k.size, fun i p hp => (h4 i p hp).below k⟩
theorem isM_slice {W : World} {v : Value} {m : List (Int × Int × Int)} (h : IsM W v m) : ∃ a c, v = .slice a m.length c := by
  rcases h with ⟨rfl, rfl⟩ | ⟨g, o, c, rfl, _⟩
  · exact ⟨none, 0, rfl⟩
  · exact ⟨_, _, rfl⟩
/-- the pair at a place -/
theorem isM_at {W : World} {a : Option Addr} {n c : Nat} {m : List (Int × Int × Int)} (h : IsM W (.slice a n c) m) (i : Nat) (p : Int × Int × Int) (hi : m[i]? = some p) : ∃ g o, a = some ⟨g, o, none⟩ ∧ n = m.length ∧ m.length ≤ c ∧ c ≤ maxLen ∧ At3 W g (o + i * 3) p := by
  rcases h with ⟨_, rfl⟩ | ⟨g, o, cap, h1, h2, h3, _, h4⟩
  · cases hi
  · simp at h1
    obtain ⟨rfl, rfl, rfl⟩ := h1
    exact ⟨g, o, rfl, rfl, h2, h3, h4 i p hi⟩
theorem cellsM_at (m : List (Int × Int × Int)) (i : Nat) (p : Int × Int × Int) (h : m[i]? = some p) : (cellsM m)[i * 3]? = some (.int .i64 p.1) ∧ (cellsM m)[i * 3 + 1]? = some (.int .i64 p.2.1) ∧ (cellsM m)[i * 3 + 2]? = some (.int .i64 p.2.2) := by
  induction m generalizing i with
  | nil => simp at h
  | cons q m ih =>
    have e : cellsM (q :: m) = .int .i64 q.1 :: .int .i64 q.2.1 :: .int .i64 q.2.2 :: cellsM m := by simp [cellsM]
    cases i with
    | zero => simp at h; subst h; rw [e]; simp
    | succ i =>
      simp at h
      have := ih i h
      rw [e]
      have s : ∀ j, ((.int .i64 q.1 : Value) :: .int .i64 q.2.1 :: .int .i64 q.2.2 :: cellsM m)[j + 3]? = (cellsM m)[j]? := fun j => rfl
      rw [show (i + 1) * 3 = i * 3 + 3 by omega, show i * 3 + 3 + 1 = i * 3 + 1 + 3 by omega, show i * 3 + 3 + 2 = i * 3 + 2 + 3 by omega, s, s, s]
      exact this
theorem isM_of_row {W : World} {b : Nat} {e : TypeId} {v : Value} {m : List (Int × Int × Int)} (h : W.ownsRow b e 3 v m.length (cellsM m)) : IsM W v m := by
  rcases h.2 with ⟨rfl, h0⟩ | ⟨g, cap, cur, rfl, hb, hg, hnc, hcm, hcs, htake⟩
  · exact .inl ⟨rfl, List.length_eq_zero_iff.1 h0⟩
  · refine .inr ⟨g, 0, cap, rfl, hnc, hcm, (Array.getElem?_eq_some_iff.1 hg).1, fun i p hp => ?_⟩
    have hi : i < m.length := (List.getElem?_eq_some_iff.1 hp).1
    have hat := cellsM_at m i p hp
    have key : ∀ (j : Nat) (u : Value), j < m.length * 3 → (cellsM m)[j]? = some u → W.cell? ⟨g, j, none⟩ = some u := by
      intro j u hj hu
      rw [← htake, List.getElem?_take_of_lt hj, Array.getElem?_toList] at hu
      simp [World.cell?, hg, hu]
    rw [Nat.zero_add]
    exact ⟨key _ _ (by omega) hat.1, key _ _ (by omega) hat.2.1, key _ _ (by omega) hat.2.2⟩
/-- the first so many -/
theorem isM_take {W : World} {a : Option Addr} {n c : Nat} {m : List (Int × Int × Int)} (h : IsM W (.slice a n c) m) (k : Nat) (hk : k ≤ m.length) : IsM W (.slice a k c) (m.take k) := by
  rcases h with ⟨h1, rfl⟩ | ⟨g, o, cap, h1, h2, h3, h5, h4⟩
  · simp at h1 hk
    obtain ⟨rfl, _, rfl⟩ := h1
    subst hk
    exact .inl ⟨rfl, rfl⟩
  · simp at h1
    obtain ⟨rfl, rfl, rfl⟩ := h1
    refine .inr ⟨g, o, c, by rw [List.length_take, Nat.min_eq_left hk], by rw [List.length_take]; omega, h3, h5, fun i p hp => h4 i p ?_⟩
    rw [List.getElem?_take] at hp
    split at hp
    · exact hp
    · cases hp
/-- three cells of a new block, its number said -/
theorem three_at (W : World) (t : TypeId) (a b c : Value) (n : Nat) (hn : W.heap.size = n) : ∀ j u, [a, b, c][j]? = some u → (W.alloc (.cells #[a, b, c] t)).cell? ((⟨n, 0, none⟩ : Addr).add j) = some u := by
  subst hn
  intro j u h
  rw [Addr.add_lit, Nat.zero_add]
  match j with
  | 0 => simp at h; subst h; simp
  | 1 => simp at h; subst h; simp
  | 2 => simp at h; subst h; simp
  | j + 3 => simp at h
end Go.Proofs.YtfmjhbdbgcgoiaaGreatDoor.Mm

/- Walks: MapOk of the model. -/
namespace Go.Proofs.YtfmjhbdbgcgoiaaGreatDoor.Ms
open Go.RowKit Go.Proofs.YtfmjhbdbgcgoiaaGreatDoor.Kit Go.Proofs.YtfmjhbdbgcgoiaaGreatDoor.Mp Go.Proofs.YtfmjhbdbgcgoiaaGreatDoor.Mm Go.Proofs.YtfmjhbdbgcgoiaaGreatDoor.App
open Go.Proofs.YtfmjhbdbgcgoiaaGreatDoor.EndW (endV sideZ isB spec1)
set_option linter.unusedSimpArgs false
set_option linter.unusedVariables false

theorem below_drewN (B : Nat) (w : World) (n : Nat) : Below B w (w.drewN n) := ⟨rfl, rfl, rfl, Nat.le_refl _, fun _ _ => rfl⟩
theorem isB_inB (e : Int × Int) : isB 1 e.1 e.2 = inB e := by
  unfold isB inB; rw [Bool.eq_iff_iff]; simp

/-- pairs up to a place are seen to be ok -/
structure Upto (m : List (Int × Int × Int)) (i : Nat) : Prop where
  one : ∀ (j : Nat) (p : Int × Int × Int), j < i → m[j]? = some p → p.1 = 10 + (j : Int) ∧ inB p.2 = true
  two : ∀ (j k : Nat) (p q : Int × Int × Int), k < j → j < i → m[j]? = some p → m[k]? = some q → q.2 ≠ p.2
theorem upto_all {m : List (Int × Int × Int)} (h : Upto m m.length) : okM m = decide ((m.length : Int) ≤ 8) := by
  by_cases h8 : m.length ≤ 8
  · have e : decide ((m.length : Int) ≤ 8) = true := by simp; omega
    rw [e]
    refine okm_all m h8 (fun i p hp => h.one i p (List.getElem?_eq_some_iff.1 hp).1 hp) (fun i k p q hk hp hq => h.two i k p q hk (List.getElem?_eq_some_iff.1 hp).1 hp hq)
  · have e : decide ((m.length : Int) ≤ 8) = false := by simp; omega
    rw [e]; exact okm_long m (by omega)
theorem upto_step {m : List (Int × Int × Int)} {i : Nat} (h : Upto m i) (p : Int × Int × Int) (hp : m[i]? = some p) (h1 : p.1 = 10 + (i : Int)) (h2 : inB p.2 = true) (h3 : ∀ (k : Nat) (q : Int × Int × Int), k < i → m[k]? = some q → q.2 ≠ p.2) : Upto m (i + 1) := by
  refine ⟨fun j r hj hr => ?_, fun j k r q hk hj hr hq => ?_⟩
  · by_cases e : j = i
    · subst e; rw [hp] at hr; obtain rfl := Option.some.inj hr; exact ⟨h1, h2⟩
    · exact h.one j r (by omega) hr
  · by_cases e : j = i
    · subst e; rw [hp] at hr; obtain rfl := Option.some.inj hr; exact h3 k q hk hq
    · exact h.two j k r q hk (by omega) hr hq

set_option maxRecDepth 8000 in
set_option maxHeartbeats 8000000 in
theorem sok_any (W : World) (v : Value) (m : List (Int × Int × Int)) (hm : IsM W v m) (hmm : m.length ≤ 1073741824) :
    Calls Tryz.prog 25 #[v] W fun r W' => r = .returned (.bool (okM m)) ∧ Below W.heap.size W W' := by
  obtain ⟨a, c, rfl⟩ := isM_slice hm
  go_enter Tryz.func25, Tryz.ntmps25
  go_wp2
  go_loopw [3] (fun i wr => ∃ k : Nat, k ≤ m.length ∧ i = .int .i64 k ∧ Upto m k ∧ Below W.heap.size W wr) (fun i wr => m.length - (intOf i).toNat)
  case atStart => exact ⟨0, Nat.zero_le _, rfl, ⟨fun j p hj => by omega, fun j k p q hk hj => by omega⟩, Below.refl _ _⟩
  case round =>
    obtain ⟨k, hk, rfl, hup, hb⟩ := hrel
    by_cases hkl : k < m.length
    · have hkl' : (k : Int) < (m.length : Int) := by omega
      have hp : m[k]? = some m[k] := List.getElem?_eq_getElem hkl
      obtain ⟨g, o, rfl, _, hc1, hc2, hat⟩ := isM_at (hm.below hb) k _ hp
      generalize m[k] = p at hp hat
      obtain ⟨q0, q1, q2⟩ := hat
      obtain ⟨po, ea, ep⟩ := p
      simp only at q0 q1 q2
      by_cases hpo : po = 10 + (k : Int)
      · subst hpo
        cases hi : inB (ea, ep)
        · have hbad := okm_in m k _ hp hi
          go_wp2_with fail
          refine (spec1 ea ep _).mono ?_
          rintro r w2 ⟨rfl, k2⟩
          rw [show isB 1 ea ep = inB (ea, ep) from isB_inB (ea, ep), hi]
          go_wp2
          go_ret
          exact ⟨by first | rfl | (rw [hbad]; rfl), hb.trans (k2.mono hb.size)⟩
        · go_wp2_with fail
          refine (spec1 ea ep _).mono ?_
          rintro r w2 ⟨rfl, k2⟩
          rw [show isB 1 ea ep = inB (ea, ep) from isB_inB (ea, ep), hi]
          have b2 := hb.trans (k2.mono hb.size)
          clear q0 q1 q2 k2
          go_wp2
          go_loopw [4] (fun i wr => ∃ j : Nat, j ≤ k ∧ i = .int .i64 j ∧ (∀ (l : Nat) (q : Int × Int × Int), l < j → m[l]? = some q → q.2 ≠ (ea, ep)) ∧ Below W.heap.size W wr) (fun i wr => k - (intOf i).toNat)
          case atStart => exact ⟨0, Nat.zero_le _, rfl, fun l q hl => by omega, b2⟩
          case round =>
            obtain ⟨j, hj, rfl, hno, hb3⟩ := hrel
            by_cases hjl : j < k
            · have hjl' : (j : Int) < (k : Int) := by omega
              have hjm : (j : Int) < (m.length : Int) := by omega
              have hq : m[j]? = some m[j] := List.getElem?_eq_getElem (by omega)
              obtain ⟨_, _, ea0, _, _, _, hat2⟩ := isM_at (hm.below hb3) j _ hq
              obtain ⟨_, _, ea1, _, _, _, hat3⟩ := isM_at (hm.below hb3) k _ hp
              simp at ea0 ea1
              obtain ⟨rfl, rfl⟩ := ea0
              obtain ⟨rfl, rfl⟩ := ea1
              generalize m[j] = q at hq hat2
              obtain ⟨_, r1, r2⟩ := hat2
              obtain ⟨_, s1, s2⟩ := hat3
              obtain ⟨qo, qa, qp⟩ := q
              simp only at r1 r2 s1 s2
              by_cases he : qa = ea ∧ qp = ep
              · have hbad := okm_two m k j _ _ hjl hp hq (Prod.ext he.1 he.2)
                obtain ⟨rfl, rfl⟩ := he
                go_wp2_with fail
                go_quiet (fail)
                go_wp2
                go_ret
                exact ⟨by first | rfl | (rw [hbad]; rfl), hb3.trans (below_drewN _ _ _)⟩
              · have hne : ¬ (qa = ea ∧ qp = ep) := he
                have hno2 : ∀ (l : Nat) (q : Int × Int × Int), l < j + 1 → m[l]? = some q → q.2 ≠ (ea, ep) := by
                  intro l q hl hql
                  by_cases e : l = j
                  · subst e; rw [hq] at hql; obtain rfl := Option.some.inj hql
                    intro h; simp at h; exact he h
                  · exact hno l q (by omega) hql
                by_cases h1 : qa = ea
                · have h2 : (qp == ep) = false := by simp; exact fun h => he ⟨h1, h⟩
                  subst h1
                  go_wp2_with fail
                  go_quiet (fail)
                  go_wp2
                  go_roundw
                  case rel => exact ⟨j + 1, by omega, by go_num, hno2, hb3.trans (below_drewN _ _ _)⟩
                  case measure => simp [intOf]; omega
                · have h2 : (qa == ea) = false := by simp; exact h1
                  go_wp2_with fail
                  go_quiet (fail)
                  go_wp2
                  go_roundw
                  case rel => exact ⟨j + 1, by omega, by go_num, hno2, hb3.trans (below_drewN _ _ _)⟩
                  case measure => simp [intOf]; omega
            · have hjg : (k : Int) ≤ (j : Int) := by omega
              have ejk : j = k := by omega
              subst ejk
              have hst := upto_step hup _ hp rfl hi hno
              go_wp2
              exact ⟨⟨j + 1, by omega, by go_num, hst, hb3⟩, by simp [intOf]; omega⟩
      · have hpo' : (po == 10 + (k : Int)) = false := by simp; exact hpo
        have hbad := okm_port m k _ hp hpo
        go_wp2
        go_ret
        exact ⟨by first | rfl | (rw [hbad]; rfl), hb⟩
    · have hge : (m.length : Int) ≤ (k : Int) := by omega
      have ek : k = m.length := by omega
      subst ek
      have hall : Hid (okM m = decide ((m.length : Int) ≤ 8)) := upto_all hup
      by_cases h8 : (m.length : Int) ≤ 8
      · go_wp2
        go_ret
        exact ⟨by rw [hall.out]; simp [h8], hb⟩
      · have h8' : (8 : Int) < (m.length : Int) := by omega
        go_wp2
        go_ret
        exact ⟨by rw [hall.out]; simp [h8], hb⟩
end Go.Proofs.YtfmjhbdbgcgoiaaGreatDoor.Ms

/- Walks: MapOut and MapIn of the model. -/
namespace Go.Proofs.YtfmjhbdbgcgoiaaGreatDoor.Ms
open Go.RowKit Go.Proofs.YtfmjhbdbgcgoiaaGreatDoor.Kit Go.Proofs.YtfmjhbdbgcgoiaaGreatDoor.Mp Go.Proofs.YtfmjhbdbgcgoiaaGreatDoor.Mm Go.Proofs.YtfmjhbdbgcgoiaaGreatDoor.App
open Go.Proofs.YtfmjhbdbgcgoiaaGreatDoor.EndW (endV sideZ isB spec1 l6in_any)
set_option linter.unusedSimpArgs false
set_option linter.unusedVariables false

theorem dd (w : World) (a b : Nat) : (w.drewN a).drewN b = w.drewN (a + b) := by
  simp [World.drewN, Nat.add_assoc]
theorem row_m {W : World} {b : Nat} {e : TypeId} {v : Value} {n : Nat} {m : List (Int × Int × Int)} (h : W.ownsRow b e 3 v n (cellsM m)) : n = m.length := by
  have := h.1
  rw [cellsM_len] at this; omega
theorem grown_below {w w' : World} {row : Option Nat} {B : Nat} (h : w.grownBy w' row) (hB : B ≤ w.heap.size) (hr : ∀ k, row = some k → B ≤ k) : Below B w w' := (Below.refl B w).grown h hB hr

/-- all but a row of one's own is as it was, and the row is where it was, or new -/
def Gr (W W' : World) (v v' : Value) : Prop := W.grownBy W' v.ownBlock ∧ (v'.ownBlock = v.ownBlock ∨ ∃ g, v'.ownBlock = some g ∧ W.heap.size ≤ g)
theorem grown_of {W W' : World} (k : Below W.heap.size W W') (row : Option Nat) : W.grownBy W' row := ⟨k.os, k.tape, k.output, k.size, fun i hi _ => k.block i hi⟩
theorem grown_trans {A B C : World} {row : Option Nat} (h : A.grownBy B row) (k : B.grownBy C row) : A.grownBy C row :=
  ⟨k.os.trans h.os, k.tape.trans h.tape, k.output.trans h.output, Nat.le_trans h.size k.size, fun i hi hn => (k.block i (Nat.lt_of_lt_of_le hi h.size) hn).trans (h.block i hi hn)⟩
theorem Gr.of {W W' : World} (k : Below W.heap.size W W') (v : Value) : Gr W W' v v := ⟨grown_of k _, .inl rfl⟩

set_option maxRecDepth 8000 in
set_option maxHeartbeats 4000000 in
theorem copy_any (W : World) (v : Value) (m : List (Int × Int × Int)) (hm : IsM W v m) (hmm : m.length ≤ 1073741824) :
    Calls Tryz.prog 73 #[v] W fun r W' => ∃ v', r = .returned v' ∧ W'.ownsRow W.heap.size 58 3 v' m.length (cellsM m) ∧ Below W.heap.size W W' := by
  obtain ⟨i0, hi, hz0, hz1, hz2⟩ := info_parts infoM
  have hnew := World.ownsRow_made (base := W.heap.size) (e := 58) (size := 3) W #[] 0 (Nat.le_refl _) (Nat.zero_le _) rfl
  have bA : Below W.heap.size W (W.alloc (.cells #[] 58)) := (Below.refl _ _).alloc (Nat.le_refl _) _
  rcases hm with ⟨rfl, rfl⟩ | ⟨g, o, cap, rfl, h1, h2, h3, h4⟩
  · go_enter Tryz.func73, Tryz.ntmps73
    go_wp2
    go_ret
    exact ⟨_, rfl, hnew, bA⟩
  · have hcell : ∀ j u, (cellsM m)[j]? = some u → (W.alloc (.cells #[] 58)).cell? ((⟨g, o, none⟩ : Addr).add j) = some u := by
      intro j u hj
      have hjl : j < m.length * 3 := by rw [← cellsM_len]; exact (List.getElem?_eq_some_iff.1 hj).1
      have hi3 : j / 3 < m.length := by omega
      have hp : m[j / 3]? = some m[j / 3] := List.getElem?_eq_getElem hi3
      obtain ⟨a0, a1, a2⟩ := (h4 _ _ hp).below bA
      obtain ⟨b0, b1, b2⟩ := cellsM_at m _ _ hp
      rw [Addr.add_lit]
      have e3 : j = j / 3 * 3 ∨ j = j / 3 * 3 + 1 ∨ j = j / 3 * 3 + 2 := by omega
      rcases e3 with e3 | e3 | e3
      · rw [e3] at hj; rw [b0] at hj; rw [e3, ← Option.some.inj hj]; exact a0
      · rw [e3] at hj; rw [b1] at hj; rw [e3, ← Option.some.inj hj, ← Nat.add_assoc]; exact a1
      · rw [e3] at hj; rw [b2] at hj; rw [e3, ← Option.some.inj hj, ← Nat.add_assoc]; exact a2
    go_enter Tryz.func73, Tryz.ntmps73
    go_wp2_with (at_builtin; refine wpList_append_own_at _ rfl _ _ 28 rfl W.heap.size 58 i0 (.agg #[.int .i64 0, .int .i64 0, .int .i64 0]) 3 24 Tryz.underlying28 hi hz0 hz1 hz2 rfl (by decide) _ _ _ rfl hnew ⟨g, o, none⟩ m.length cap (cellsM m) rfl (cellsM_len m) hcell (cellsM_one m) (by unfold maxLen; omega) (by omega) (by simp) ?_; intro v' w2 hown' hgrow _ _)
    go_ret
    refine ⟨_, rfl, ?_, bA.trans (grown_below hgrow (by simp) (fun k hk => (hnew.lt k hk).1))⟩
    simpa using hown'

set_option maxRecDepth 8000 in
set_option maxHeartbeats 8000000 in
theorem lout_any2 (W : World) (base : Nat) (hB : base ≤ W.heap.size) (v : Value) (es : List (Int × Int)) (hg : GoodE es) (hrow : W.ownsRow base 58 3 v es.length (cellsM (prs es))) (e : Int × Int) :
    Calls Tryz.prog 68 #[v, endV e.1 e.2] W fun r W' => ∃ v', r = .returned (.tuple #[v', .int .i64 (outE es e).2.1, .bool (outE es e).2.2]) ∧ W'.ownsRow base 58 3 v' (outE es e).1.length (cellsM (prs (outE es e).1)) ∧ Below base W W' ∧ Gr W W' v v' ∧ ((outE es e).2.2 = false → Below W.heap.size W W') := by
  obtain ⟨i0, hi, hz0, hz1, hz2⟩ := info_parts infoM
  have h8 := hg.len
  have hM : IsM W v (prs es) := isM_of_row (by rw [prs_len]; exact hrow)
  obtain ⟨a, c, hv⟩ := isM_slice hM
  rw [prs_len] at hv
  subst hv
  have bA : Below W.heap.size W (W.alloc (.cells #[.int .i64 e.1, .int .i64 e.2] 40)) := (Below.refl _ _).alloc (Nat.le_refl _) _
  go_enter Tryz.func68, Tryz.ntmps68
  go_wp2
  go_loopw [7] (fun i wr => ∃ k n : Nat, k ≤ es.length ∧ i = .int .i64 k ∧ (∀ (l : Nat) (f : Int × Int), l < k → es[l]? = some f → f ≠ e) ∧ wr = (W.alloc (.cells #[.int .i64 e.1, .int .i64 e.2] 40)).drewN n) (fun i wr => es.length - (intOf i).toNat)
  case atStart => exact ⟨0, 0, Nat.zero_le _, rfl, fun l f hl => by omega, rfl⟩
  case round =>
    obtain ⟨k, n, hk, rfl, hno, hwr⟩ := hrel
    have hb : Below W.heap.size W wr := by rw [hwr]; exact bA.trans (below_drewN _ _ _)
    have c0 : wr.cell? ⟨W.heap.size, 0, none⟩ = some (.int .i64 e.1) := by rw [hwr]; simp
    have c1 : wr.cell? ⟨W.heap.size, 1, none⟩ = some (.int .i64 e.2) := by rw [hwr]; simp
    have hrow2 : wr.ownsRow base 58 3 (.slice a es.length c) es.length (cellsM (prs es)) := row_below hrow hb
    have hsz : W.heap.size < wr.heap.size := by rw [hwr]; simp [World.drewN]
    have HW : Hid (wr = (W.alloc (.cells #[.int .i64 e.1, .int .i64 e.2] 40)).drewN n) := hwr
    clear hwr
    by_cases hkl : k < es.length
    · have hkl' : (k : Int) < (es.length : Int) := by omega
      have hf : es[k]? = some es[k] := List.getElem?_eq_getElem hkl
      have hp : (prs es)[k]? = some (10 + (k : Int), es[k]) := by rw [prs_at, hf]; rfl
      obtain ⟨g, o, rfl, hnn, hc1, hc2, hat⟩ := isM_at (hM.below hb) k _ hp
      rw [prs_len] at hc1
      clear hnn
      generalize es[k] = f at hf hp hat
      obtain ⟨q0, q1, q2⟩ := hat
      obtain ⟨fa, fp⟩ := f
      obtain ⟨ea, ep⟩ := e
      simp only at q0 q1 q2 c0 c1
      by_cases he : fa = ea ∧ fp = ep
      · obtain ⟨rfl, rfl⟩ := he
        have hm : (fa, fp) ∈ es := List.mem_of_getElem? hf
        have hout : Hid (outE es (fa, fp) = (es, 10 + (k : Int), true)) := by
          show outE es (fa, fp) = _
          rw [outE_has es _ hm, idx_uniq es hg.nd _ k hf]
        clear hno hM hp hf
        go_wp2_with fail
        go_quiet (fail)
        go_wp2_with fail
        go_quiet (fail)
        go_wp2
        refine bodyPost_ret (v := .tuple #[.slice (some ⟨g, o, none⟩) es.length c, .int .i64 (10 + (k : Int)), .bool true]) (by simp [results, Tryz.results68, go_sem]) rfl ?_
        rw [hout.out]
        exact ⟨_, rfl, hrow2, (hb.mono hB).trans ((below_drewN _ _ _).trans (below_drewN _ _ _)), ⟨grown_of (hb.trans ((below_drewN _ _ _).trans (below_drewN _ _ _))) _, .inl rfl⟩, fun h => by cases h⟩
      · have hno2 : ∀ (l : Nat) (f : Int × Int), l < k + 1 → es[l]? = some f → f ≠ (ea, ep) := by
          intro l q hl hql
          by_cases e : l = k
          · subst e; rw [hf] at hql; obtain rfl := Option.some.inj hql
            intro h; simp at h; exact he h
          · exact hno l q (by omega) hql
        clear hno hM hp hf hrow2
        by_cases h1 : fa = ea
        · have h2 : (fp == ep) = false := by simp; exact fun h => he ⟨h1, h⟩
          subst h1
          go_wp2_with fail
          go_quiet (fail)
          go_wp2
          go_roundw
          case rel => exact ⟨k + 1, n + nq, by omega, by go_num, hno2, by rw [HW.out, dd]⟩
          case measure => simp [intOf]; omega
        · have h2 : (fa == ea) = false := by simp; exact h1
          go_wp2_with fail
          go_quiet (fail)
          go_wp2
          go_roundw
          case rel => exact ⟨k + 1, n + nq, by omega, by go_num, hno2, by rw [HW.out, dd]⟩
          case measure => simp [intOf]; omega
    · have hge : (es.length : Int) ≤ (k : Int) := by omega
      have hnm : e ∉ es := by
        intro hm
        obtain ⟨l, hl⟩ := List.mem_iff_getElem?.1 hm
        have := (List.getElem?_eq_some_iff.1 hl).1
        exact hno l e (by omega) hl rfl
      by_cases hl : es.length < 8
      · have hl' : (es.length : Int) ≤ 7 := by omega
        have hout : Hid (outE es e = (es ++ [e], 10 + (es.length : Int), true)) := outE_new es e hnm hl
        clear hno hM
        go_wp2_with (at_builtin; refine wpList_append_own_at _ rfl _ _ 28 rfl base 58 i0 (.agg #[.int .i64 0, .int .i64 0, .int .i64 0]) 3 24 Tryz.underlying28 hi hz0 hz1 hz2 rfl (by decide) _ _ _ rfl (hrow2.alloc _) ⟨wr.heap.size, 0, none⟩ 1 1 [.int .i64 (10 + (es.length : Int)), .int .i64 e.1, .int .i64 e.2] rfl rfl (three_at _ _ _ _ _ _ rfl) (by simp [Value.oneCell']) (by unfold maxLen; omega) (by omega) (by simp; omega) ?_; intro v' w2 hown' hgrow _ hwh)
        refine bodyPost_ret (v := .tuple #[v', .int .i64 (10 + (es.length : Int)), .bool true]) (by simp [results, Tryz.results68, go_sem]) rfl ?_
        rw [hout.out]
        refine ⟨_, rfl, ?_, (hb.mono hB).trans (((Below.refl _ _).alloc (by omega) _).trans (grown_below hgrow (by simp; omega) (fun k hk => (hrow2.lt k hk).1))), ⟨grown_trans (grown_of (hb.alloc hb.size _) _) hgrow, ?_⟩, fun h => by cases h⟩
        · rw [prs_snoc, cellsM_snoc, List.length_append]
          exact hown'
        · rcases hwh with q | q
          · exact .inl q
          · exact .inr ⟨_, q, by have := hb.size; simp; omega⟩
      · have hl' : (7 : Int) < (es.length : Int) := by omega
        have hout : Hid (outE es e = (es, 0, false)) := outE_full es e hnm (by omega)
        clear hno hM
        go_wp2
        refine bodyPost_ret (v := .tuple #[.slice a es.length c, .int .i64 0, .bool false]) (by simp [results, Tryz.results68, go_sem]) rfl ?_
        rw [hout.out]
        exact ⟨_, rfl, hrow2, hb.mono hB, ⟨grown_of hb _, .inl rfl⟩, fun _ => hb⟩
theorem lout_any (W : World) (base : Nat) (hB : base ≤ W.heap.size) (v : Value) (es : List (Int × Int)) (hg : GoodE es) (hrow : W.ownsRow base 58 3 v es.length (cellsM (prs es))) (e : Int × Int) :
    Calls Tryz.prog 68 #[v, endV e.1 e.2] W fun r W' => ∃ v', r = .returned (.tuple #[v', .int .i64 (outE es e).2.1, .bool (outE es e).2.2]) ∧ W'.ownsRow base 58 3 v' (outE es e).1.length (cellsM (prs (outE es e).1)) ∧ Below base W W' := by
  refine (lout_any2 W base hB v es hg hrow e).mono ?_
  rintro r w' ⟨v', rfl, h1, h2, _, _⟩
  exact ⟨v', rfl, h1, h2⟩
end Go.Proofs.YtfmjhbdbgcgoiaaGreatDoor.Ms

/- Walks: MapIn of the model. -/
namespace Go.Proofs.YtfmjhbdbgcgoiaaGreatDoor.Ms
open Go.RowKit Go.Proofs.YtfmjhbdbgcgoiaaGreatDoor.Kit Go.Proofs.YtfmjhbdbgcgoiaaGreatDoor.Mp Go.Proofs.YtfmjhbdbgcgoiaaGreatDoor.Mm Go.Proofs.YtfmjhbdbgcgoiaaGreatDoor.App
open Go.Proofs.YtfmjhbdbgcgoiaaGreatDoor.EndW (endV sideZ isB spec1 l6in_any)
set_option linter.unusedSimpArgs false
set_option linter.unusedVariables false

theorem inB_dec (n lo hi : Int) : EndW.inB n lo hi = (decide (lo ≤ n) && decide (n ≤ hi)) := rfl

set_option maxRecDepth 8000 in
set_option maxHeartbeats 4000000 in
theorem lin_any (W : World) (v : Value) (es : List (Int × Int)) (hl : es.length ≤ 8) (hm : IsM W v (prs es)) (port : Int) (hp0 : -9223372036854775808 ≤ port) (hp1 : port ≤ 9223372036854775807) :
    Calls Tryz.prog 86 #[v, .int .i64 port] W fun r W' => r = .returned (.tuple #[endV (inE es port).1.1 (inE es port).1.2, .bool (inE es port).2]) ∧ Below W.heap.size W W' := by
  obtain ⟨a, c, hv⟩ := isM_slice hm
  rw [prs_len] at hv
  subst hv
  have bA : Below W.heap.size W (W.alloc (.cells #[.int .i64 0, .int .i64 0] 40)) := (Below.refl _ _).alloc (Nat.le_refl _) _
  rcases inE_cases es port with ⟨i, e, rfl, he, hin⟩ | ⟨hno, hin⟩
  · rw [hin]
    clear hin
    have hil := (List.getElem?_eq_some_iff.1 he).1
    have hp : (prs es)[i]? = some (10 + (i : Int), e) := by rw [prs_at, he]; rfl
    obtain ⟨g, o, rfl, hnn, hc1, hc2, hat⟩ := isM_at (hm.below bA) i _ hp
    rw [prs_len] at hc1
    clear hnn
    obtain ⟨q0, q1, q2⟩ := hat
    simp only at q0 q1 q2
    have hB : EndW.inB (10 + (i : Int) - 10) 0 ((es.length : Int) - 1) = true := by rw [inB_dec]; simp; omega
    have hI : 10 + (i : Int) - 10 = (i : Int) := by omega
    have hi' : (i : Int) < (es.length : Int) := by omega
    rw [hI] at hB
    clear hm hp
    go_enter Tryz.func86, Tryz.ntmps86
    go_wp2_with fail
    refine (l6in_any _ _ _ _).mono ?_
    rintro r w1 ⟨rfl, rfl⟩
    rw [hB]
    go_wp2
    refine bodyPost_ret (v := .tuple #[endV e.1 e.2, .bool true]) ?_ rfl ?_
    · simp [results, Tryz.results86, go_sem]
    · exact ⟨rfl, (Below.refl _ _).alloc (Nat.le_refl _) _⟩
  · rw [hin]
    clear hin
    by_cases hlow : -9223372036854775798 ≤ port
    · have hB : EndW.inB (port - 10) 0 ((es.length : Int) - 1) = false := by rw [inB_dec]; simp; omega
      clear hm
      go_enter Tryz.func86, Tryz.ntmps86
      go_wp2_with fail
      refine (l6in_any _ _ _ _).mono ?_
      rintro r w1 ⟨rfl, rfl⟩
      rw [hB]
      go_wp2
      refine bodyPost_ret (v := .tuple #[endV 0 0, .bool false]) ?_ rfl ?_
      · simp [results, Tryz.results86, go_sem]
      · exact ⟨rfl, (Below.refl _ _).alloc (Nat.le_refl _) _⟩
    · have hB : EndW.inB (wrap64 (port - 10)) 0 ((es.length : Int) - 1) = false := by rw [inB_dec]; simp [wrap64]; omega
      clear hm
      go_enter Tryz.func86, Tryz.ntmps86
      go_wp2_with fail
      refine (l6in_any _ _ _ _).mono ?_
      rintro r w1 ⟨rfl, rfl⟩
      rw [hB]
      go_wp2
      refine bodyPost_ret (v := .tuple #[endV 0 0, .bool false]) ?_ rfl ?_
      · simp [results, Tryz.results86, go_sem]
      · exact ⟨rfl, (Below.refl _ _).alloc (Nat.le_refl _) _⟩

end Go.Proofs.YtfmjhbdbgcgoiaaGreatDoor.Ms

/- Pairs in a row of the call's own that may begin anywhere in its block: what is kept, and appending; l3Out of the model. -/
namespace Go.Proofs.YtfmjhbdbgcgoiaaGreatDoor.Ms
open Go.RowKit Go.Proofs.YtfmjhbdbgcgoiaaGreatDoor.Kit Go.Proofs.YtfmjhbdbgcgoiaaGreatDoor.Mp Go.Proofs.YtfmjhbdbgcgoiaaGreatDoor.Mm Go.Proofs.YtfmjhbdbgcgoiaaGreatDoor.App
open Go.Proofs.YtfmjhbdbgcgoiaaGreatDoor.EndW (endV sideZ isB spec1 l6in_any)
set_option linter.unusedSimpArgs false
set_option linter.unusedVariables false

/-- pairs in a row of one's own, that may begin anywhere in its block -/
def OwnP (W : World) (base : Nat) (v : Value) (es : List (Int × Int)) : Prop :=
  (v = .slice none 0 0 ∧ es = []) ∨ ∃ g o cap cur, v = .slice (some ⟨g, o, none⟩) es.length cap ∧ base ≤ g ∧ W.heap[g]? = some (.cells cur 58 (0, 0)) ∧ es.length ≤ cap ∧ cap ≤ maxLen ∧ o + cap * 3 ≤ cur.size ∧ ∀ (i : Nat) (p : Int × Int × Int), (prs es)[i]? = some p → At3 W g (o + i * 3) p
theorem OwnP.isM {W : World} {base : Nat} {v : Value} {es : List (Int × Int)} (h : OwnP W base v es) : IsM W v (prs es) := by
  rcases h with ⟨rfl, rfl⟩ | ⟨g, o, cap, cur, rfl, _, hg, h1, h2, _, h3⟩
  · exact .inl ⟨rfl, rfl⟩
  · exact .inr ⟨g, o, cap, by rw [prs_len], by rw [prs_len]; exact h1, h2, (Array.getElem?_eq_some_iff.1 hg).1, h3⟩
theorem OwnP.lt {W : World} {base : Nat} {v : Value} {es : List (Int × Int)} (h : OwnP W base v es) : ∀ k, v.ownBlock = some k → base ≤ k ∧ k < W.heap.size := by
  intro k hk
  rcases h with ⟨rfl, rfl⟩ | ⟨g, o, cap, cur, rfl, hb, hg, _⟩
  · cases hk
  · simp [Value.ownBlock] at hk
    subst hk
    exact ⟨hb, (Array.getElem?_eq_some_iff.1 hg).1⟩
theorem OwnP.kept {W W' : World} {base : Nat} {v : Value} {es : List (Int × Int)} {row : Option Nat} (h : OwnP W base v es) (hg : W.grownBy W' row) (hne : v.ownBlock = none ∨ v.ownBlock ≠ row) : OwnP W' base v es := by
  rcases h with h | ⟨g, o, cap, cur, rfl, hb, hgg, h1, h2, h3, h4⟩
  · exact .inl h
  · have e := hg.block g (Array.getElem?_eq_some_iff.1 hgg).1 (by simpa [Value.ownBlock] using hne)
    exact .inr ⟨g, o, cap, cur, rfl, hb, e.trans hgg, h1, h2, h3, fun i p hp => (h4 i p hp).same e⟩
theorem OwnP.below {W W' : World} {base : Nat} {v : Value} {es : List (Int × Int)} (h : OwnP W base v es) (k : Below W.heap.size W W') : OwnP W' base v es :=
  h.kept (row := none) ⟨k.os, k.tape, k.output, k.size, fun i hi _ => k.block i hi⟩ (by cases v.ownBlock with | none => exact .inl rfl | some g => exact .inr (by simp))
theorem OwnP.alloc {W : World} {base : Nat} {v : Value} {es : List (Int × Int)} (h : OwnP W base v es) (o : Obj) : OwnP (W.alloc o) base v es := h.below ((Below.refl _ _).alloc (Nat.le_refl _) o)
theorem OwnP.drew {W : World} {base : Nat} {v : Value} {es : List (Int × Int)} (h : OwnP W base v es) : OwnP W.drew base v es := h
theorem OwnP.setCell_other {W : World} {base : Nat} {v : Value} {es : List (Int × Int)} (h : OwnP W base v es) {a : Addr} (ha : v.ownBlock ≠ some a.block) (u : Value) : OwnP (W.setCell a u) base v es :=
  h.kept (row := some a.block) ⟨rfl, rfl, rfl, by simp [World.setCell], fun k _ hk => Below.heap_setCell _ _ _ _ (fun e => hk (by rw [e]))⟩ (.inr ha)
theorem OwnP.slice {W : World} {base : Nat} {v : Value} {es : List (Int × Int)} (h : OwnP W base v es) : ∃ a c, v = .slice a es.length c := by
  rcases h with ⟨rfl, rfl⟩ | ⟨g, o, cap, cur, rfl, _⟩
  · exact ⟨none, 0, rfl⟩
  · exact ⟨_, _, rfl⟩
theorem OwnP.of_row {W : World} {base : Nat} {v : Value} {es : List (Int × Int)} (h : W.ownsRow base 58 3 v es.length (cellsM (prs es))) : OwnP W base v es := by
  have hm : IsM W v (prs es) := isM_of_row (by rw [prs_len]; exact h)
  rcases h.2 with ⟨rfl, h0⟩ | ⟨g, cap, cur, rfl, hb, hg, hnc, hcm, hcs, htake⟩
  · exact .inl ⟨rfl, List.length_eq_zero_iff.1 h0⟩
  · rcases hm with ⟨e, _⟩ | ⟨g', o', cap', e, _, _, _, hat⟩
    · cases e
    · simp at e
      obtain ⟨⟨rfl, rfl⟩, _, rfl⟩ := e
      exact .inr ⟨g, 0, cap, cur, rfl, hb, hg, hnc, hcm, by omega, hat⟩

/-- appending where there is room, at a slice that lies anywhere in its block -/
theorem run_append_at {P : Program} (w : World) (t ty e : TypeId) (i : TypeInfo) (ht : P.underlying t = some (.slice e)) (hi : P.info? e = some i)
    (g o sLen sCap : Nat) (cur : Array Value) (hg : w.heap[g]? = some (.cells cur e (0, 0)))
    (a : Addr) (m c : Nat) (news : List Value) (hl : news.length = m * i.size) (hnews : ∀ j u, news[j]? = some u → w.cell? (a.add j) = some u) (h1 : ∀ u ∈ news, u.oneCell' = true)
    (hroom : sLen + m ≤ sCap) (hfit : o + sLen * i.size + news.length ≤ cur.size) :
    (Builtin.append_ #[t, t] ty #[.slice (some ⟨g, o, none⟩) sLen sCap, .slice (some a) m c]).run P w =
      .ok (.slice (some ⟨g, o, none⟩) (sLen + m) sCap) (w.setRow g (cur.toList.take (o + sLen * i.size) ++ news ++ cur.toList.drop (o + sLen * i.size + news.length)).toArray) := by
  have hf := run_firstCells_some (P := P) w i.size m a m c news hl hnews
  have hst := run_storeCells_at P g (o + sLen * i.size) e news 0 cur w hg (by simpa using hfit) h1
  simp only [Nat.add_zero] at hst
  simp [Builtin.append_, run_underlying ht, sizeOf, typeInfo, hi, Builtin.lenOf, hroom, hf, Addr.add_lit, hst]

/-- a pair more behind pairs that are the call's own -/
theorem run_append_P {P : Program} (w : World) (base : Nat) (hb : base ≤ w.heap.size) (t ty : TypeId) (i : TypeInfo) (ht : P.underlying t = some (.slice 58)) (hi : P.info? 58 = some i) (hz : i.zero = some (.agg #[.int .i64 0, .int .i64 0, .int .i64 0])) (hsize : i.size = 3) (hby : i.bytes = 24)
    (v : Value) (es : List (Int × Int)) (hm : OwnP w base v es) (hl : es.length ≤ 100) (ad : Addr) (f : Int × Int) (hc : ∀ j u, [Value.int .i64 (10 + (es.length : Int)), .int .i64 f.1, .int .i64 f.2][j]? = some u → w.cell? (ad.add j) = some u) :
    ∃ v' w', (Builtin.append_ #[t, t] ty #[v, .slice (some ad) 1 1]).run P w = .ok v' w' ∧ OwnP w' base v' (es ++ [f]) ∧ w.grownBy w' v.ownBlock ∧ (v'.ownBlock = v.ownBlock ∨ ∃ g, v'.ownBlock = some g ∧ w.heap.size ≤ g) := by
  have hnl : [Value.int .i64 (10 + (es.length : Int)), .int .i64 f.1, .int .i64 f.2].length = 1 * 3 := rfl
  have h1c : ∀ u ∈ [Value.int .i64 (10 + (es.length : Int)), .int .i64 f.1, .int .i64 f.2], u.oneCell' = true := by simp [Value.oneCell']
  have hap : cellsM (prs (es ++ [f])) = cellsM (prs es) ++ [Value.int .i64 (10 + (es.length : Int)), .int .i64 f.1, .int .i64 f.2] := by rw [prs_snoc, cellsM_snoc]
  have hal : (es ++ [f]).length = es.length + 1 := by rw [List.length_append]; rfl
  rcases hm with ⟨rfl, rfl⟩ | ⟨g, o, cap, cur, rfl, hbg, hcur, hcap, hmax, hfit, hat⟩
  · obtain ⟨v', w', hrun, hrow, hg, hw⟩ := run_append_own2 (P := P) w base t ty 58 i _ 3 24 ht hi hz hsize hby rfl (by omega) (.slice none 0 0) 0 [] (World.ownsRow_nil _ _ _ _) ad 1 1 _ hnl hc h1c (by unfold maxLen; omega) (by omega) hb
    refine ⟨v', w', hrun, OwnP.of_row (by rw [hap, hal]; simpa [prs, cellsM] using hrow), hg, ?_⟩
    obtain ⟨g', c', rfl⟩ := ownsRow_succ hrow
    rcases hw g' rfl with q | q
    · cases q
    · exact .inr ⟨g', rfl, q⟩
  · by_cases hroom : es.length + 1 ≤ cap
    · have hrun := run_append_at (P := P) w t ty 58 i ht hi g o es.length cap cur hcur ad 1 1 _ (by rw [hsize]; exact hnl) hc h1c hroom (by rw [hsize, hnl]; omega)
      rw [hsize] at hrun
      have hsz : cur.toList.length = cur.size := Array.length_toList
      have hh := setRow_heap w g cur (cur.toList.take (o + es.length * 3) ++ [Value.int .i64 (10 + (es.length : Int)), .int .i64 f.1, .int .i64 f.2] ++ cur.toList.drop (o + es.length * 3 + [Value.int .i64 (10 + (es.length : Int)), .int .i64 f.1, .int .i64 f.2].length)).toArray 58 (0, 0) hcur
      refine ⟨_, _, hrun, .inr ⟨g, o, cap, _, by rw [hal], hbg, hh, by rw [hal]; exact hroom, hmax, ?_, fun k q hq => ?_⟩, ⟨rfl, rfl, rfl, by simp, fun k _ hk => setRow_other w g k _ (fun e => hk (by rw [e]; rfl))⟩, .inl rfl⟩
      · have ht : (cur.toList.take (o + es.length * 3)).length = o + es.length * 3 := by rw [List.length_take, hsz]; omega
        simp only [List.size_toArray, List.length_append, ht, List.length_drop, hsz, List.length_cons, List.length_nil]
        omega
      · have key : ∀ (j : Nat) (u : Value), (cur.toList.take (o + es.length * 3) ++ [Value.int .i64 (10 + (es.length : Int)), .int .i64 f.1, .int .i64 f.2] ++ cur.toList.drop (o + es.length * 3 + [Value.int .i64 (10 + (es.length : Int)), .int .i64 f.1, .int .i64 f.2].length))[j]? = some u → (w.setRow g (cur.toList.take (o + es.length * 3) ++ [Value.int .i64 (10 + (es.length : Int)), .int .i64 f.1, .int .i64 f.2] ++ cur.toList.drop (o + es.length * 3 + [Value.int .i64 (10 + (es.length : Int)), .int .i64 f.1, .int .i64 f.2].length)).toArray).cell? ⟨g, j, none⟩ = some u := by
          intro j u hj
          simp only [World.cell?, hh]
          simpa using hj
        have old : ∀ j u, j < o + es.length * 3 → w.cell? ⟨g, j, none⟩ = some u → (cur.toList.take (o + es.length * 3) ++ [Value.int .i64 (10 + (es.length : Int)), .int .i64 f.1, .int .i64 f.2] ++ cur.toList.drop (o + es.length * 3 + [Value.int .i64 (10 + (es.length : Int)), .int .i64 f.1, .int .i64 f.2].length))[j]? = some u := by
          intro j u hj hu
          simp only [World.cell?, hcur] at hu
          have ht : (cur.toList.take (o + es.length * 3)).length = o + es.length * 3 := by rw [List.length_take, hsz]; omega
          rw [List.append_assoc, List.getElem?_append_left (by omega), List.getElem?_take_of_lt hj]
          simpa using hu
        rw [prs_snoc] at hq
        by_cases hk : k < es.length
        · rw [List.getElem?_append_left (by rw [prs_len]; exact hk)] at hq
          obtain ⟨t0, t1, t2⟩ := hat k q hq
          exact ⟨key _ _ (old _ _ (by omega) t0), key _ _ (old _ _ (by omega) t1), key _ _ (old _ _ (by omega) t2)⟩
        · have hk2 : k = es.length := by
            have := (List.getElem?_eq_some_iff.1 hq).1
            rw [List.length_append, prs_len] at this
            simp at this; omega
          subst hk2
          rw [List.getElem?_append_right (by rw [prs_len]; exact Nat.le_refl _), prs_len, Nat.sub_self] at hq
          simp at hq
          subst hq
          have ht : (cur.toList.take (o + es.length * 3)).length = o + es.length * 3 := by rw [List.length_take, hsz]; omega
          refine ⟨key _ _ ?_, key _ _ ?_, key _ _ ?_⟩
          · rw [List.append_assoc, List.getElem?_append_right (by omega), ht, Nat.sub_self]; rfl
          · rw [List.append_assoc, List.getElem?_append_right (by omega), ht, show o + es.length * 3 + 1 - (o + es.length * 3) = 1 by omega]; rfl
          · rw [List.append_assoc, List.getElem?_append_right (by omega), ht, show o + es.length * 3 + 2 - (o + es.length * 3) = 2 by omega]; rfl
    · have hcl : (cellsM (prs es)).length = es.length * 3 := by rw [cellsM_len, prs_len]
      have holds : ∀ j u, (cellsM (prs es))[j]? = some u → w.cell? ((⟨g, o, none⟩ : Addr).add j) = some u := by
        intro j u hj
        have hjl := (List.getElem?_eq_some_iff.1 hj).1
        rw [hcl] at hjl
        have hk : j / 3 < (prs es).length := by rw [prs_len]; omega
        obtain ⟨a0, a1, a2⟩ := cellsM_at (prs es) (j / 3) _ (List.getElem?_eq_getElem hk)
        obtain ⟨t0, t1, t2⟩ := hat (j / 3) _ (List.getElem?_eq_getElem hk)
        rw [Addr.add_lit]
        have hc3 : j = j / 3 * 3 ∨ j = j / 3 * 3 + 1 ∨ j = j / 3 * 3 + 2 := by omega
        rcases hc3 with e | e | e
        · rw [← e] at a0; rw [hj] at a0; rw [show o + j = o + j / 3 * 3 by omega, t0, ← a0]
        · rw [← e] at a1; rw [hj] at a1; rw [show o + j = o + j / 3 * 3 + 1 by omega, t1, ← a1]
        · rw [← e] at a2; rw [hj] at a2; rw [show o + j = o + j / 3 * 3 + 2 by omega, t2, ← a2]
      obtain ⟨v', w', hrun, hrow, hg⟩ := run_append_arg_grows (P := P) w t ty 58 i _ 3 24 ht hi hz hsize hby rfl (by omega) ⟨g, o, none⟩ es.length cap (cellsM (prs es)) hcl holds ad 1 1 _ hnl hc (by omega) (by unfold maxLen; omega) (by omega)
      refine ⟨v', w', hrun, OwnP.of_row (by rw [hap, hal]; exact ownsRow_base hrow hb), ⟨hg.os, hg.tape, hg.output, hg.size, fun k hk _ => hg.block k hk (by simp)⟩, ?_⟩
      obtain ⟨g', c', rfl⟩ := ownsRow_succ hrow
      exact .inr ⟨g', rfl, (hrow.lt g' rfl).1⟩
theorem wpList_append_P {P : Program} (w : World) {ops : Array Oper} {rest : List Oper} {o : Oper} {a : Act} {Q : Exit → Act → World → Prop} (hgd : o.guard = none) (s x : Operand) (t : TypeId) (hop : o.op = Op.call { callee := Callee.builtin Builtin.append, args := #[s, x], argTypes := #[t, t] })
    (base : Nat) (hb : base ≤ w.heap.size) (i : TypeInfo) (ht : P.underlying t = some (.slice 58)) (hi : P.info? 58 = some i) (hz : i.zero = some (.agg #[.int .i64 0, .int .i64 0, .int .i64 0])) (hsize : i.size = 3) (hby : i.bytes = 24)
    (v : Value) (hs : a.eval s = v) (es : List (Int × Int)) (hm : OwnP w base v es) (hl : es.length ≤ 100) (ad : Addr) (hx : a.eval x = .slice (some ad) 1 1) (f : Int × Int) (hc : ∀ j u, [Value.int .i64 (10 + (es.length : Int)), .int .i64 f.1, .int .i64 f.2][j]? = some u → w.cell? (ad.add j) = some u)
    (hK : ∀ v' w', OwnP w' base v' (es ++ [f]) → w.grownBy w' v.ownBlock → (v'.ownBlock = v.ownBlock ∨ ∃ g, v'.ownBlock = some g ∧ w.heap.size ≤ g) → wpList P ops Q rest (a.put o.dst v') w') : wpList P ops Q (o :: rest) a w := by
  refine wpList_plain hgd fun K hK' => ?_
  obtain ⟨v', w', hrun, r1, r2, r3⟩ := run_append_P (P := P) w base hb t o.type i ht hi hz hsize hby v es hm hl ad f hc
  unfold Oper.wp
  simp [execOp, hop, resolve, invoke, builtin, hs, hx, hrun, Result.andThen]
  exact hK' _ _ (hK v' w' r1 r2 r3)

set_option maxRecDepth 8000 in
set_option maxHeartbeats 8000000 in
theorem lout_P (W : World) (base : Nat) (hB : base ≤ W.heap.size) (v : Value) (es : List (Int × Int)) (hg : GoodE es) (hrow : OwnP W base v es) (e : Int × Int) :
    Calls Tryz.prog 68 #[v, endV e.1 e.2] W fun r W' => ∃ v', r = .returned (.tuple #[v', .int .i64 (outE es e).2.1, .bool (outE es e).2.2]) ∧ OwnP W' base v' (outE es e).1 ∧ Below base W W' ∧ Gr W W' v v' ∧ ((outE es e).2.2 = false → Below W.heap.size W W') := by
  obtain ⟨i0, hi, hz0, hz1, hz2⟩ := info_parts infoM
  have h8 := hg.len
  have hM : IsM W v (prs es) := hrow.isM
  obtain ⟨a, c, hv⟩ := isM_slice hM
  rw [prs_len] at hv
  subst hv
  have bA : Below W.heap.size W (W.alloc (.cells #[.int .i64 e.1, .int .i64 e.2] 40)) := (Below.refl _ _).alloc (Nat.le_refl _) _
  go_enter Tryz.func68, Tryz.ntmps68
  go_wp2
  go_loopw [7] (fun i wr => ∃ k n : Nat, k ≤ es.length ∧ i = .int .i64 k ∧ (∀ (l : Nat) (f : Int × Int), l < k → es[l]? = some f → f ≠ e) ∧ wr = (W.alloc (.cells #[.int .i64 e.1, .int .i64 e.2] 40)).drewN n) (fun i wr => es.length - (intOf i).toNat)
  case atStart => exact ⟨0, 0, Nat.zero_le _, rfl, fun l f hl => by omega, rfl⟩
  case round =>
    obtain ⟨k, n, hk, rfl, hno, hwr⟩ := hrel
    have hb : Below W.heap.size W wr := by rw [hwr]; exact bA.trans (below_drewN _ _ _)
    have c0 : wr.cell? ⟨W.heap.size, 0, none⟩ = some (.int .i64 e.1) := by rw [hwr]; simp
    have c1 : wr.cell? ⟨W.heap.size, 1, none⟩ = some (.int .i64 e.2) := by rw [hwr]; simp
    have hrow2 : OwnP wr base (.slice a es.length c) es := hrow.below hb
    have hsz : W.heap.size < wr.heap.size := by rw [hwr]; simp [World.drewN]
    have HW : Hid (wr = (W.alloc (.cells #[.int .i64 e.1, .int .i64 e.2] 40)).drewN n) := hwr
    clear hwr
    by_cases hkl : k < es.length
    · have hkl' : (k : Int) < (es.length : Int) := by omega
      have hf : es[k]? = some es[k] := List.getElem?_eq_getElem hkl
      have hp : (prs es)[k]? = some (10 + (k : Int), es[k]) := by rw [prs_at, hf]; rfl
      obtain ⟨g, o, rfl, hnn, hc1, hc2, hat⟩ := isM_at (hM.below hb) k _ hp
      rw [prs_len] at hc1
      clear hnn
      generalize es[k] = f at hf hp hat
      obtain ⟨q0, q1, q2⟩ := hat
      obtain ⟨fa, fp⟩ := f
      obtain ⟨ea, ep⟩ := e
      simp only at q0 q1 q2 c0 c1
      by_cases he : fa = ea ∧ fp = ep
      · obtain ⟨rfl, rfl⟩ := he
        have hm : (fa, fp) ∈ es := List.mem_of_getElem? hf
        have hout : Hid (outE es (fa, fp) = (es, 10 + (k : Int), true)) := by
          show outE es (fa, fp) = _
          rw [outE_has es _ hm, idx_uniq es hg.nd _ k hf]
        clear hno hM hp hf
        go_wp2_with fail
        go_quiet (fail)
        go_wp2_with fail
        go_quiet (fail)
        go_wp2
        refine bodyPost_ret (v := .tuple #[.slice (some ⟨g, o, none⟩) es.length c, .int .i64 (10 + (k : Int)), .bool true]) (by simp [results, Tryz.results68, go_sem]) rfl ?_
        rw [hout.out]
        exact ⟨_, rfl, hrow2, (hb.mono hB).trans ((below_drewN _ _ _).trans (below_drewN _ _ _)), ⟨grown_of (hb.trans ((below_drewN _ _ _).trans (below_drewN _ _ _))) _, .inl rfl⟩, fun h => by cases h⟩
      · have hno2 : ∀ (l : Nat) (f : Int × Int), l < k + 1 → es[l]? = some f → f ≠ (ea, ep) := by
          intro l q hl hql
          by_cases e : l = k
          · subst e; rw [hf] at hql; obtain rfl := Option.some.inj hql
            intro h; simp at h; exact he h
          · exact hno l q (by omega) hql
        clear hno hM hp hf hrow2
        by_cases h1 : fa = ea
        · have h2 : (fp == ep) = false := by simp; exact fun h => he ⟨h1, h⟩
          subst h1
          go_wp2_with fail
          go_quiet (fail)
          go_wp2
          go_roundw
          case rel => exact ⟨k + 1, n + nq, by omega, by go_num, hno2, by rw [HW.out, dd]⟩
          case measure => simp [intOf]; omega
        · have h2 : (fa == ea) = false := by simp; exact h1
          go_wp2_with fail
          go_quiet (fail)
          go_wp2
          go_roundw
          case rel => exact ⟨k + 1, n + nq, by omega, by go_num, hno2, by rw [HW.out, dd]⟩
          case measure => simp [intOf]; omega
    · have hge : (es.length : Int) ≤ (k : Int) := by omega
      have hnm : e ∉ es := by
        intro hm
        obtain ⟨l, hl⟩ := List.mem_iff_getElem?.1 hm
        have := (List.getElem?_eq_some_iff.1 hl).1
        exact hno l e (by omega) hl rfl
      by_cases hl : es.length < 8
      · have hl' : (es.length : Int) ≤ 7 := by omega
        have hout : Hid (outE es e = (es ++ [e], 10 + (es.length : Int), true)) := outE_new es e hnm hl
        clear hno hM
        go_wp2_with (at_builtin; refine wpList_append_P _ rfl _ _ 28 rfl base (by simp; omega) i0 Tryz.underlying28 hi hz0 hz1 hz2 _ rfl es (hrow2.alloc _) (by omega) ⟨wr.heap.size, 0, none⟩ rfl e (three_at _ _ _ _ _ _ rfl) ?_; intro v' w2 hown' hgrow hwh)
        refine bodyPost_ret (v := .tuple #[v', .int .i64 (10 + (es.length : Int)), .bool true]) (by simp [results, Tryz.results68, go_sem]) rfl ?_
        rw [hout.out]
        refine ⟨_, rfl, ?_, (hb.mono hB).trans (((Below.refl _ _).alloc (by omega) _).trans (grown_below hgrow (by simp; omega) (fun k hk => (hrow2.lt k hk).1))), ⟨grown_trans (grown_of (hb.alloc hb.size _) _) hgrow, ?_⟩, fun h => by cases h⟩
        · exact hown'
        · rcases hwh with q | ⟨g, q, hq⟩
          · exact .inl q
          · exact .inr ⟨g, q, by have := hb.size; simp at hq; omega⟩
      · have hl' : (7 : Int) < (es.length : Int) := by omega
        have hout : Hid (outE es e = (es, 0, false)) := outE_full es e hnm (by omega)
        clear hno hM
        go_wp2
        refine bodyPost_ret (v := .tuple #[.slice a es.length c, .int .i64 0, .bool false]) (by simp [results, Tryz.results68, go_sem]) rfl ?_
        rw [hout.out]
        exact ⟨_, rfl, hrow2, hb.mono hB, ⟨grown_of hb _, .inl rfl⟩, fun _ => hb⟩
end Go.Proofs.YtfmjhbdbgcgoiaaGreatDoor.Ms

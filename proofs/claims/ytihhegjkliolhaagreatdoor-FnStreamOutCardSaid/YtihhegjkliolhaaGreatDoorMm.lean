/- Lists of pairs in memory: how they read. -/
import Derived.Test.YtihhegjkliolhaaGreatDoorMp
import Derived.Test.YtihhegjkliolhaaGreatDoorApp
namespace Go.Proofs.YtihhegjkliolhaaGreatDoor.Mm
open Go.RowKit Go.Proofs.YtihhegjkliolhaaGreatDoor.Kit Go.Proofs.YtihhegjkliolhaaGreatDoor.Mp Go.Proofs.YtihhegjkliolhaaGreatDoor.App
set_option linter.unusedSimpArgs false

/-- pairs, cell by cell -/
def cellsM (m : List (Int × Int × Int)) : List Value := m.flatMap fun p => [.int .i64 p.1, .int .i64 p.2.1, .int .i64 p.2.2]
theorem cellsM_snoc (m : List (Int × Int × Int)) (p : Int × Int × Int) : cellsM (m ++ [p]) = cellsM m ++ [.int .i64 p.1, .int .i64 p.2.1, .int .i64 p.2.2] := by simp [cellsM]
theorem cellsM_len (m : List (Int × Int × Int)) : (cellsM m).length = m.length * 3 := by
  induction m with
  | nil => rfl
  | cons p m ih =>
    have : cellsM (p :: m) = .int .i64 p.1 :: .int .i64 p.2.1 :: .int .i64 p.2.2 :: cellsM m := by simp [cellsM]
    rw [this]; simp only [List.length_cons]; omega
theorem cellsM_one (m : List (Int × Int × Int)) : ∀ u ∈ cellsM m, u.oneCell' = true := by
  intro u hu
  simp only [cellsM, List.mem_flatMap] at hu
  obtain ⟨p, _, hp⟩ := hu
  simp at hp
  rcases hp with rfl | rfl | rfl <;> rfl
theorem infoM : (Tryz.prog.info? 79).map (fun i => (i.zero, i.size, i.bytes)) = some (some (.agg #[.int .i64 0, .int .i64 0, .int .i64 0]), 3, 24) := by kernel_rfl

/-- the three cells of a pair -/
def At3 (W : World) (g o : Nat) (p : Int × Int × Int) : Prop := W.cell? ⟨g, o, none⟩ = some (.int .i64 p.1) ∧ W.cell? ⟨g, o + 1, none⟩ = some (.int .i64 p.2.1) ∧ W.cell? ⟨g, o + 2, none⟩ = some (.int .i64 p.2.2)
theorem At3.same {W W' : World} {g o : Nat} {p : Int × Int × Int} (h : At3 W g o p) (k : W'.heap[g]? = W.heap[g]?) : At3 W' g o p := by
  have e : ∀ j, W'.cell? ⟨g, j, none⟩ = W.cell? ⟨g, j, none⟩ := fun j => World.cell?_of_block k
  exact ⟨(e _).trans h.1, (e _).trans h.2.1, (e _).trans h.2.2⟩
theorem At3.below {W W' : World} {g o : Nat} {p : Int × Int × Int} (h : At3 W g o p) (k : Below W.heap.size W W') : At3 W' g o p := h.same (k.block g (blk h.1))

/-- a slice that reads as pairs -/
def IsM (W : World) (v : Value) (m : List (Int × Int × Int)) : Prop :=
  (v = .slice none 0 0 ∧ m = []) ∨ ∃ g o cap, v = .slice (some ⟨g, o, none⟩) m.length cap ∧ m.length ≤ cap ∧ cap ≤ maxLen ∧ g < W.heap.size ∧ ∀ (i : Nat) (p : Int × Int × Int), m[i]? = some p → At3 W g (o + i * 3) p
theorem IsM.below {W W' : World} {v : Value} {m : List (Int × Int × Int)} (h : IsM W v m) (k : Below W.heap.size W W') : IsM W' v m := by
  rcases h with h | ⟨g, o, cap, h1, h2, h3, h5, h4⟩
  · exact .inl h
  · exact .inr ⟨g, o, cap, h1, h2, h3, Nat.lt_of_lt_of_le h5 k.size, fun i p hp => (h4 i p hp).below k⟩
theorem isM_slice {W : World} {v : Value} {m : List (Int × Int × Int)} (h : IsM W v m) : ∃ a c, v = .slice a m.length c := by
  rcases h with ⟨rfl, rfl⟩ | ⟨g, o, c, rfl, _⟩
  · exact ⟨none, 0, rfl⟩
  · exact ⟨_, _, rfl⟩
/-- the pair at a place -/
theorem isM_at {W : World} {a : Option Addr} {n c : Nat} {m : List (Int × Int × Int)} (h : IsM W (.slice a n c) m) (i : Nat) (p : Int × Int × Int) (hi : m[i]? = some p) : ∃ g o, a = some ⟨g, o, none⟩ ∧ n = m.length ∧ m.length ≤ c ∧ c ≤ maxLen ∧ At3 W g (o + i * 3) p := by
  rcases h with ⟨_, rfl⟩ | ⟨g, o, cap, h1, h2, h3, _, h4⟩
  · cases hi
  · simp at h1
    obtain ⟨rfl, rfl, rfl⟩ := h1
    exact ⟨g, o, rfl, rfl, h2, h3, h4 i p hi⟩
theorem cellsM_at (m : List (Int × Int × Int)) (i : Nat) (p : Int × Int × Int) (h : m[i]? = some p) : (cellsM m)[i * 3]? = some (.int .i64 p.1) ∧ (cellsM m)[i * 3 + 1]? = some (.int .i64 p.2.1) ∧ (cellsM m)[i * 3 + 2]? = some (.int .i64 p.2.2) := by
  induction m generalizing i with
  | nil => simp at h
  | cons q m ih =>
    have e : cellsM (q :: m) = .int .i64 q.1 :: .int .i64 q.2.1 :: .int .i64 q.2.2 :: cellsM m := by simp [cellsM]
    cases i with
    | zero => simp at h; subst h; rw [e]; simp
    | succ i =>
      simp at h
      have := ih i h
      rw [e]
      have s : ∀ j, ((.int .i64 q.1 : Value) :: .int .i64 q.2.1 :: .int .i64 q.2.2 :: cellsM m)[j + 3]? = (cellsM m)[j]? := fun j => rfl
      rw [show (i + 1) * 3 = i * 3 + 3 by omega, show i * 3 + 3 + 1 = i * 3 + 1 + 3 by omega, show i * 3 + 3 + 2 = i * 3 + 2 + 3 by omega, s, s, s]
      exact this
theorem isM_of_row {W : World} {b : Nat} {e : TypeId} {v : Value} {m : List (Int × Int × Int)} (h : W.ownsRow b e 3 v m.length (cellsM m)) : IsM W v m := by
  rcases h.2 with ⟨rfl, h0⟩ | ⟨g, cap, cur, rfl, hb, hg, hnc, hcm, hcs, htake⟩
  · exact .inl ⟨rfl, List.length_eq_zero_iff.1 h0⟩
  · refine .inr ⟨g, 0, cap, rfl, hnc, hcm, (Array.getElem?_eq_some_iff.1 hg).1, fun i p hp => ?_⟩
    have hi : i < m.length := (List.getElem?_eq_some_iff.1 hp).1
    have hat := cellsM_at m i p hp
    have key : ∀ (j : Nat) (u : Value), j < m.length * 3 → (cellsM m)[j]? = some u → W.cell? ⟨g, j, none⟩ = some u := by
      intro j u hj hu
      rw [← htake, List.getElem?_take_of_lt hj, Array.getElem?_toList] at hu
      simp [World.cell?, hg, hu]
    rw [Nat.zero_add]
    exact ⟨key _ _ (by omega) hat.1, key _ _ (by omega) hat.2.1, key _ _ (by omega) hat.2.2⟩
/-- the first so many -/
theorem isM_take {W : World} {a : Option Addr} {n c : Nat} {m : List (Int × Int × Int)} (h : IsM W (.slice a n c) m) (k : Nat) (hk : k ≤ m.length) : IsM W (.slice a k c) (m.take k) := by
  rcases h with ⟨h1, rfl⟩ | ⟨g, o, cap, h1, h2, h3, h5, h4⟩
  · simp at h1 hk
    obtain ⟨rfl, _, rfl⟩ := h1
    subst hk
    exact .inl ⟨rfl, rfl⟩
  · simp at h1
    obtain ⟨rfl, rfl, rfl⟩ := h1
    refine .inr ⟨g, o, c, by rw [List.length_take, Nat.min_eq_left hk], by rw [List.length_take]; omega, h3, h5, fun i p hp => h4 i p ?_⟩
    rw [List.getElem?_take] at hp
    split at hp
    · exact hp
    · cases hp
/-- three cells of a new block, its number said -/
theorem three_at (W : World) (t : TypeId) (a b c : Value) (n : Nat) (hn : W.heap.size = n) : ∀ j u, [a, b, c][j]? = some u → (W.alloc (.cells #[a, b, c] t)).cell? ((⟨n, 0, none⟩ : Addr).add j) = some u := by
  subst hn
  intro j u h
  rw [Addr.add_lit, Nat.zero_add]
  match j with
  | 0 => simp at h; subst h; simp
  | 1 => simp at h; subst h; simp
  | 2 => simp at h; subst h; simp
  | j + 3 => simp at h
end Go.Proofs.YtihhegjkliolhaaGreatDoor.Mm

/- Lists of pieces in memory: how they read; the laws' own comparison and sum of them. -/
import Derived.Test.YtfmjhbdbgcgoiaaGreatDoorPcsS
import Derived.BigQuiet
import Derived.Deep.QuietTactic
namespace Go.Proofs.YtfmjhbdbgcgoiaaGreatDoor.Lz
open Go.RowKit Go.Proofs.YtfmjhbdbgcgoiaaGreatDoor.Kit Go.Proofs.YtfmjhbdbgcgoiaaGreatDoor.Tx Go.Proofs.YtfmjhbdbgcgoiaaGreatDoor.Nm Go.Proofs.YtfmjhbdbgcgoiaaGreatDoor.Pcs
set_option linter.unusedSimpArgs false

/-- the four cells of a piece -/
def At4 (W : World) (g o : Nat) (p : Pc) : Prop :=
  W.cell? ⟨g, o, none⟩ = some (.int .i64 (p.sz : Nat)) ∧ W.cell? ⟨g, o + 1, none⟩ = some (.bool p.nm) ∧ W.cell? ⟨g, o + 2, none⟩ = some (.int .i64 p.ad) ∧ W.cell? ⟨g, o + 3, none⟩ = some (.int .i64 p.po)
theorem At4.below {W W' : World} {g o : Nat} {p : Pc} (h : At4 W g o p) (k : Below W.heap.size W W') : At4 W' g o p := by
  have hg : g < W.heap.size := blk h.1
  exact ⟨(k.cell (p := ⟨g, o, none⟩) hg).trans h.1, (k.cell (p := ⟨g, o + 1, none⟩) hg).trans h.2.1, (k.cell (p := ⟨g, o + 2, none⟩) hg).trans h.2.2.1, (k.cell (p := ⟨g, o + 3, none⟩) hg).trans h.2.2.2⟩

/-- a slice that reads as pieces -/
def IsP (W : World) (v : Value) (ps : List Pc) : Prop :=
  (v = .slice none 0 0 ∧ ps = []) ∨ ∃ g o cap, v = .slice (some ⟨g, o, none⟩) ps.length cap ∧ ps.length ≤ cap ∧ cap ≤ maxLen ∧ ∀ (i : Nat) (p : Pc), ps[i]? = some p → At4 W g (o + i * 4) p
theorem IsP.below {W W' : World} {v : Value} {ps : List Pc} (h : IsP W v ps) (k : Below W.heap.size W W') : IsP W' v ps := by
  rcases h with h | ⟨g, o, cap, h1, h2, h3, h4⟩
  · exact .inl h
  · exact .inr ⟨g, o, cap, h1, h2, h3, fun i p hp => (h4 i p hp).below k⟩

theorem cellsP_at (ps : List Pc) (i : Nat) (p : Pc) (h : ps[i]? = some p) :
    (cellsP ps)[i * 4]? = some (.int .i64 (p.sz : Nat)) ∧ (cellsP ps)[i * 4 + 1]? = some (.bool p.nm) ∧ (cellsP ps)[i * 4 + 2]? = some (.int .i64 p.ad) ∧ (cellsP ps)[i * 4 + 3]? = some (.int .i64 p.po) := by
  induction ps generalizing i with
  | nil => simp at h
  | cons q ps ih =>
    have e : cellsP (q :: ps) = .int .i64 (q.sz : Nat) :: .bool q.nm :: .int .i64 q.ad :: .int .i64 q.po :: cellsP ps := by simp [cellsP]
    cases i with
    | zero => simp at h; subst h; rw [e]; simp
    | succ i =>
      simp at h
      have := ih i h
      rw [e]
      have s : ∀ j, ((.int .i64 (q.sz : Nat) : Value) :: .bool q.nm :: .int .i64 q.ad :: .int .i64 q.po :: cellsP ps)[j + 4]? = (cellsP ps)[j]? := fun j => rfl
      rw [show (i + 1) * 4 = i * 4 + 4 by omega, show i * 4 + 4 + 1 = i * 4 + 1 + 4 by omega, show i * 4 + 4 + 2 = i * 4 + 2 + 4 by omega, show i * 4 + 4 + 3 = i * 4 + 3 + 4 by omega, s, s, s, s]
      exact this

theorem isP_of_row {W : World} {b : Nat} {e : TypeId} {v : Value} {ps : List Pc} (h : W.ownsRow b e 4 v ps.length (cellsP ps)) : IsP W v ps := by
  rcases h.2 with ⟨rfl, h0⟩ | ⟨g, cap, cur, rfl, hb, hg, hnc, hcm, hcs, htake⟩
  · exact .inl ⟨rfl, List.length_eq_zero_iff.1 h0⟩
  · refine .inr ⟨g, 0, cap, rfl, hnc, hcm, fun i p hp => ?_⟩
    have hi : i < ps.length := by
      rcases Nat.lt_or_ge i ps.length with q | q
      · exact q
      · rw [List.getElem?_eq_none q] at hp; cases hp
    have hat := cellsP_at ps i p hp
    have key : ∀ (j : Nat) (u : Value), j < ps.length * 4 → (cellsP ps)[j]? = some u → W.cell? ⟨g, j, none⟩ = some u := by
      intro j u hj hu
      rw [← htake, List.getElem?_take_of_lt hj, Array.getElem?_toList] at hu
      simp [World.cell?, hg, hu]
    rw [Nat.zero_add]
    exact ⟨key _ _ (by omega) hat.1, key _ _ (by omega) hat.2.1, key _ _ (by omega) hat.2.2.1, key _ _ (by omega) hat.2.2.2⟩




end Go.Proofs.YtfmjhbdbgcgoiaaGreatDoor.Lz

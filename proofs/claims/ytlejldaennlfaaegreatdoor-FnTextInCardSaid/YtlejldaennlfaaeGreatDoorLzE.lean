/- Lists of ends in memory: how they read; plain facts on names. -/
import Derived.Test.YtlejldaennlfaaeGreatDoorNasB
namespace Go.Proofs.YtlejldaennlfaaeGreatDoor.LzE
open Go.RowKit Go.Proofs.YtlejldaennlfaaeGreatDoor.Kit Go.Proofs.YtlejldaennlfaaeGreatDoor.Tx Go.Proofs.YtlejldaennlfaaeGreatDoor.Nm Go.Proofs.YtlejldaennlfaaeGreatDoor.Pcs Go.Proofs.YtlejldaennlfaaeGreatDoor.Lz Go.Proofs.YtlejldaennlfaaeGreatDoor.LzP Go.Proofs.YtlejldaennlfaaeGreatDoor.Nas
open Go.Proofs.YtlejldaennlfaaeGreatDoor.EndW (sideZ)
open Go.Proofs.YtlejldaennlfaaeGreatDoor.Text (txtL fig)
open Go.Proofs.YtlejldaennlfaaeGreatDoor.Read (Errs)

/-- the two cells of an end -/
def At2 (W : World) (g o : Nat) (p : Int × Int) : Prop := W.cell? ⟨g, o, none⟩ = some (.int .i64 p.1) ∧ W.cell? ⟨g, o + 1, none⟩ = some (.int .i64 p.2)
theorem At2.below {W W' : World} {g o : Nat} {p : Int × Int} (h : At2 W g o p) (k : Below W.heap.size W W') : At2 W' g o p := by
  have hg : g < W.heap.size := blk h.1
  exact ⟨(k.cell (p := ⟨g, o, none⟩) hg).trans h.1, (k.cell (p := ⟨g, o + 1, none⟩) hg).trans h.2⟩

/-- a slice that reads as ends -/
def IsE (W : World) (v : Value) (ps : List (Int × Int)) : Prop :=
  (v = .slice none 0 0 ∧ ps = []) ∨ ∃ g cap, v = .slice (some ⟨g, 0, none⟩) ps.length cap ∧ ps.length ≤ cap ∧ cap ≤ maxLen ∧ ∀ (i : Nat) (p : Int × Int), ps[i]? = some p → At2 W g (i * 2) p
theorem IsE.below {W W' : World} {v : Value} {ps : List (Int × Int)} (h : IsE W v ps) (k : Below W.heap.size W W') : IsE W' v ps := by
  rcases h with h | ⟨g, cap, h1, h2, h3, h4⟩
  · exact .inl h
  · exact .inr ⟨g, cap, h1, h2, h3, fun i p hp => (h4 i p hp).below k⟩
theorem isE_slice {W : World} {v : Value} {ps : List (Int × Int)} (h : IsE W v ps) : ∃ a c, v = .slice a ps.length c := by
  rcases h with ⟨rfl, rfl⟩ | ⟨g, c, rfl, _⟩
  · exact ⟨none, 0, rfl⟩
  · exact ⟨_, _, rfl⟩

theorem cellsE_at (ps : List (Int × Int)) (i : Nat) (p : Int × Int) (h : ps[i]? = some p) : (cellsE ps)[i * 2]? = some (.int .i64 p.1) ∧ (cellsE ps)[i * 2 + 1]? = some (.int .i64 p.2) := by
  induction ps generalizing i with
  | nil => simp at h
  | cons q ps ih =>
    have e : cellsE (q :: ps) = .int .i64 q.1 :: .int .i64 q.2 :: cellsE ps := by simp [cellsE]
    cases i with
    | zero => simp at h; subst h; rw [e]; simp
    | succ i =>
      simp at h
      have := ih i h
      rw [e]
      have s : ∀ j, ((.int .i64 q.1 : Value) :: .int .i64 q.2 :: cellsE ps)[j + 2]? = (cellsE ps)[j]? := fun j => rfl
      rw [show (i + 1) * 2 = i * 2 + 2 by omega, show i * 2 + 2 + 1 = i * 2 + 1 + 2 by omega, s, s]
      exact this
theorem isE_of_row {W : World} {b : Nat} {e : TypeId} {v : Value} {ps : List (Int × Int)} (h : W.ownsRow b e 2 v ps.length (cellsE ps)) : IsE W v ps := by
  rcases h.2 with ⟨rfl, h0⟩ | ⟨g, cap, cur, rfl, hb, hg, hnc, hcm, hcs, htake⟩
  · exact .inl ⟨rfl, List.length_eq_zero_iff.1 h0⟩
  · refine .inr ⟨g, cap, rfl, hnc, hcm, fun i p hp => ?_⟩
    have hi : i < ps.length := by
      rcases Nat.lt_or_ge i ps.length with q | q
      · exact q
      · rw [List.getElem?_eq_none q] at hp; cases hp
    have hat := cellsE_at ps i p hp
    have key : ∀ (j : Nat) (u : Value), j < ps.length * 2 → (cellsE ps)[j]? = some u → W.cell? ⟨g, j, none⟩ = some u := by
      intro j u hj hu
      rw [← htake, List.getElem?_take_of_lt hj, Array.getElem?_toList] at hu
      simp [World.cell?, hg, hu]
    exact ⟨key _ _ (by omega) hat.1, key _ _ (by omega) hat.2⟩

theorem names_is (s : ByteArray) (es : List (Int × Int)) (h : ends (pieL s.data.toList) = es) (w : World) (herr : Errs w) : Calls Tryz.prog 15 #[.string s] w fun e w' => ∃ v, e = .returned v ∧ IsE w' v es ∧ Below w.heap.size w w' := by
  subst h
  refine (names_any s w herr).mono ?_
  rintro e w' ⟨v, he, hr, hb⟩
  exact ⟨v, he, isE_of_row hr, hb⟩
theorem hp_no59 (l : List UInt8) : (59 : UInt8) ∉ hp l := by
  have h9 : (59 : UInt8).toNat = 59 := rfl
  intro hm
  have hl := hp_len l
  have h5 := heldN_le l
  by_cases h0 : heldN l = 0
  · rw [hp_none l h0] at hm; simp at hm
  · have hb := hp_beg l h0
    rw [← hl] at h5 h0
    generalize hp l = q at *
    clear hl
    match q with
    | [] => simp at hm
    | [a] => simp [begB] at hb hm; subst hm; omega
    | [a, b] => simp [begB] at hb hm; rcases hm with rfl | rfl <;> omega
    | [a, b, c] => simp [begB] at hb hm; rcases hm with rfl | rfl | rfl <;> omega
    | [a, b, c, d] => simp [begB] at hb hm; rcases hm with rfl | rfl | rfl | rfl <;> omega
    | [a, b, c, d, f] => simp [begB] at hb hm; rcases hm with rfl | rfl | rfl | rfl | rfl <;> omega
    | a :: b :: c :: d :: f :: g :: t => simp at h5
theorem no59_name (l : List UInt8) (h : (59 : UInt8) ∉ l) : nameO l = none := by
  refine (nameO_none l).2 fun e he => h ?_
  exact he.2.subset (by simp [nmL])
theorem ends_app (a b : List Pc) : ends (a ++ b) = ends a ++ ends b := by simp [ends]
theorem no59_ends (l : List UInt8) (h : (59 : UInt8) ∉ l) : ends (pcs l) = [] := by
  by_cases ha : l = []
  · subst ha; rw [pcs_nil]; rfl
  · rw [pcs_none l ha (no59_name l h)]
    have := no59_ends (l.drop 1) (fun hm => h (List.mem_of_mem_drop hm))
    show ends ([⟨1, false, 0, 0⟩] ++ pcs (l.drop 1)) = []
    rw [ends_app, this]; rfl
termination_by l.length
decreasing_by
  have : 0 < l.length := List.length_pos_iff.2 ha
  rw [List.length_drop]; omega
/-- what is held names nobody -/
theorem ends_pie (l : List UInt8) (h : okB l = true) : ends (pcs l) = ends (pieL l) := by
  rw [pie_ok _ h]
  have := pcs_app (bd l) (hp l) (nc_hp _ l)
  rw [bd_hp] at this
  rw [this, ends_app, no59_ends _ (hp_no59 l), List.append_nil]
theorem nm_name (e : Int × Int) (h : sideZ e.1 e.2 ≠ 0) (t : List UInt8) : nameO (nmL e ++ t) = some e := (nameO_some _ _).2 ⟨h, List.prefix_append _ _⟩
theorem nm_pcs (e : Int × Int) (h : sideZ e.1 e.2 ≠ 0) (t : List UInt8) : pcs (nmL e ++ t) = ⟨(nmL e).length, true, e.1, e.2⟩ :: pcs t := by
  rw [pcs_some _ e (nm_name e h t), List.drop_left' rfl]
/-- with a name behind, one more -/
theorem ends_more (l : List UInt8) (e : Int × Int) (h : okB l = true) (hs : sideZ e.1 e.2 ≠ 0) (hl : l.length + (nmL e).length ≤ 40) :
    okB (l ++ nmL e) = true ∧ heldN (l ++ nmL e) = 0 ∧ ends (pieL (l ++ nmL e)) = ends (pieL l) ++ [e] := by
  have hn : okB (nmL e) = true := (ok_iff _).2 ⟨by omega, nm_bytes e hs⟩
  have ho := ok_app l (nmL e) h hn hl
  have hh : heldN (l ++ nmL e) = 0 := by rw [heldN_app]; exact nm_none e _
  refine ⟨ho, hh, ?_⟩
  rw [← ends_pie _ ho, pcs_app l (nmL e) (nc_at l _ 64 rfl), ends_app, ends_pie _ h]
  have := nm_pcs e hs []
  rw [List.append_nil, pcs_nil] at this
  rw [this]; rfl
end Go.Proofs.YtlejldaennlfaaeGreatDoor.LzE

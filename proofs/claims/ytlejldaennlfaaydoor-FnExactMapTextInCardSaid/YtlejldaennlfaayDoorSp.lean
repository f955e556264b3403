/- Walks: as what a piece goes out, and comes in, by the model; MapTextOut and MapTextIn of the model. -/
import Derived.Test.YtlejldaennlfaayDoorMo
import Derived.Test.YtlejldaennlfaayDoorMr
import Derived.Test.YtlejldaennlfaayDoorGp
import Derived.Test.YtlejldaennlfaayDoorLzP
import Derived.Test.YtlejldaennlfaayDoorWa
namespace Go.Proofs.YtlejldaennlfaayDoor.Sp
open Go.RowKit Go.Proofs.YtlejldaennlfaayDoor.Kit Go.Proofs.YtlejldaennlfaayDoor.Mp Go.Proofs.YtlejldaennlfaayDoor.Mm Go.Proofs.YtlejldaennlfaayDoor.Ms Go.Proofs.YtlejldaennlfaayDoor.Tx Go.Proofs.YtlejldaennlfaayDoor.Nm Go.Proofs.YtlejldaennlfaayDoor.App Go.Proofs.YtlejldaennlfaayDoor.Gp
open Go.Proofs.YtlejldaennlfaayDoor.EndW (endV sideZ isB spec1)
open Go.Proofs.YtlejldaennlfaayDoor.Text (txt specText)
set_option linter.unusedSimpArgs false
set_option linter.unusedVariables false

theorem txt_four (x y : Int) : (txt x y).size ≤ 4 := by
  by_cases h : sideZ x y = 0
  · unfold txt; rw [if_pos h]; exact Nat.le_of_ble_eq_true rfl
  · rw [Text.txt_len x y h]; split <;> omega


theorem isP_grown {W W' : World} {row : Option Nat} {v : Value} {ps : List Pc} (h : Lz.IsP W v ps) (k : W.grownBy W' row) (hv : ∀ g o n c, v = .slice (some ⟨g, o, none⟩) n c → row ≠ some g) : Lz.IsP W' v ps := by
  rcases h with h | ⟨g, o, cap, rfl, h2, h3, h4⟩
  · exact .inl h
  · refine .inr ⟨g, o, cap, rfl, h2, h3, fun i p hp => ?_⟩
    have hq := h4 i p hp
    have hlt : g < W.heap.size := blk hq.1
    have e : ∀ j, W'.cell? ⟨g, j, none⟩ = W.cell? ⟨g, j, none⟩ := fun j => World.cell?_of_block (k.block g hlt (fun e => hv g o _ _ rfl e.symm))
    exact ⟨(e _).trans hq.1, (e _).trans hq.2.1, (e _).trans hq.2.2.1, (e _).trans hq.2.2.2⟩
theorem lpieces_any (s : ByteArray) (hsz : s.size ≤ 1073741824) (w : World) :
    Calls Tryd.prog 11 #[.string s] w fun e W' => ∃ v, e = .returned v ∧ W'.ownsRow w.heap.size 37 4 v (pcs (bd s.data.toList)).length (Pcs.cellsP (pcs (bd s.data.toList))) ∧ Below w.heap.size w W' :=
  (callsIn_wide (n := 5)).1 (Pcs.lpieces_in 5 (by omega) s hsz w)
theorem szs_take (ps : List Pc) (k : Nat) (p : Pc) (h : ps[k]? = some p) : szs (ps.take (k + 1)) = szs (ps.take k) + p.sz := by
  rw [List.take_add_one, h]; simp [szs]
theorem szs_take_le (ps : List Pc) (k : Nat) : szs (ps.take k) ≤ szs ps := by
  have : szs (ps.take k ++ ps.drop k) = szs (ps.take k) + szs (ps.drop k) := by unfold szs; rw [List.map_append, List.sum_append]
  rw [List.take_append_drop] at this
  omega
theorem outP_take (es : List (Int × Int)) (ps : List Pc) (k : Nat) (p : Pc) (l : List UInt8) (h : ps[k]? = some p) :
    outP es (ps.take (k + 1)) l = ((goO (outP es (ps.take k) l).1 p ((l.drop (szs (ps.take k))).take p.sz)).1, (outP es (ps.take k) l).2 ++ (goO (outP es (ps.take k) l).1 p ((l.drop (szs (ps.take k))).take p.sz)).2) := by
  rw [List.take_add_one, h]
  exact outP_snoc es (ps.take k) p l
theorem inP_take (es : List (Int × Int)) (ps : List Pc) (k : Nat) (p : Pc) (l : List UInt8) (h : ps[k]? = some p) :
    inP es (ps.take (k + 1)) l = inP es (ps.take k) l ++ goI es p ((l.drop (szs (ps.take k))).take p.sz) := by
  rw [List.take_add_one, h]
  exact inP_snoc es (ps.take k) p l

end Go.Proofs.YtlejldaennlfaayDoor.Sp

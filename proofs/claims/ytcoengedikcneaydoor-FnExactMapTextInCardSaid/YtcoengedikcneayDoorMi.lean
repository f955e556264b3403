/- Walks: MapOk, MapOut and MapIn of the program. -/
import Derived.Test.YtcoengedikcneayDoorMl
namespace Go.Proofs.YtcoengedikcneayDoor.Ml
open Go.RowKit Go.Proofs.YtcoengedikcneayDoor.Kit Go.Proofs.YtcoengedikcneayDoor.Mp Go.Proofs.YtcoengedikcneayDoor.Mj Go.Proofs.YtcoengedikcneayDoor.Mk Go.Proofs.YtcoengedikcneayDoor.Mg Go.Proofs.YtcoengedikcneayDoor.Mm Go.Proofs.YtcoengedikcneayDoor.App
open Go.Proofs.YtcoengedikcneayDoor.EndW (endV sideZ isB impl1)
set_option linter.unusedSimpArgs false
set_option linter.unusedVariables false

theorem read_yes (W : World) (v : Value) (m : List (Int × Int × Int)) (hm : IsM W v m) (hok : okM m = true) :
    Calls Tryd.prog 14 #[v] W fun r W' => ∃ bt bb, r = .returned (.tuple #[prtV bt bb, .bool true]) ∧ Two W' bt bb (m.map Prod.snd) ∧ W.heap.size ≤ bt ∧ W.heap.size ≤ bb ∧ Below W.heap.size W W' := by
  refine (read_any W v m hm).mono ?_
  rintro r w1 ⟨⟨_, bt, bb, rfl, t1, hbt, hbb⟩ | ⟨h, _⟩, k1⟩
  · exact ⟨bt, bb, rfl, t1, hbt, hbb, k1⟩
  · rw [hok] at h; cases h
theorem read_no (W : World) (v : Value) (m : List (Int × Int × Int)) (hm : IsM W v m) (hok : okM m = false) :
    Calls Tryd.prog 14 #[v] W fun r W' => r = .returned (.tuple #[.agg #[.map none, .map none], .bool false]) ∧ Below W.heap.size W W' := by
  refine (read_any W v m hm).mono ?_
  rintro r w1 ⟨⟨h, _⟩ | ⟨_, h⟩, k1⟩
  · rw [hok] at h; cases h
  · exact ⟨h, k1⟩



end Go.Proofs.YtcoengedikcneayDoor.Ml

/- Walks: MapOut and MapIn of the model. -/
import Derived.Test.YtlejldaennlfaayDoorMs
import Derived.OwnWalk
import Derived.Maps.AppendAt
namespace Go.Proofs.YtlejldaennlfaayDoor.Ms
open Go.RowKit Go.Proofs.YtlejldaennlfaayDoor.Kit Go.Proofs.YtlejldaennlfaayDoor.Mp Go.Proofs.YtlejldaennlfaayDoor.Mm Go.Proofs.YtlejldaennlfaayDoor.App
open Go.Proofs.YtlejldaennlfaayDoor.EndW (endV sideZ isB spec1 l6in_any)
set_option linter.unusedSimpArgs false
set_option linter.unusedVariables false

theorem dd (w : World) (a b : Nat) : (w.drewN a).drewN b = w.drewN (a + b) := by
  simp [World.drewN, Nat.add_assoc]
theorem row_m {W : World} {b : Nat} {e : TypeId} {v : Value} {n : Nat} {m : List (Int × Int × Int)} (h : W.ownsRow b e 3 v n (cellsM m)) : n = m.length := by
  have := h.1
  rw [cellsM_len] at this; omega
theorem grown_below {w w' : World} {row : Option Nat} {B : Nat} (h : w.grownBy w' row) (hB : B ≤ w.heap.size) (hr : ∀ k, row = some k → B ≤ k) : Below B w w' := (Below.refl B w).grown h hB hr

/-- all but a row of one's own is as it was, and the row is where it was, or new -/
def Gr (W W' : World) (v v' : Value) : Prop := W.grownBy W' v.ownBlock ∧ (v'.ownBlock = v.ownBlock ∨ ∃ g, v'.ownBlock = some g ∧ W.heap.size ≤ g)
theorem grown_of {W W' : World} (k : Below W.heap.size W W') (row : Option Nat) : W.grownBy W' row := ⟨k.os, k.tape, k.output, k.size, fun i hi _ => k.block i hi⟩
theorem grown_trans {A B C : World} {row : Option Nat} (h : A.grownBy B row) (k : B.grownBy C row) : A.grownBy C row :=
  ⟨k.os.trans h.os, k.tape.trans h.tape, k.output.trans h.output, Nat.le_trans h.size k.size, fun i hi hn => (k.block i (Nat.lt_of_lt_of_le hi h.size) hn).trans (h.block i hi hn)⟩
theorem Gr.of {W W' : World} (k : Below W.heap.size W W') (v : Value) : Gr W W' v v := ⟨grown_of k _, .inl rfl⟩


end Go.Proofs.YtlejldaennlfaayDoor.Ms

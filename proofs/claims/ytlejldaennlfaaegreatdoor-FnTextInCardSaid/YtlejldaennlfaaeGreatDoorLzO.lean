/- Walks: ends of a list, one by one; whether a text names no end of the door. -/
import Derived.Test.YtlejldaennlfaaeGreatDoorLzE
import Derived.Test.YtlejldaennlfaaeGreatDoorEndV
namespace Go.Proofs.YtlejldaennlfaaeGreatDoor.LzO
open Go.RowKit Go.Proofs.YtlejldaennlfaaeGreatDoor.Kit Go.Proofs.YtlejldaennlfaaeGreatDoor.Tx Go.Proofs.YtlejldaennlfaaeGreatDoor.Nas Go.Proofs.YtlejldaennlfaaeGreatDoor.LzE
open Go.Proofs.YtlejldaennlfaaeGreatDoor.EndW (endV isB impl3 impl1 sideZ)
open Go.Proofs.YtlejldaennlfaaeGreatDoor.Read (Errs)
set_option linter.unusedVariables false
set_option linter.unusedSimpArgs false

/-- the end at a place -/
theorem isE_at {W : World} {a : Option Addr} {n c : Nat} {es : List (Int × Int)} (h : IsE W (.slice a n c) es) (i : Nat) (p : Int × Int) (hi : es[i]? = some p) : ∃ g, a = some ⟨g, 0, none⟩ ∧ n = es.length ∧ es.length ≤ c ∧ c ≤ maxLen ∧ At2 W g (i * 2) p := by
  rcases h with ⟨_, rfl⟩ | ⟨g, cap, h1, h2, h3, h4⟩
  · cases hi
  · simp at h1
    obtain ⟨rfl, rfl, rfl⟩ := h1
    exact ⟨g, rfl, rfl, h2, h3, h4 i p hi⟩
theorem take_mem (es : List (Int × Int)) (k : Nat) (f : Int × Int) (h : es[k]? = some f) (e : Int × Int) (he : e ∈ es.take (k + 1)) : e ∈ es.take k ∨ e = f := by
  rw [List.take_add_one, h] at he
  simpa using he
theorem isB_side (k : Int) (a p : Int) (h : isB k a p = false) : sideZ a p ≠ k := by
  intro e; unfold isB at h; simp [e] at h

end Go.Proofs.YtlejldaennlfaaeGreatDoor.LzO

/- Plain facts: how long a text is that went out, or came in. -/
import Derived.Test.YtlejldaennlfaaeGreatDoorMpTs
import Derived.Test.YtlejldaennlfaaeGreatDoorWaP
namespace Go.Proofs.YtlejldaennlfaaeGreatDoor.Mp
open Go.RowKit
open Go.Proofs.YtlejldaennlfaaeGreatDoor.Tx
open Go.Proofs.YtlejldaennlfaaeGreatDoor.EndW (sideZ)
set_option linter.unusedVariables false

theorem pie_few (l : List UInt8) (h : okB l = true) : (pieL l).length ≤ 40 := by
  have h1 := Wa.len_szs (pieL l) (Wa.pie_sz1 l)
  have h2 := (ok_parts _ h).1
  rw [pie_ok _ h] at h1 ⊢
  have h3 := szs_pcs (bd l)
  have h4 := bd_len l
  omega
theorem tout_size (m : List (Int × Int × Int)) (l : List UInt8) : (tOut m l).2.length ≤ 300 := by
  by_cases h : okM m = true ∧ okB l = true
  · unfold tOut; rw [if_pos h]
    have h1 := Wa.outP_len _ (okM_out m h.1).1 (pieL l) l
    have h2 := pie_few l h.2
    have h3 := (ok_parts _ h.2).1
    simp only; omega
  · unfold tOut; rw [if_neg h]; exact Nat.zero_le _
theorem tin_size (m : List (Int × Int × Int)) (l : List UInt8) : (tIn m l).length ≤ 300 := by
  by_cases h : okM m = true ∧ okB l = true
  · unfold tIn; rw [if_pos h]
    have h1 := Wa.inP_len _ (okM_out m h.1).1 (pieL l) l
    have h2 := pie_few l h.2
    have h3 := (ok_parts _ h.2).1
    omega
  · unfold tIn; rw [if_neg h]; exact Nat.zero_le _
end Go.Proofs.YtlejldaennlfaaeGreatDoor.Mp

/- Plain facts on the texts of ends: what they are, byte by byte. -/
import Derived.Test.YtnjggammbebpkaaGreatDoorText
namespace Go.Proofs.YtnjggammbebpkaaGreatDoor.Text
open Go.RowKit
open Go.Proofs.YtnjggammbebpkaaGreatDoor.EndW (sideZ)
open Go.Proofs.YtnjggammbebpkaaGreatDoor.Itoa (decS)

/-- a figure -/
def fig (n : Int) : UInt8 := (48 + n).toNat.toUInt8
/-- the text of an end that is any, byte by byte -/
def txtL (a p : Int) : List UInt8 := if p < 10 then [fig a, 58, fig p] else [fig a, 58, fig (p / 10), fig (p % 10)]

theorem txt_list (a p : Int) (h : sideZ a p ≠ 0) : (txt a p).toList = txtL a p := by
  have hb := side_bd a p h
  unfold txt txtL
  rw [if_neg h, ByteArray.toList_eq]
  have e1 : decS a = ⟨#[fig a]⟩ := by unfold decS; rw [if_pos (by omega)]; rfl
  rw [e1]
  by_cases hp : p < 10
  · have e2 : decS p = ⟨#[fig p]⟩ := by unfold decS; rw [if_pos hp]; rfl
    rw [e2, if_pos hp]; rfl
  · have e2 : decS p = ⟨#[fig (p / 10), fig (p % 10)]⟩ := by unfold decS; rw [if_neg hp]; rfl
    rw [e2, if_neg hp]; rfl

theorem emp (x y : Int) : (txt x y).toList.isEmpty = (sideZ x y == 0) := by
  by_cases h : sideZ x y = 0
  · unfold txt
    rw [if_pos h, h, ByteArray.toList_eq]; rfl
  · have hb : (sideZ x y == 0) = false := by simpa using h
    rw [hb, txt_list x y h]
    unfold txtL; split <;> rfl

theorem fig_inj (a b : Int) (h0 : 0 ≤ a) (h1 : a ≤ 100) (h2 : 0 ≤ b) (h3 : b ≤ 100) (h : fig a = fig b) : a = b := by
  unfold fig at h
  have h4 := congrArg UInt8.toNat h
  have e : ∀ n : Nat, n < 256 → (n.toUInt8).toNat = n := fun n hn => by
    simp [Nat.toUInt8, Nat.mod_eq_of_lt hn]
  rw [e _ (by omega), e _ (by omega)] at h4
  omega

theorem txt_len (a p : Int) (h : sideZ a p ≠ 0) : (txt a p).size = if p < 10 then 3 else 4 := by
  have e : (txt a p).size = (txt a p).toList.length := by rw [ByteArray.toList_eq, Array.length_toList]; rfl
  rw [e, txt_list a p h]
  unfold txtL
  split <;> rfl

theorem txtL_inj (a b c d : Int) (h1 : sideZ a b ≠ 0) (h2 : sideZ c d ≠ 0) (h : txtL a b = txtL c d) : a = c ∧ b = d := by
  have k1 := side_bd a b h1
  have k2 := side_bd c d h2
  unfold txtL at h
  split at h <;> split at h
  · simp only [List.cons.injEq] at h
    exact ⟨fig_inj _ _ (by omega) (by omega) (by omega) (by omega) h.1, fig_inj _ _ (by omega) (by omega) (by omega) (by omega) h.2.2.1⟩
  · simp at h
  · simp at h
  · simp only [List.cons.injEq] at h
    have e1 := fig_inj _ _ (by omega) (by omega) (by omega) (by omega) h.1
    have e2 := fig_inj _ _ (by omega) (by omega) (by omega) (by omega) h.2.2.1
    have e3 := fig_inj _ _ (by omega) (by omega) (by omega) (by omega) h.2.2.2.1
    omega

theorem txt_beq (a b c d : Int) (h1 : sideZ a b ≠ 0) (h2 : sideZ c d ≠ 0) (h : ¬ (a = c ∧ b = d)) : ((txt a b).toList == (txt c d).toList) = false := by
  rw [txt_list a b h1, txt_list c d h2]
  rw [beq_eq_false_iff_ne]
  intro e
  exact h (txtL_inj a b c d h1 h2 e)
end Go.Proofs.YtnjggammbebpkaaGreatDoor.Text

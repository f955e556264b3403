/- Plain facts on texts that are cut, or get a byte more. No program is named here. -/
import Derived.Test.YtfmjhbdbgcgoiaaGreatDoorTxts
namespace Go.Proofs.YtfmjhbdbgcgoiaaGreatDoor.Tx
open Go.RowKit

theorem ok_iff (l : List UInt8) : okB l = true ↔ l.length ≤ 40 ∧ ∀ c ∈ l, byteB c = true := by
  simp only [okB, Bool.and_eq_true, decide_eq_true_eq, List.all_eq_true]
theorem ok_take (l : List UInt8) (k : Nat) (h : okB l = true) : okB (l.take k) = true := by
  rw [ok_iff] at *
  exact ⟨by rw [List.length_take]; omega, fun c hc => h.2 c (List.mem_of_mem_take hc)⟩
theorem ok_drop (l : List UInt8) (k : Nat) (h : okB l = true) : okB (l.drop k) = true := by
  rw [ok_iff] at *
  exact ⟨by rw [List.length_drop]; omega, fun c hc => h.2 c (List.mem_of_mem_drop hc)⟩
theorem ok_app (l m : List UInt8) (h : okB l = true) (k : okB m = true) (hl : l.length + m.length ≤ 40) : okB (l ++ m) = true := by
  rw [ok_iff] at *
  refine ⟨by rw [List.length_append]; exact hl, fun c hc => ?_⟩
  rcases List.mem_append.1 hc with g | g
  · exact h.2 c g
  · exact k.2 c g
theorem ok_bad_in (l : List UInt8) (c : UInt8) (hc : c ∈ l) (hb : byteB c = false) : okB l = false := by
  cases h : okB l
  · rfl
  · rw [ok_iff] at h
    rw [h.2 c hc] at hb; cases hb

/-- what is held -/
def hp' (l : List UInt8) : List UInt8 := l.drop (l.length - heldN l)
theorem hp_bytes (l : List UInt8) (i : Nat) (h : i < heldN l) : ((hp' l).getD i 0).toNat = 64 ↔ i = 0 := by
  have hb : begB (l.drop (l.length - heldN l)) = true := (beg_held l (heldN l) (by omega) (heldN_le l) (heldN_len l)).2 rfl
  have hl := heldN_len l
  have h5 := heldN_le l
  show ((l.drop (l.length - heldN l)).getD i 0).toNat = 64 ↔ i = 0
  have hlen : (l.drop (l.length - heldN l)).length = heldN l := by rw [List.length_drop]; omega
  simp only [begB, decide_eq_true_eq] at hb
  rw [hlen] at hb
  match i with
  | 0 => exact ⟨fun _ => rfl, fun _ => hb.2.2.1⟩
  | 1 => have := hb.2.2.2.1 h; omega
  | 2 => have := hb.2.2.2.2.1 h; omega
  | 3 => have := hb.2.2.2.2.2.1 h; omega
  | 4 => have := hb.2.2.2.2.2.2 h; omega
  | i + 5 => omega
end Go.Proofs.YtfmjhbdbgcgoiaaGreatDoor.Tx

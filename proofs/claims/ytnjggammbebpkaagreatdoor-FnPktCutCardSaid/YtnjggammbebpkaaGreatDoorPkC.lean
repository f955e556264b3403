/- Packets: plain facts on what is in form. -/
import Derived.Test.YtnjggammbebpkaaGreatDoorPkB
namespace Go.Proofs.YtnjggammbebpkaaGreatDoor.Pk
open Go.RowKit Go.Proofs.YtnjggammbebpkaaGreatDoor.Kit
open Go.Proofs.YtnjggammbebpkaaGreatDoor.EndW (sideZ)
open Go.Proofs.YtnjggammbebpkaaGreatDoor.Tx (okB)

theorem pktOk_is (k a b c d n : Int) (t : ByteArray) (B : Bool) (h : pktB k a b c d n t = B) (w : World) :
    Calls Tryz.prog 10 #[pktV k a b c d n t] w fun e w' => e = .returned (.bool B) ∧ Below w.heap.size w w' := by
  subst h; exact pktOk k a b c d n t w
theorem spktOk_is (k a b c d n : Int) (t : ByteArray) (ht : t.size ≤ maxLen) (B : Bool) (h : pktB k a b c d n t = B) (w : World) :
    Calls Tryz.prog 19 #[pktV k a b c d n t] w fun e w' => e = .returned (.bool B) ∧ Below w.heap.size w w' := by
  subst h; exact spktOk k a b c d n t ht w

theorem emp_nil : (⟨#[]⟩ : ByteArray).toList.isEmpty = true := by rw [ByteArray.toList_eq]; rfl
theorem byt_one : bytB 1 ⟨#[]⟩ = false := by unfold bytB; rw [if_pos rfl, emp_nil]; rfl
theorem byt_two : bytB 2 ⟨#[]⟩ = true := by unfold bytB; rw [if_neg (by decide), if_pos rfl, emp_nil]

theorem pkt_parts {k a b c d n : Int} {t : ByteArray} (h : pktB k a b c d n t = true) :
    (sideZ a b != 0) = true ∧ (sideZ c d != 0) = true ∧ 0 ≤ n ∧ n ≤ 99 ∧ ((k = 1 ∧ t.toList.isEmpty = false ∧ okB t.data.toList = true) ∨ (k = 2 ∧ t = ⟨#[]⟩)) := by
  unfold pktB at h
  simp only [Bool.and_eq_true, decide_eq_true_eq] at h
  obtain ⟨h1, h2, h3, h4, h5⟩ := h
  refine ⟨h1, h2, h3, h4, ?_⟩
  unfold bytB at h5
  by_cases e1 : k = 1
  · rw [if_pos e1] at h5
    simp only [Bool.and_eq_true, Bool.not_eq_true'] at h5
    exact .inl ⟨e1, h5.1, h5.2⟩
  · rw [if_neg e1] at h5
    by_cases e2 : k = 2
    · rw [if_pos e2] at h5; exact .inr ⟨e2, emp_iff t h5⟩
    · rw [if_neg e2] at h5; cases h5
end Go.Proofs.YtnjggammbebpkaaGreatDoor.Pk

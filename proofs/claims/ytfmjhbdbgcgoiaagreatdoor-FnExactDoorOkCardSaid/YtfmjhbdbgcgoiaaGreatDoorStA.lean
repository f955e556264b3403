/- Walks: whether a part may be that of a piece; a part more behind a chain. -/
import Derived.Test.YtfmjhbdbgcgoiaaGreatDoorIt
namespace Go.Proofs.YtfmjhbdbgcgoiaaGreatDoor.St
open Go.RowKit Go.Shelf Go.Proofs.YtfmjhbdbgcgoiaaGreatDoor.Kit Go.Proofs.YtfmjhbdbgcgoiaaGreatDoor.Tx Go.Proofs.YtfmjhbdbgcgoiaaGreatDoor.Nm Go.Proofs.YtfmjhbdbgcgoiaaGreatDoor.App
open Go.Proofs.YtfmjhbdbgcgoiaaGreatDoor.TxW (ok_any)
set_option linter.unusedSimpArgs false
set_option linter.unusedVariables false

/-- a part, as a value -/
def ptV (p : Int × ByteArray) : Value := .agg #[.int .i64 p.1, .string p.2]
/-- a part may be that of a piece -/
def partB (x : Pc) (p : Int × ByteArray) : Bool := decide (p.1 = (x.sz : Int)) && !p.2.toList.isEmpty && decide (p.2.size ≤ 6) && okB p.2.data.toList
/-- whether a stream is ok -/
noncomputable def stB (s : ByteArray) (ps : List (Int × ByteArray)) : Bool := okB s.data.toList && decide ((pieL s.data.toList).length = ps.length) && ((pieL s.data.toList).zip ps).all fun y => partB y.1 y.2
theorem stB_parts {s : ByteArray} {ps : List (Int × ByteArray)} : stB s ps = true ↔ okB s.data.toList = true ∧ (pieL s.data.toList).length = ps.length ∧ ∀ (i : Nat) (x : Pc) (p : Int × ByteArray), (pieL s.data.toList)[i]? = some x → ps[i]? = some p → partB x p = true := by
  unfold stB
  simp only [Bool.and_eq_true, decide_eq_true_eq, List.all_eq_true]
  constructor
  · rintro ⟨⟨h1, h2⟩, h3⟩
    exact ⟨h1, h2, fun i x p hx hp => h3 (x, p) (List.mem_of_getElem? (List.getElem?_zip_eq_some.2 ⟨hx, hp⟩))⟩
  · rintro ⟨h1, h2, h3⟩
    refine ⟨⟨h1, h2⟩, ?_⟩
    rintro ⟨x, p⟩ hm
    obtain ⟨i, hi, e⟩ := List.getElem_of_mem hm
    have e' : ((pieL s.data.toList).zip ps)[i]? = some (x, p) := by rw [List.getElem?_eq_getElem hi, e]
    obtain ⟨k1, k2⟩ := List.getElem?_zip_eq_some.1 e'
    exact h3 i x p k1 k2
theorem stB_ok {s : ByteArray} {ps : List (Int × ByteArray)} (h : okB s.data.toList = false) : stB s ps = false := by unfold stB; rw [h]; rfl
theorem stB_len {s : ByteArray} {ps : List (Int × ByteArray)} (h : ¬ (pieL s.data.toList).length = ps.length) : stB s ps = false := by unfold stB; simp [h]
theorem stB_bad {s : ByteArray} {ps : List (Int × ByteArray)} {i : Nat} {x : Pc} {p : Int × ByteArray} (hx : (pieL s.data.toList)[i]? = some x) (hp : ps[i]? = some p) (h : partB x p = false) : stB s ps = false := by
  cases q : stB s ps
  · rfl
  · have := (stB_parts.1 q).2.2 i x p hx hp
    rw [h] at this; cases this

set_option maxRecDepth 8000 in
set_option maxHeartbeats 4000000 in
theorem partOf_any (x : Pc) (p : Int × ByteArray) (w : World) :
    Calls Tryz.prog 137 #[pcV x, ptV p] w fun e w' => e = .returned (.bool (partB x p)) ∧ Below w.heap.size w w' := by
  obtain ⟨sz, nm, ad, po⟩ := x
  obtain ⟨n, T⟩ := p
  have bA : Below w.heap.size w ((w.alloc (.cells #[.int .i64 (sz : Nat), .bool nm, .int .i64 ad, .int .i64 po] 90)).alloc (.cells #[.int .i64 n, .string T] 88)) := ((Below.refl _ _).alloc (Nat.le_refl _) _).alloc (by simp) _
  go_enter Tryz.func137, Tryz.ntmps137
  simp only [pcV, ptV]
  by_cases h1 : n = (sz : Int)
  · subst h1
    cases h2 : T.toList.isEmpty
    rotate_left
    · have h2' : T.toList = [] := List.isEmpty_iff.1 h2
      go_wp2
      go_ret
      exact ⟨by simp [partB, h2], bA⟩
    · have h2' : ¬ T.toList = [] := fun q => by rw [q] at h2; cases h2
      by_cases h3 : T.size ≤ 6
      · have h3' : (T.size : Int) ≤ 6 := by omega
        go_wp2_with fail
        refine (ok_any T _).mono ?_
        rintro e w1 ⟨rfl, rfl⟩
        go_wp2
        go_ret
        exact ⟨by simp [partB, h3, h2], bA⟩
      · have h3' : ¬ (T.size : Int) ≤ 6 := by omega
        go_wp2
        go_ret
        exact ⟨by simp [partB, h3], bA⟩
  · have h1' : (n == (sz : Int)) = false := by simpa using h1
    go_wp2
    go_ret
    exact ⟨by simp [partB, h1], bA⟩
end Go.Proofs.YtfmjhbdbgcgoiaaGreatDoor.St

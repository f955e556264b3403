/- Doors, plain: when one is ok. No program is walked here. -/
import Derived.Test.YtfmjhbdbgcgoiaaGreatDoorDr
import Derived.Test.YtfmjhbdbgcgoiaaGreatDoorMmOp
import Derived.Test.YtfmjhbdbgcgoiaaGreatDoorEndV
import Derived.Test.YtfmjhbdbgcgoiaaGreatDoorStA
namespace Go.Proofs.YtfmjhbdbgcgoiaaGreatDoor.DrP
open Go.RowKit Go.Proofs.YtfmjhbdbgcgoiaaGreatDoor.Kit Go.Proofs.YtfmjhbdbgcgoiaaGreatDoor.St Go.Proofs.YtfmjhbdbgcgoiaaGreatDoor.Mp Go.Proofs.YtfmjhbdbgcgoiaaGreatDoor.Dr Go.Proofs.YtfmjhbdbgcgoiaaGreatDoor.EndW
set_option linter.unusedSimpArgs false
set_option linter.unusedVariables false

/-- an end has a port -/
def hasB (m : List (Int × Int × Int)) (a b : Int) : Bool := m.any fun p => decide (p.2 = (a, b))
theorem hasB_step {m : List (Int × Int × Int)} {k : Nat} {p : Int × Int × Int} (h : m[k]? = some p) (a b : Int) : hasB (m.take (k + 1)) a b = (hasB (m.take k) a b || decide (p.2 = (a, b))) := by
  unfold hasB; rw [List.take_add_one, h, List.any_append]; simp
/-- a flow of these ends -/
def sameB (a b c d : Int) (r : RF) : Bool := decide (r.a = a ∧ r.b = b) && decide (r.c = c ∧ r.d = d)
/-- where the first flow of these ends stands; how many there are, if there is none -/
def fI (rs : List RF) (a b c d : Int) : Nat := rs.findIdx (sameB a b c d)
theorem fI_none {rs : List RF} {a b c d : Int} (h : ∀ (j : Nat) (r : RF), rs[j]? = some r → sameB a b c d r = false) : fI rs a b c d = rs.length :=
  List.findIdx_eq_length.2 fun r hr => by obtain ⟨j, hj⟩ := List.mem_iff_getElem?.1 hr; exact h j r hj
theorem fI_some {rs : List RF} {a b c d : Int} {k : Nat} {r : RF} (hr : rs[k]? = some r) (hs : sameB a b c d r = true) (h : ∀ (j : Nat) (r : RF), j < k → rs[j]? = some r → sameB a b c d r = false) : fI rs a b c d = k := by
  obtain ⟨hk, e⟩ := List.getElem?_eq_some_iff.1 hr
  refine (List.findIdx_eq hk).2 ⟨by rw [e]; exact hs, fun j hj => h j _ hj (List.getElem?_eq_getElem (by omega))⟩
theorem fI_le (rs : List RF) (a b c d : Int) : fI rs a b c d ≤ rs.length := List.findIdx_le_length
theorem fI_at {rs : List RF} {a b c d : Int} (h : fI rs a b c d < rs.length) : ∃ r, rs[fI rs a b c d]? = some r ∧ sameB a b c d r = true :=
  ⟨_, List.getElem?_eq_getElem h, List.findIdx_getElem (w := h)⟩
theorem fI_pre {rs : List RF} {a b c d : Int} {j : Nat} {r : RF} (hj : j < fI rs a b c d) (hr : rs[j]? = some r) : sameB a b c d r = false := by
  have := List.not_of_lt_findIdx (p := sameB a b c d) (xs := rs) hj
  obtain ⟨hk, e⟩ := List.getElem?_eq_some_iff.1 hr
  rw [← e]; simpa using this
theorem sameB_self (r : RF) : sameB r.a r.b r.c r.d r = true := by simp [sameB]
/-- nothing of its ends ahead of it just if it is the first one -/
theorem fI_take {rs : List RF} {k : Nat} {r : RF} (hr : rs[k]? = some r) : fI (rs.take k) r.a r.b r.c r.d = k ↔ fI rs r.a r.b r.c r.d = k := by
  have hk : k < rs.length := (List.getElem?_eq_some_iff.1 hr).1
  have hlen : (rs.take k).length = k := by simp; omega
  constructor
  · intro h
    refine fI_some hr (sameB_self r) fun j q hj hq => ?_
    refine fI_pre (rs := rs.take k) (j := j) (by omega) ?_
    rw [List.getElem?_take_of_lt hj]; exact hq
  · intro h
    rw [fI_none, hlen]
    intro j q hq
    have hj : j < k := by have := (List.getElem?_eq_some_iff.1 hq).1; omega
    rw [List.getElem?_take_of_lt hj] at hq
    exact fI_pre (rs := rs) (j := j) (by omega) hq

/-- a flow of a door is as it should be -/
noncomputable def flB (m : List (Int × Int × Int)) (rs : List RF) (i : Nat) (r : RF) : Bool :=
  hasB m r.a r.b && isB 2 r.c r.d && decide (fI rs r.a r.b r.c r.d = i) && stB r.us r.up && stB r.ds r.dn
/-- a door is ok -/
noncomputable def doorB (m : List (Int × Int × Int)) (rs : List RF) : Bool :=
  okM m && decide (rs.length ≤ 4) && (List.range rs.length).all fun i => match rs[i]? with | some r => flB m rs i r | none => true
theorem doorB_map {m : List (Int × Int × Int)} {rs : List RF} (h : okM m = false) : doorB m rs = false := by simp [doorB, h]
theorem doorB_many {m : List (Int × Int × Int)} {rs : List RF} (h : ¬ rs.length ≤ 4) : doorB m rs = false := by simp [doorB, h]
theorem doorB_bad {m : List (Int × Int × Int)} {rs : List RF} {i : Nat} {r : RF} (hr : rs[i]? = some r) (h : flB m rs i r = false) : doorB m rs = false := by
  have hi : i < rs.length := (List.getElem?_eq_some_iff.1 hr).1
  cases q : doorB m rs with
  | false => rfl
  | true =>
    simp only [doorB, Bool.and_eq_true, List.all_eq_true, List.mem_range] at q
    have := q.2 i hi
    rw [hr] at this
    simp only at this
    rw [h] at this; cases this
theorem doorB_good {m : List (Int × Int × Int)} {rs : List RF} (h1 : okM m = true) (h2 : rs.length ≤ 4) (h : ∀ (i : Nat) (r : RF), rs[i]? = some r → flB m rs i r = true) : doorB m rs = true := by
  simp only [doorB, Bool.and_eq_true, List.all_eq_true, List.mem_range, decide_eq_true_eq]
  refine ⟨⟨h1, h2⟩, fun i hi => ?_⟩
  rw [List.getElem?_eq_getElem hi]
  exact h i _ (List.getElem?_eq_getElem hi)
theorem doorB_flow {m : List (Int × Int × Int)} {rs : List RF} (h : doorB m rs = true) {i : Nat} {r : RF} (hr : rs[i]? = some r) : flB m rs i r = true := by
  cases q : flB m rs i r with
  | true => rfl
  | false => rw [doorB_bad hr q] at h; cases h
theorem doorB_ok {m : List (Int × Int × Int)} {rs : List RF} (h : doorB m rs = true) : okM m = true ∧ rs.length ≤ 4 := by
  simp only [doorB, Bool.and_eq_true, decide_eq_true_eq] at h; exact h.1
end Go.Proofs.YtfmjhbdbgcgoiaaGreatDoor.DrP

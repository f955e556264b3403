/- Walks: ends of a list, one by one; whether a text names no end of the door. -/
import Derived.Test.YtlejldaennlfaadGreatDoorLzE
import Derived.Test.YtlejldaennlfaadGreatDoorEndV
namespace Go.Proofs.YtlejldaennlfaadGreatDoor.LzO
open Go.RowKit Go.Proofs.YtlejldaennlfaadGreatDoor.Kit Go.Proofs.YtlejldaennlfaadGreatDoor.Tx Go.Proofs.YtlejldaennlfaadGreatDoor.Nas Go.Proofs.YtlejldaennlfaadGreatDoor.LzE
open Go.Proofs.YtlejldaennlfaadGreatDoor.EndW (endV isB impl3 impl1 sideZ)
open Go.Proofs.YtlejldaennlfaadGreatDoor.Read (Errs)
set_option linter.unusedVariables false
set_option linter.unusedSimpArgs false

/-- the end at a place -/
theorem isE_at {W : World} {a : Option Addr} {n c : Nat} {es : List (Int × Int)} (h : IsE W (.slice a n c) es) (i : Nat) (p : Int × Int) (hi : es[i]? = some p) : ∃ g, a = some ⟨g, 0, none⟩ ∧ n = es.length ∧ es.length ≤ c ∧ c ≤ maxLen ∧ At2 W g (i * 2) p := by
  rcases h with ⟨_, rfl⟩ | ⟨g, cap, h1, h2, h3, h4⟩
  · cases hi
  · simp at h1
    obtain ⟨rfl, rfl, rfl⟩ := h1
    exact ⟨g, rfl, rfl, h2, h3, h4 i p hi⟩
theorem take_mem (es : List (Int × Int)) (k : Nat) (f : Int × Int) (h : es[k]? = some f) (e : Int × Int) (he : e ∈ es.take (k + 1)) : e ∈ es.take k ∨ e = f := by
  rw [List.take_add_one, h] at he
  simpa using he
theorem isB_side (k : Int) (a p : Int) (h : isB k a p = false) : sideZ a p ≠ k := by
  intro e; unfold isB at h; simp [e] at h

set_option maxRecDepth 8000 in
set_option maxHeartbeats 8000000 in
theorem own_any (s : ByteArray) (es : List (Int × Int)) (hes : ends (pieL s.data.toList) = es) (hl : es.length ≤ 1000) (w : World) (herr : Errs w) :
    Calls Tryz.prog 12 #[.string s] w fun e w' => ∃ b, e = .returned (.bool b) ∧ (b = true → ∀ e ∈ es, sideZ e.1 e.2 ≠ 3) ∧ Below w.heap.size w w' := by
  go_enter Tryz.func12, Tryz.ntmps12
  go_wp2_with fail
  refine (names_is s es hes w herr).mono ?_
  rintro e w1 ⟨v, rfl, hE, k1⟩
  obtain ⟨av, cv, rfl⟩ := isE_slice hE
  have HE : Hid (IsE w1 (.slice av es.length cv) es) := hE
  clear hE hes
  go_wp2
  go_loopw [4] (fun i wr => ∃ k : Nat, k ≤ es.length ∧ i = .int .i64 k ∧ Hid (∀ e ∈ es.take k, sideZ e.1 e.2 ≠ 3) ∧ Below w1.heap.size w1 wr) (fun i wr => es.length - (intOf i).toNat)
  case atStart => exact ⟨0, Nat.zero_le _, rfl, (fun e he => by simp at he : ∀ e ∈ es.take 0, sideZ e.1 e.2 ≠ 3), Below.refl _ _⟩
  case round =>
    obtain ⟨k, hk, rfl, hno, hb⟩ := hrel
    by_cases hkl : k < es.length
    · have hkl' : (k : Int) < (es.length : Int) := by omega
      have hf : es[k]? = some es[k] := List.getElem?_eq_getElem hkl
      obtain ⟨g, rfl, _, hc1, hc2, hat⟩ := isE_at (HE.out.below hb) k _ hf
      have hst := take_mem es k es[k] hf
      generalize es[k] = f at hf hat hst
      obtain ⟨fa, fp⟩ := f
      obtain ⟨t0, t1⟩ := hat
      simp only at t0 t1
      have HST := (show Hid _ from hst)
      clear hst hf
      go_wp2_with fail
      refine (impl3 fa fp _).mono ?_
      rintro e w3 ⟨rfl, k3⟩
      have b3 := hb.trans (k3.mono hb.size)
      cases hB : isB 3 fa fp
      · go_wp2
        go_roundw
        case rel =>
          refine ⟨k + 1, by omega, by go_num, (fun e he => ?_ : ∀ e ∈ es.take (k + 1), sideZ e.1 e.2 ≠ 3), b3⟩
          rcases HST.out e he with h | h
          · exact hno.out e h
          · rw [h]; exact isB_side 3 fa fp hB
        case measure => simp [intOf]; omega
      · go_wp2
        go_ret
        exact ⟨false, rfl, (fun h => by cases h), k1.trans (b3.mono k1.size)⟩
    · have hge : (es.length : Int) ≤ (k : Int) := by omega
      go_wp2
      go_ret
      refine ⟨true, rfl, fun _ e he => hno.out e ?_, k1.trans (hb.mono k1.size)⟩
      rw [List.take_of_length_le (by omega)]; exact he
end Go.Proofs.YtlejldaennlfaadGreatDoor.LzO

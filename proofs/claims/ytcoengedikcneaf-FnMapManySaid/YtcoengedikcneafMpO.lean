/- Plain facts on the port of an end, as the laws on pairs use them. -/
import Derived.Test.YtcoengedikcneafMp
namespace Go.Proofs.Ytcoengedikcneaf.Mp
open Go.RowKit
open Go.Proofs.Ytcoengedikcneaf.EndW (sideZ)

theorem mout_len (m : List (Int × Int × Int)) (e : Int × Int) : (mOut m e).1.length ≤ 8 := by
  unfold mOut
  split
  · next h =>
    rw [prs_len]
    exact (outE_good _ _ (okM_out m h.1).1 h.2).len
  · exact Nat.zero_le _
/-- where it is true -/
theorem mout_yes (m : List (Int × Int × Int)) (e : Int × Int) (h : (mOut m e).2.2 = true) : ∃ es, GoodE es ∧ inB e = true ∧ m = prs es ∧ (outE es e).2.2 = true ∧ mOut m e = (prs (outE es e).1, (outE es e).2.1, true) := by
  unfold mOut at h
  split at h
  · next hc =>
    obtain ⟨hg, hm⟩ := okM_out m hc.1
    refine ⟨m.map Prod.snd, hg, hc.2, hm, h, ?_⟩
    unfold mOut
    rw [if_pos hc]
    simp only at h
    rw [h]
  · cases h
theorem mout_ok (es : List (Int × Int)) (hg : GoodE es) (e : Int × Int) (hi : inB e = true) : mOut (prs es) e = (prs (outE es e).1, (outE es e).2.1, (outE es e).2.2) := by
  unfold mOut
  rw [if_pos ⟨okM_prs es hg, hi⟩, prs_snd]
theorem mout_once (m : List (Int × Int × Int)) (e : Int × Int) (h : (mOut m e).2.2 = true) :
    mIn (mOut m e).1 (mOut m e).2.1 = (e, true) ∧ mOut (mOut m e).1 e = ((mOut m e).1, (mOut m e).2.1, true) ∧ m.length ≤ (mOut m e).1.length ∧ (mOut m e).1.length ≤ m.length + 1 ∧
    (mOut m e).1.take m.length = m ∧ okM (mOut m e).1 = true ∧ 10 ≤ (mOut m e).2.1 ∧ (mOut m e).2.1 ≤ 17 := by
  obtain ⟨es, hg, hi, rfl, ho, hmo⟩ := mout_yes m e h
  rw [hmo]
  have hg2 := outE_good es e hg hi
  obtain ⟨h1, h2, h3⟩ := outE_port es e hg ho
  have hpre := outE_pre es e
  refine ⟨?_, ?_, ?_, ?_, ?_, okM_prs _ hg2, h1, h2⟩
  · unfold mIn
    rw [if_pos (okM_prs _ hg2), prs_snd]
    have := inE_at _ _ _ h3
    rwa [show (10 : Int) + (((outE es e).2.1 - 10).toNat : Int) = (outE es e).2.1 by omega] at this
  · rw [mout_ok _ hg2 e hi, outE_again es e hg hi ho]
  · rw [prs_len, prs_len]; exact hpre.length_le
  · rw [prs_len, prs_len]
    by_cases hm : e ∈ es
    · rw [outE_has es e hm]; simp
    · by_cases hl : es.length < 8
      · rw [outE_new es e hm hl]; simp
      · rw [outE_full es e hm (by omega)]; simp
  · rw [prs_len, prs_take]
    obtain ⟨t, ht⟩ := hpre
    rw [← ht, List.take_left]
end Go.Proofs.Ytcoengedikcneaf.Mp

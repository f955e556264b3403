/- Walks: StreamOk of the model. -/
import Derived.Test.YtfmjhbdbgcgoiaaGreatDoorPt
import Derived.Test.YtfmjhbdbgcgoiaaGreatDoorLzP
import Derived.Deep.RegionWith
import Derived.Deep.QuietTactic
import Derived.BigQuiet
namespace Go.Proofs.YtfmjhbdbgcgoiaaGreatDoor.StS
open Go.RowKit Go.Shelf Go.Proofs.YtfmjhbdbgcgoiaaGreatDoor.Kit Go.Proofs.YtfmjhbdbgcgoiaaGreatDoor.Tx Go.Proofs.YtfmjhbdbgcgoiaaGreatDoor.Nm Go.Proofs.YtfmjhbdbgcgoiaaGreatDoor.App Go.Proofs.YtfmjhbdbgcgoiaaGreatDoor.St Go.Proofs.YtfmjhbdbgcgoiaaGreatDoor.Lz Go.Proofs.YtfmjhbdbgcgoiaaGreatDoor.LzP
open Go.Proofs.YtfmjhbdbgcgoiaaGreatDoor.TxW (sok_any)
set_option linter.unusedSimpArgs false
set_option linter.unusedVariables false

theorem isP_at {W : World} {v : Value} {ps : List Pc} (h : IsP W v ps) (i : Nat) (p : Pc) (hp : ps[i]? = some p) : ∃ g o c, v = .slice (some ⟨g, o, none⟩) ps.length c ∧ At4 W g (o + i * 4) p := by
  rcases h with ⟨rfl, rfl⟩ | ⟨g, o, c, rfl, _, _, h⟩
  · simp at hp
  · exact ⟨g, o, c, rfl, h i p hp⟩
theorem below_drewN (B : Nat) (w : World) (n : Nat) : Below B w (w.drewN n) := ⟨rfl, rfl, rfl, Nat.le_refl _, fun _ _ => rfl⟩

set_option maxRecDepth 8000 in
set_option maxHeartbeats 16000000 in
theorem sstream_any (s : ByteArray) (v : Value) (ps : List (Int × ByteArray)) (W : World) (hT : IsT W v ps) (hs : s.size ≤ 1073741824) (hps : ∀ p ∈ ps, p.2.size ≤ 1073741824) :
    Calls Tryz.prog 27 #[.agg #[.string s, v]] W fun r W' => r = .returned (.bool (stB s ps)) ∧ Below W.heap.size W W' := by
  obtain ⟨a, cap, rfl, hc, hcm, hr⟩ := hT
  have bA : Below W.heap.size W (W.alloc (.cells #[.string s, .slice a ps.length cap] 54)) := (Below.refl _ _).alloc (Nat.le_refl _) _
  have hlp := len_pie0 s.data.toList
  have hml : s.size ≤ maxLen := by unfold maxLen; omega
  go_enter Tryz.func27, Tryz.ntmps27
  go_wp2_with fail
  refine (spieces_is s _ rfl hs _).mono ?_
  rintro e w1 ⟨v1, rfl, hP, k1⟩
  have c1 := keepc k1 W.heap.size (by simp)
  have e0 : w1.cell? ⟨W.heap.size, 0, none⟩ = some (.string s) := by rw [c1 0]; simp [go_sem]
  have e1 : w1.cell? ⟨W.heap.size, 1, none⟩ = some (.slice a ps.length cap) := by rw [c1 1]; simp [go_sem]
  have b1 := bA.trans (k1.mono (by simp))
  have hl1 : W.heap.size < w1.heap.size := by have := k1.size; simp at this; omega
  obtain ⟨va, vc, hv1⟩ := isP_slice hP
  have HP := (show Hid (IsP w1 v1 (pieL s.data.toList)) from hP)
  clear hP k1 c1
  subst hv1
  generalize hX : pieL s.data.toList = xs at HP hlp ⊢
  go_wp2_with fail
  refine (sok_any s hml _).mono ?_
  rintro e w2 ⟨rfl, rfl⟩
  cases hok : okB s.data.toList
  · go_wp2
    go_ret
    exact ⟨by rw [stB_ok hok]; rfl, b1⟩
  · by_cases hlen : xs.length = ps.length
    · have hlen' : (xs.length : Int) = (ps.length : Int) := by omega
      have hle : xs.length ≤ 1000 := by omega
      go_wp2
      go_loopw [4] (fun i wr => ∃ k : Nat, k ≤ xs.length ∧ i = .int .i64 k ∧ (∀ (j : Nat) (x : Pc) (p : Int × ByteArray), j < k → xs[j]? = some x → ps[j]? = some p → partB x p = true) ∧ Below w2.heap.size w2 wr) (fun i wr => xs.length - (intOf i).toNat)
      case atStart => exact ⟨0, Nat.zero_le _, rfl, fun j x p hj => by omega, Below.refl _ _⟩
      case round =>
        obtain ⟨k, hk, rfl, hup, hb⟩ := hrel
        by_cases hkl : k < xs.length
        · have hkl' : (k : Int) < (xs.length : Int) := by omega
          have hkp' : (k : Int) < (ps.length : Int) := by omega
          have hx : xs[k]? = some xs[k] := List.getElem?_eq_getElem hkl
          have hp : ps[k]? = some (ps[k]'(by omega)) := List.getElem?_eq_getElem (by omega)
          obtain ⟨g, o, c, ev, x0, _⟩ := isP_at (HP.out.below hb) k _ hx
          simp only [Value.slice.injEq] at ev
          obtain ⟨rfl, -, rfl⟩ := ev
          rcases hr with rfl | ⟨g', o', rfl, hat⟩
          · simp at hp
          obtain ⟨p0, p1⟩ := ((hat k _ hp).below b1).below hb
          have f0 := (hb.cell (p := ⟨W.heap.size, 0, none⟩) hl1).trans e0
          have f1 := (hb.cell (p := ⟨W.heap.size, 1, none⟩) hl1).trans e1
          have hpz := hps _ (List.mem_of_getElem? hp)
          generalize xs[k] = x at hx x0
          generalize ps[k]'(by omega) = p at hp p0 p1 hpz
          have hpm : p.2.size ≤ maxLen := by unfold maxLen; omega
          have HU := (show Hid _ from hup)
          have bw := b1.trans (hb.mono b1.size)
          clear hup hat HP
          by_cases q1 : p.1 = (x.sz : Int)
          · by_cases q2 : p.2.size ≤ 6
            · have q2' : (p.2.size : Int) ≤ 6 := by omega
              cases q3 : p.2.toList.isEmpty
              · have q3' : ¬ p.2.toList = [] := fun q => by rw [q] at q3; cases q3
                cases q4 : okB p.2.data.toList
                · have hbad : partB x p = false := by simp [partB, q4]
                  go_wp2_with fail
                  go_quiet ((go_at_call 58; exact Calls.quiet_of_same (sok_any p.2 hpm _)))
                  go_wp2
                  go_ret
                  exact ⟨by rw [stB_bad (hX ▸ hx) hp hbad]; rfl, bw.trans (below_drewN _ _ _)⟩
                · have hgood : partB x p = true := by simp [partB, q1, q2, q3, q4]
                  go_wp2_with fail
                  go_quiet ((go_at_call 58; exact Calls.quiet_of_same (sok_any p.2 hpm _)))
                  go_wp2
                  go_roundw
                  case rel =>
                    refine ⟨k + 1, by omega, by go_num, fun j y q hj hy hq => ?_, hb.trans (below_drewN _ _ _)⟩
                    by_cases e : j = k
                    · subst e
                      rw [hx] at hy; rw [hp] at hq; cases hy; cases hq; exact hgood
                    · exact HU.out j y q (by omega) hy hq
                  case measure => simp [intOf]; omega
              · have q3' : p.2 = ⟨#[]⟩ := by
                  have h3 := List.isEmpty_iff.1 q3
                  rw [Go.ByteArray.toList_eq] at h3
                  exact WideShapes.bytes_inj (by rw [h3])
                have hbad : partB x p = false := by simp [partB, q3]
                obtain ⟨pz, pt⟩ := p
                simp only at q3' p0 p1 q1 q2 q2' q3 hpz hpm
                subst q3'
                clear q3 q2 q2' hpz hpm
                go_wp2_with fail
                go_quiet (fail)
                go_wp2
                go_ret
                exact ⟨by rw [stB_bad (hX ▸ hx) hp hbad]; rfl, bw.trans (below_drewN _ _ _)⟩
            · have q2' : ¬ (p.2.size : Int) ≤ 6 := by omega
              have q2b : (6 : Int) < (p.2.size : Int) := by omega
              have hbad : partB x p = false := by simp [partB, q2]
              go_wp2_with fail
              go_quiet (fail)
              go_wp2
              go_ret
              exact ⟨by rw [stB_bad (hX ▸ hx) hp hbad]; rfl, bw.trans (below_drewN _ _ _)⟩
          · have q1' : (p.1 == (x.sz : Int)) = false := by simpa using q1
            have q1b : (p.1 != (x.sz : Int)) = true := by simpa using q1
            have hbad : partB x p = false := by simp [partB, q1]
            go_wp2_with fail
            go_quiet (fail)
            go_wp2
            go_ret
            exact ⟨by rw [stB_bad (hX ▸ hx) hp hbad]; rfl, bw.trans (below_drewN _ _ _)⟩
        · have hge : (xs.length : Int) ≤ (k : Int) := by omega
          have hall : stB s ps = true := stB_parts.2 ⟨hok, by rw [hX]; exact hlen, fun i x p hx hp => hup i x p (by rw [hX] at hx; have := (List.getElem?_eq_some_iff.1 hx).1; omega) (hX ▸ hx) hp⟩
          go_wp2
          go_ret
          exact ⟨by rw [hall]; rfl, b1.trans (hb.mono b1.size)⟩
    · have hlen' : ¬ (xs.length : Int) = (ps.length : Int) := by omega
      go_wp2
      go_ret
      exact ⟨by rw [stB_len (by rw [hX]; exact hlen)]; rfl, b1⟩
end Go.Proofs.YtfmjhbdbgcgoiaaGreatDoor.StS

/- Walks: MapOk of the model. -/
import Derived.Test.YtihhegjkliolhaaGreatDoorMm
import Derived.Test.YtihhegjkliolhaaGreatDoorEndV
import Derived.Deep.RegionWith
import Derived.Deep.QuietTactic
import Derived.BigQuiet
namespace Go.Proofs.YtihhegjkliolhaaGreatDoor.Ms
open Go.RowKit Go.Proofs.YtihhegjkliolhaaGreatDoor.Kit Go.Proofs.YtihhegjkliolhaaGreatDoor.Mp Go.Proofs.YtihhegjkliolhaaGreatDoor.Mm Go.Proofs.YtihhegjkliolhaaGreatDoor.App
open Go.Proofs.YtihhegjkliolhaaGreatDoor.EndW (endV sideZ isB spec1)
set_option linter.unusedSimpArgs false
set_option linter.unusedVariables false

theorem below_drewN (B : Nat) (w : World) (n : Nat) : Below B w (w.drewN n) := ⟨rfl, rfl, rfl, Nat.le_refl _, fun _ _ => rfl⟩
theorem isB_inB (e : Int × Int) : isB 1 e.1 e.2 = inB e := by
  unfold isB inB; rw [Bool.eq_iff_iff]; simp

/-- pairs up to a place are seen to be ok -/
structure Upto (m : List (Int × Int × Int)) (i : Nat) : Prop where
  one : ∀ (j : Nat) (p : Int × Int × Int), j < i → m[j]? = some p → p.1 = 10 + (j : Int) ∧ inB p.2 = true
  two : ∀ (j k : Nat) (p q : Int × Int × Int), k < j → j < i → m[j]? = some p → m[k]? = some q → q.2 ≠ p.2
theorem upto_all {m : List (Int × Int × Int)} (h : Upto m m.length) : okM m = decide ((m.length : Int) ≤ 8) := by
  by_cases h8 : m.length ≤ 8
  · have e : decide ((m.length : Int) ≤ 8) = true := by simp; omega
    rw [e]
    refine okm_all m h8 (fun i p hp => h.one i p (List.getElem?_eq_some_iff.1 hp).1 hp) (fun i k p q hk hp hq => h.two i k p q hk (List.getElem?_eq_some_iff.1 hp).1 hp hq)
  · have e : decide ((m.length : Int) ≤ 8) = false := by simp; omega
    rw [e]; exact okm_long m (by omega)
theorem upto_step {m : List (Int × Int × Int)} {i : Nat} (h : Upto m i) (p : Int × Int × Int) (hp : m[i]? = some p) (h1 : p.1 = 10 + (i : Int)) (h2 : inB p.2 = true) (h3 : ∀ (k : Nat) (q : Int × Int × Int), k < i → m[k]? = some q → q.2 ≠ p.2) : Upto m (i + 1) := by
  refine ⟨fun j r hj hr => ?_, fun j k r q hk hj hr hq => ?_⟩
  · by_cases e : j = i
    · subst e; rw [hp] at hr; obtain rfl := Option.some.inj hr; exact ⟨h1, h2⟩
    · exact h.one j r (by omega) hr
  · by_cases e : j = i
    · subst e; rw [hp] at hr; obtain rfl := Option.some.inj hr; exact h3 k q hk hq
    · exact h.two j k r q hk (by omega) hr hq

set_option maxRecDepth 8000 in
set_option maxHeartbeats 8000000 in
theorem sok_any (W : World) (v : Value) (m : List (Int × Int × Int)) (hm : IsM W v m) (hmm : m.length ≤ 1073741824) :
    Calls Tryz.prog 14 #[v] W fun r W' => r = .returned (.bool (okM m)) ∧ Below W.heap.size W W' := by
  obtain ⟨a, c, rfl⟩ := isM_slice hm
  go_enter Tryz.func14, Tryz.ntmps14
  go_wp2
  go_loopw [3] (fun i wr => ∃ k : Nat, k ≤ m.length ∧ i = .int .i64 k ∧ Upto m k ∧ Below W.heap.size W wr) (fun i wr => m.length - (intOf i).toNat)
  case atStart => exact ⟨0, Nat.zero_le _, rfl, ⟨fun j p hj => by omega, fun j k p q hk hj => by omega⟩, Below.refl _ _⟩
  case round =>
    obtain ⟨k, hk, rfl, hup, hb⟩ := hrel
    by_cases hkl : k < m.length
    · have hkl' : (k : Int) < (m.length : Int) := by omega
      have hp : m[k]? = some m[k] := List.getElem?_eq_getElem hkl
      obtain ⟨g, o, rfl, _, hc1, hc2, hat⟩ := isM_at (hm.below hb) k _ hp
      generalize m[k] = p at hp hat
      obtain ⟨q0, q1, q2⟩ := hat
      obtain ⟨po, ea, ep⟩ := p
      simp only at q0 q1 q2
      by_cases hpo : po = 10 + (k : Int)
      · subst hpo
        cases hi : inB (ea, ep)
        · have hbad := okm_in m k _ hp hi
          go_wp2_with fail
          refine (spec1 ea ep _).mono ?_
          rintro r w2 ⟨rfl, k2⟩
          rw [show isB 1 ea ep = inB (ea, ep) from isB_inB (ea, ep), hi]
          go_wp2
          go_ret
          exact ⟨by first | rfl | (rw [hbad]; rfl), hb.trans (k2.mono hb.size)⟩
        · go_wp2_with fail
          refine (spec1 ea ep _).mono ?_
          rintro r w2 ⟨rfl, k2⟩
          rw [show isB 1 ea ep = inB (ea, ep) from isB_inB (ea, ep), hi]
          have b2 := hb.trans (k2.mono hb.size)
          clear q0 q1 q2 k2
          go_wp2
          go_loopw [4] (fun i wr => ∃ j : Nat, j ≤ k ∧ i = .int .i64 j ∧ (∀ (l : Nat) (q : Int × Int × Int), l < j → m[l]? = some q → q.2 ≠ (ea, ep)) ∧ Below W.heap.size W wr) (fun i wr => k - (intOf i).toNat)
          case atStart => exact ⟨0, Nat.zero_le _, rfl, fun l q hl => by omega, b2⟩
          case round =>
            obtain ⟨j, hj, rfl, hno, hb3⟩ := hrel
            by_cases hjl : j < k
            · have hjl' : (j : Int) < (k : Int) := by omega
              have hjm : (j : Int) < (m.length : Int) := by omega
              have hq : m[j]? = some m[j] := List.getElem?_eq_getElem (by omega)
              obtain ⟨_, _, ea0, _, _, _, hat2⟩ := isM_at (hm.below hb3) j _ hq
              obtain ⟨_, _, ea1, _, _, _, hat3⟩ := isM_at (hm.below hb3) k _ hp
              simp at ea0 ea1
              obtain ⟨rfl, rfl⟩ := ea0
              obtain ⟨rfl, rfl⟩ := ea1
              generalize m[j] = q at hq hat2
              obtain ⟨_, r1, r2⟩ := hat2
              obtain ⟨_, s1, s2⟩ := hat3
              obtain ⟨qo, qa, qp⟩ := q
              simp only at r1 r2 s1 s2
              by_cases he : qa = ea ∧ qp = ep
              · have hbad := okm_two m k j _ _ hjl hp hq (Prod.ext he.1 he.2)
                obtain ⟨rfl, rfl⟩ := he
                go_wp2_with fail
                go_quiet (fail)
                go_wp2
                go_ret
                exact ⟨by first | rfl | (rw [hbad]; rfl), hb3.trans (below_drewN _ _ _)⟩
              · have hne : ¬ (qa = ea ∧ qp = ep) := he
                have hno2 : ∀ (l : Nat) (q : Int × Int × Int), l < j + 1 → m[l]? = some q → q.2 ≠ (ea, ep) := by
                  intro l q hl hql
                  by_cases e : l = j
                  · subst e; rw [hq] at hql; obtain rfl := Option.some.inj hql
                    intro h; simp at h; exact he h
                  · exact hno l q (by omega) hql
                by_cases h1 : qa = ea
                · have h2 : (qp == ep) = false := by simp; exact fun h => he ⟨h1, h⟩
                  subst h1
                  go_wp2_with fail
                  go_quiet (fail)
                  go_wp2
                  go_roundw
                  case rel => exact ⟨j + 1, by omega, by go_num, hno2, hb3.trans (below_drewN _ _ _)⟩
                  case measure => simp [intOf]; omega
                · have h2 : (qa == ea) = false := by simp; exact h1
                  go_wp2_with fail
                  go_quiet (fail)
                  go_wp2
                  go_roundw
                  case rel => exact ⟨j + 1, by omega, by go_num, hno2, hb3.trans (below_drewN _ _ _)⟩
                  case measure => simp [intOf]; omega
            · have hjg : (k : Int) ≤ (j : Int) := by omega
              have ejk : j = k := by omega
              subst ejk
              have hst := upto_step hup _ hp rfl hi hno
              go_wp2
              exact ⟨⟨j + 1, by omega, by go_num, hst, hb3⟩, by simp [intOf]; omega⟩
      · have hpo' : (po == 10 + (k : Int)) = false := by simp; exact hpo
        have hbad := okm_port m k _ hp hpo
        go_wp2
        go_ret
        exact ⟨by first | rfl | (rw [hbad]; rfl), hb⟩
    · have hge : (m.length : Int) ≤ (k : Int) := by omega
      have ek : k = m.length := by omega
      subst ek
      have hall : Hid (okM m = decide ((m.length : Int) ≤ 8)) := upto_all hup
      by_cases h8 : (m.length : Int) ≤ 8
      · go_wp2
        go_ret
        exact ⟨by rw [hall.out]; simp [h8], hb⟩
      · have h8' : (8 : Int) < (m.length : Int) := by omega
        go_wp2
        go_ret
        exact ⟨by rw [hall.out]; simp [h8], hb⟩
end Go.Proofs.YtihhegjkliolhaaGreatDoor.Ms

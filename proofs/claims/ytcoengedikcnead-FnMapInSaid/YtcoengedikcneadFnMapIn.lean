/- The walk of the law on ports that stand for none: it answers true. -/
import Derived.Test.YtcoengedikcneadDrawI
import Derived.Test.YtcoengedikcneadLzM
import Derived.Test.YtcoengedikcneadMi
import Derived.Test.YtcoengedikcneadMr
namespace Go.Proofs.Ytcoengedikcnead.LMapIn
open Go.RowKit Go.Proofs.Ytcoengedikcnead.Kit Go.Proofs.Ytcoengedikcnead.Mp Go.Proofs.Ytcoengedikcnead.Mm Go.Proofs.Ytcoengedikcnead.Ml Go.Proofs.Ytcoengedikcnead.Ms Go.Proofs.Ytcoengedikcnead.App Go.Proofs.Ytcoengedikcnead.DrawM
open Go.Proofs.Ytcoengedikcnead.EndW (endV)
set_option linter.unusedVariables false
set_option linter.unusedSimpArgs false

set_option maxHeartbeats 1000000 in
theorem long (a : Option Addr) (len cap : Nat) (w : World) (h : (1048576 : Int) < (len : Int)) :
    Calls Try.prog 4 #[.slice a len cap] w fun e w' => e = .returned (.bool true) ∧ Below w.heap.size w w' := by
  go_enter Try.func4, Try.ntmps4
  go_wp2
  go_ret
  exact ⟨rfl, Below.refl _ _⟩

set_option maxRecDepth 8000 in
set_option maxHeartbeats 16000000 in
theorem short (a : Option Addr) (len cap : Nat) (z : Nat → Int) (w : World) (hc : CodeIn w a len cap z) (h : (len : Int) ≤ 1048576) :
    Calls Try.prog 4 #[.slice a len cap] w fun e w' => e = .returned (.bool true) ∧ Below w.heap.size w w' := by
  go_enter Try.func4, Try.ntmps4
  go_wp2_with fail
  refine (drawIn a len cap z _ hc).mono ?_
  rintro e w1 ⟨v, m, port, rfl, hm1, hml, hsm, ⟨hp0, hp1⟩, k1⟩
  obtain ⟨mi, HO⟩ : ∃ mi, Hid (mIn m port = mi) := ⟨_, rfl⟩
  obtain ⟨⟨x, y⟩, ob⟩ := mi
  go_wp2_with fail
  refine (sin_any _ v m hm1 (by omega) port (by omega) (by omega)).mono ?_
  rintro e w2 ⟨rfl, k2⟩
  rw [HO.out]
  have bN2 : Below w2.heap.size w2 (w2.alloc (.cells #[.int .i64 x, .int .i64 y] 25)) := (Below.refl _ _).alloc (Nat.le_refl _) _
  have b2 := k2.trans (bN2.mono k2.size)
  have hm2 := hm1.below b2
  go_wp2_with fail
  refine (in_any _ v m hm2 port (Mj.wf_small _ (by omega) (by omega))).mono ?_
  rintro e w3 ⟨rfl, k3⟩
  rw [HO.out]
  have z3 := k3.size
  simp at z3
  have c30 : w3.cell? ⟨w2.heap.size, 0, none⟩ = some (.int .i64 x) := (k3.cell (p := ⟨w2.heap.size, 0, none⟩) (by simp)).trans (by simp)
  have c31 : w3.cell? ⟨w2.heap.size, 1, none⟩ = some (.int .i64 y) := (k3.cell (p := ⟨w2.heap.size, 1, none⟩) (by simp)).trans (by simp)
  have b3 := b2.trans (k3.mono b2.size)
  obtain ⟨W, hW⟩ : ∃ W, W = w3.alloc (.cells #[.int .i64 x, .int .i64 y] 25) := ⟨_, rfl⟩
  have bN3 : Below w3.heap.size w3 W := by rw [hW]; exact (Below.refl _ _).alloc (Nat.le_refl _) _
  have b4 := b3.trans (bN3.mono b3.size)
  have hm4 := hm1.below b4
  have d20 : W.cell? ⟨w2.heap.size, 0, none⟩ = some (.int .i64 x) := (bN3.cell (p := ⟨w2.heap.size, 0, none⟩) (by simp; omega)).trans c30
  have d21 : W.cell? ⟨w2.heap.size, 1, none⟩ = some (.int .i64 y) := (bN3.cell (p := ⟨w2.heap.size, 1, none⟩) (by simp; omega)).trans c31
  have d30 : W.cell? ⟨w3.heap.size, 0, none⟩ = some (.int .i64 x) := by rw [hW]; simp
  have d31 : W.cell? ⟨w3.heap.size, 1, none⟩ = some (.int .i64 y) := by rw [hW]; simp
  have hl2 : w2.heap.size < W.heap.size := by rw [hW]; simp; omega
  have hl3 : w3.heap.size < W.heap.size := by rw [hW]; simp
  have hl23 : w2.heap.size < w3.heap.size := by omega
  clear hm2 b2 bN2 k2 k3 b3 bN3 d20 d21 d30 d31
  go_wp2_with fail
  rw [← hW]
  have d20 : W.cell? ⟨w2.heap.size, 0, none⟩ = some (.int .i64 x) := by rw [hW, ((Below.refl w3.heap.size w3).alloc (Nat.le_refl _) _).cell (p := ⟨w2.heap.size, 0, none⟩) hl23]; exact c30
  have d21 : W.cell? ⟨w2.heap.size, 1, none⟩ = some (.int .i64 y) := by rw [hW, ((Below.refl w3.heap.size w3).alloc (Nat.le_refl _) _).cell (p := ⟨w2.heap.size, 1, none⟩) hl23]; exact c31
  have d30 : W.cell? ⟨w3.heap.size, 0, none⟩ = some (.int .i64 x) := by rw [hW]; simp
  have d31 : W.cell? ⟨w3.heap.size, 1, none⟩ = some (.int .i64 y) := by rw [hW]; simp
  clear hW c30 c31
  refine (sok_any _ v m hm4 (by omega)).mono ?_
  rintro e w5 ⟨rfl, k5⟩
  have c20 := (k5.cell (p := ⟨w2.heap.size, 0, none⟩) hl2).trans d20
  have c21 := (k5.cell (p := ⟨w2.heap.size, 1, none⟩) hl2).trans d21
  have c30 := (k5.cell (p := ⟨w3.heap.size, 0, none⟩) hl3).trans d30
  have c31 := (k5.cell (p := ⟨w3.heap.size, 1, none⟩) hl3).trans d31
  have b5 := b4.trans (k5.mono b4.size)
  have hm5 := hm4.below k5
  have z5 := k5.size
  clear d20 d21 d30 d31 k5 b4 hm4 hm1
  cases hok : okM m
  · go_wp2
    go_ret
    exact ⟨by simp, k1.trans (b5.mono k1.size)⟩
  · obtain ⟨hg, hpr⟩ := okM_out m hok
    have HP : Hid (m = prs (m.map Prod.snd)) := hpr
    have HL : Hid ((m.map Prod.snd).length = m.length) := List.length_map _
    have HE : Hid (inE (m.map Prod.snd) port = ((x, y), ob)) := by
      show inE _ _ = _
      rw [← HO.out]; unfold mIn; rw [if_pos hok]
    generalize m.map Prod.snd = es at hg HP HL HE
    clear hpr hok
    obtain ⟨av, cv, rfl⟩ := isM_slice hm5
    have HM : Hid (IsM w5 (.slice av m.length cv) m) := hm5
    clear hm5
    go_wp2
    go_loopw [9] (fun i wr => ∃ (k n : Nat), k ≤ m.length ∧ i = .int .i64 k ∧ (∀ j : Nat, j < k → port ≠ 10 + (j : Int)) ∧ wr = w5.drewN n) (fun i wr => m.length - (intOf i).toNat)
    case atStart => exact ⟨0, 0, Nat.zero_le _, rfl, fun j hj => by omega, rfl⟩
    case round =>
      obtain ⟨k, n, hk, rfl, hno, hwr⟩ := hrel
      have bD : Below w5.heap.size w5 wr := by rw [hwr]; exact LzM.below_drewN _ _ _
      have HW : Hid (wr = w5.drewN n) := hwr
      have bF := b5.trans (bD.mono b5.size)
      clear hwr
      by_cases hkl : k < m.length
      · have hkl' : (k : Int) < (m.length : Int) := by omega
        have hkl2 : k < es.length := by rw [HL.out]; exact hkl
        have hf : es[k]? = some es[k] := List.getElem?_eq_getElem hkl2
        have hp : m[k]? = some (10 + (k : Int), es[k]) := by rw [HP.out, prs_at, hf]; rfl
        obtain ⟨g, o, rfl, _, hc1, hc2, hat⟩ := isM_at (HM.out.below bD) k _ hp
        generalize es[k] = f at hf hp hat
        obtain ⟨fa, fp⟩ := f
        obtain ⟨t0, t1, t2⟩ := hat
        simp only at t0 t1 t2
        have d30 := (bD.cell (p := ⟨w3.heap.size, 0, none⟩) (Nat.lt_of_lt_of_le hl3 z5)).trans c30
        have d31 := (bD.cell (p := ⟨w3.heap.size, 1, none⟩) (Nat.lt_of_lt_of_le hl3 z5)).trans c31
        by_cases hpk : port = 10 + (k : Int)
        · have hq := HE.out
          rw [hpk, inE_at es k _ hf] at hq
          simp at hq
          obtain ⟨⟨rfl, rfl⟩, rfl⟩ := hq
          subst hpk
          clear hp hf hno bD
          go_wp2_with fail
          go_quiet (fail)
          go_wp2
          go_ret
          exact ⟨rfl, k1.trans ((bF.trans (LzM.below_drewN _ _ _)).mono k1.size)⟩
        · have hpk' : (10 + (k : Int) == port) = false := by simpa using fun e => hpk e.symm
          have hno2 : ∀ j : Nat, j < k + 1 → port ≠ 10 + (j : Int) := by
            intro j hj
            by_cases e : j = k
            · subst e; exact hpk
            · exact hno j (by omega)
          clear hp hf hno bD
          go_wp2
          go_roundw
          case rel => exact ⟨k + 1, n, by omega, by go_num, hno2, HW.out⟩
          case measure => simp [intOf]; omega
      · have hge : (m.length : Int) ≤ (k : Int) := by omega
        have hob : ob = false := by
          have hq := HE.out
          rcases inE_cases es port with ⟨i, e, hpi, hi, hin⟩ | ⟨_, hin⟩
          · have := (List.getElem?_eq_some_iff.1 hi).1
            rw [HL.out] at this
            exact absurd hpi (hno i (by omega))
          · rw [hin] at hq; simp at hq; exact hq.2
        subst hob
        clear hno bD
        go_wp2
        go_ret
        exact ⟨rfl, k1.trans (bF.mono k1.size)⟩
end Go.Proofs.Ytcoengedikcnead.LMapIn

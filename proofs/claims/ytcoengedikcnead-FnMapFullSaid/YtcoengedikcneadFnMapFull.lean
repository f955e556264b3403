/- The walk of the law on how many ports a door has: it answers true. -/
import Derived.Test.YtcoengedikcneadDrawN
import Derived.Test.YtcoengedikcneadLzM
import Derived.Test.YtcoengedikcneadMi
import Derived.Test.YtcoengedikcneadMq
import Derived.Test.YtcoengedikcneadMpO
namespace Go.Proofs.Ytcoengedikcnead.LMapFull
open Go.RowKit Go.Proofs.Ytcoengedikcnead.Kit Go.Proofs.Ytcoengedikcnead.Mp Go.Proofs.Ytcoengedikcnead.Mm Go.Proofs.Ytcoengedikcnead.Ml Go.Proofs.Ytcoengedikcnead.Ms Go.Proofs.Ytcoengedikcnead.App Go.Proofs.Ytcoengedikcnead.DrawM
open Go.Proofs.Ytcoengedikcnead.LzM (lz_same)
open Go.Proofs.Ytcoengedikcnead.EndW (endV isB spec1 impl3 sideZ)
set_option linter.unusedVariables false
set_option linter.unusedSimpArgs false

set_option maxHeartbeats 1000000 in
theorem long (a : Option Addr) (len cap : Nat) (w : World) (h : (1048576 : Int) < (len : Int)) :
    Calls Try.prog 3 #[.slice a len cap] w fun e w' => e = .returned (.bool true) ∧ Below w.heap.size w w' := by
  go_enter Try.func3, Try.ntmps3
  go_wp2
  go_ret
  exact ⟨rfl, Below.refl _ _⟩

theorem mem_step (es : List (Int × Int)) (k : Nat) (f e : Int × Int) (h : es[k]? = some f) : e ∈ es.take (k + 1) ↔ e ∈ es.take k ∨ f = e := by
  rw [List.take_add_one, h]
  simp only [Option.toList_some, List.mem_append, List.mem_singleton]
  constructor
  · rintro (h | h)
    · exact .inl h
    · exact .inr h.symm
  · rintro (h | h)
    · exact .inl h
    · exact .inr h.symm
theorem door3 (p : Int) (h1 : 10 ≤ p) (h2 : p ≤ 17) : isB 3 9 p = true := by
  unfold isB sideZ; simp; omega

set_option maxRecDepth 8000 in
set_option maxHeartbeats 16000000 in
theorem short (a : Option Addr) (len cap : Nat) (z : Nat → Int) (w : World) (hc : CodeIn w a len cap z) (h : (len : Int) ≤ 1048576) :
    Calls Try.prog 3 #[.slice a len cap] w fun e w' => e = .returned (.bool true) ∧ Below w.heap.size w w' := by
  go_enter Try.func3, Try.ntmps3
  go_wp2_with fail
  refine (drawOut a len cap z _ hc).mono ?_
  rintro e w1 ⟨v, m, x, y, rfl, hm1, hml, hsm, k1⟩
  obtain ⟨mo, HO⟩ : ∃ mo, Hid (mOut m (x, y) = mo) := ⟨_, rfl⟩
  have hmo : mo.1.length ≤ 8 := by rw [← HO.out]; exact mout_len m _
  obtain ⟨W, hW⟩ : ∃ W, W = w1.alloc (.cells #[.int .i64 x, .int .i64 y] 25) := ⟨_, rfl⟩
  have bW : Below w1.heap.size w1 W := by rw [hW]; exact (Below.refl _ _).alloc (Nat.le_refl _) _
  have hm : IsM W v m := hm1.below bW
  have p0 : W.cell? ⟨w1.heap.size, 0, none⟩ = some (.int .i64 x) := by rw [hW]; simp
  have p1 : W.cell? ⟨w1.heap.size, 1, none⟩ = some (.int .i64 y) := by rw [hW]; simp
  have hlW : w1.heap.size < W.heap.size := by rw [hW]; simp
  have b0 := k1.trans (bW.mono k1.size)
  go_wp2_with fail
  rw [← hW]
  clear hW hm1 bW
  refine (sout_any _ v m hm (by omega) (x, y)).mono ?_
  rintro e w2 ⟨vS, rfl, hrS, k2⟩
  rw [HO.out] at hrS
  rw [HO.out]
  have c0 := (k2.cell (p := ⟨w1.heap.size, 0, none⟩) hlW).trans p0
  have c1 := (k2.cell (p := ⟨w1.heap.size, 1, none⟩) hlW).trans p1
  have hS2 := isM_of_row hrS
  clear hrS
  go_wp2_with fail
  refine (out_any _ v m (hm.below k2) (x, y)).mono ?_
  rintro e w3 ⟨vX, rfl, hrX, k3⟩
  rw [HO.out] at hrX
  rw [HO.out]
  have b3 := k2.trans (k3.mono k2.size)
  have hS3 := hS2.below k3
  have hX3 := isM_of_row hrX
  clear hrX hS2 k3 c0 c1
  obtain ⟨ml, mp, mb⟩ := mo
  simp only at hmo hX3 hS3
  go_wp2_with fail
  refine (lz_same _ ml (by omega) _ _ hX3 hS3).mono ?_
  rintro e w4 ⟨rfl, k4⟩
  have b4 := b3.trans (k4.mono b3.size)
  have hX4 := hX3.below k4
  have hS4 := hS3.below k4
  have hm4 := hm.below b4
  clear k4 b3 hX3 hS3
  go_wp2_with fail
  refine (sok_any _ v m hm4 (by omega)).mono ?_
  rintro e w5 ⟨rfl, k5⟩
  have b5 := b4.trans (k5.mono b4.size)
  have hX5 := hX4.below k5
  have hS5 := hS4.below k5
  have hm5 := hm4.below k5
  have c50 := (b5.cell (p := ⟨w1.heap.size, 0, none⟩) hlW).trans p0
  have c51 := (b5.cell (p := ⟨w1.heap.size, 1, none⟩) hlW).trans p1
  clear k5 b4 hX4 hS4 hm4
  cases hok : okM m
  · go_wp2_with fail
    refine (lz_same _ ml (by omega) _ _ hX5 hS5).mono ?_
    rintro e w6 ⟨rfl, k6⟩
    go_wp2
    go_ret
    exact ⟨rfl, b0.trans ((b5.trans (k6.mono b5.size)).mono b0.size)⟩
  · obtain ⟨hg, hpr⟩ := okM_out m hok
    go_wp2_with fail
    refine (spec1 x y _).mono ?_
    rintro e w6 ⟨rfl, k6⟩
    rw [show isB 1 x y = inB (x, y) from isB_inB (x, y)]
    have b6 := b5.trans (k6.mono b5.size)
    have hX6 := hX5.below k6
    have hS6 := hS5.below k6
    have hm6 := hm5.below k6
    clear k6 b5 hX5 hS5 hm5 c50 c51
    cases hi : inB (x, y)
    · go_wp2_with fail
      refine (lz_same _ ml (by omega) _ _ hX6 hS6).mono ?_
      rintro e w7 ⟨rfl, k7⟩
      go_wp2
      go_ret
      exact ⟨rfl, b0.trans ((b6.trans (k7.mono b6.size)).mono b0.size)⟩
    · have HE : Hid (mOut m (x, y) = (prs (outE (m.map Prod.snd) (x, y)).1, (outE (m.map Prod.snd) (x, y)).2.1, (outE (m.map Prod.snd) (x, y)).2.2)) := by
        show mOut m (x, y) = _
        unfold mOut; rw [if_pos ⟨hok, hi⟩]
      have HP : Hid (m = prs (m.map Prod.snd)) := hpr
      have HL : Hid ((m.map Prod.snd).length = m.length) := List.length_map _
      generalize m.map Prod.snd = es at hg HE HP HL
      clear hpr hok
      obtain ⟨av, cv, rfl⟩ := isM_slice hm6
      have HM : Hid (IsM w6 (.slice av m.length cv) m) := hm6
      have HB6 : Hid (Below W.heap.size W w6) := b6
      clear hm6 hm
      go_wp2
      go_loopw [11, 12] (fun hs i wr => ∃ (k n : Nat) (hb : Bool), k ≤ m.length ∧ i = .int .i64 k ∧ hs = .bool hb ∧ (hb = true ↔ (x, y) ∈ es.take k) ∧ wr = w6.drewN n) (fun hs i wr => m.length - (intOf i).toNat)
      case atStart => exact ⟨0, 0, false, Nat.zero_le _, rfl, rfl, by simp, rfl⟩
      case round =>
        obtain ⟨k, n, hb, hk, rfl, rfl, hiff, hwr⟩ := hrel
        have bD : Below w6.heap.size w6 wr := by rw [hwr]; exact LzM.below_drewN _ _ _
        have HW : Hid (wr = w6.drewN n) := hwr
        clear hwr
        have d0 := (bD.cell (p := ⟨w1.heap.size, 0, none⟩) (Nat.lt_of_lt_of_le hlW HB6.out.size)).trans ((HB6.out.cell (p := ⟨w1.heap.size, 0, none⟩) hlW).trans p0)
        have d1 := (bD.cell (p := ⟨w1.heap.size, 1, none⟩) (Nat.lt_of_lt_of_le hlW HB6.out.size)).trans ((HB6.out.cell (p := ⟨w1.heap.size, 1, none⟩) hlW).trans p1)
        by_cases hkl : k < m.length
        · have hkl' : (k : Int) < (m.length : Int) := by omega
          have hkl2 : k < es.length := by rw [HL.out]; exact hkl
          have hf : es[k]? = some es[k] := List.getElem?_eq_getElem hkl2
          have hp : m[k]? = some (10 + (k : Int), es[k]) := by rw [HP.out, prs_at, hf]; rfl
          obtain ⟨g, o, rfl, _, hc1, hc2, hat⟩ := isM_at (HM.out.below bD) k _ hp
          have hst := mem_step es k es[k] (x, y) hf
          generalize es[k] = f at hf hp hat hst
          obtain ⟨fa, fp⟩ := f
          obtain ⟨t0, t1, t2⟩ := hat
          simp only at t0 t1 t2
          clear hp hf
          cases hb
          · have hno : (x, y) ∉ es.take k := fun hx => Bool.false_ne_true (hiff.2 hx)
            by_cases e1 : fa = x
            · subst e1
              by_cases e2 : fp = y
              · subst e2
                have hnew : Hid ((true = true) ↔ (fa, fp) ∈ es.take (k + 1)) := by
                  show (true = true) ↔ _
                  rw [hst]; simp
                clear hst hiff
                go_wp2_with fail
                go_quiet (fail)
                go_wp2
                go_roundw
                case rel => exact ⟨k + 1, n + nq, true, by omega, by go_num, by first | rfl | simp, by simpa using hnew.out, by rw [HW.out, LzM.dd]⟩
                case measure => simp [intOf]; omega
              · have e2' : (fp == y) = false := by simpa using e2
                have hnew : Hid ((false = true) ↔ (fa, y) ∈ es.take (k + 1)) := by
                  show (false = true) ↔ _
                  rw [hst]; simp [hno, e2]
                clear hst hiff
                go_wp2_with fail
                go_quiet (fail)
                go_wp2
                go_roundw
                case rel => exact ⟨k + 1, n + nq, false, by omega, by go_num, by first | rfl | simp, by simpa using hnew.out, by rw [HW.out, LzM.dd]⟩
                case measure => simp [intOf]; omega
            · have e1' : (fa == x) = false := by simpa using e1
              have hnew : Hid ((false = true) ↔ (x, y) ∈ es.take (k + 1)) := by
                show (false = true) ↔ _
                rw [hst]; simp [hno, e1]
              clear hst hiff
              go_wp2_with fail
              go_quiet (fail)
              go_wp2
              go_roundw
              case rel => exact ⟨k + 1, n + nq, false, by omega, by go_num, by first | rfl | simp, by simpa using hnew.out, by rw [HW.out, LzM.dd]⟩
              case measure => simp [intOf]; omega
          · have hyes : (x, y) ∈ es.take k := hiff.1 rfl
            have hnew : Hid ((true = true) ↔ (x, y) ∈ es.take (k + 1)) := by
              show (true = true) ↔ _
              rw [hst]; simp [hyes]
            clear hst hiff
            go_wp2_with fail
            go_quiet (fail)
            go_wp2
            go_roundw
            case rel => exact ⟨k + 1, n + nq, true, by omega, by go_num, by first | rfl | simp, by simpa using hnew.out, by rw [HW.out, LzM.dd]⟩
            case measure => simp [intOf]; omega
        · have hge : (m.length : Int) ≤ (k : Int) := by omega
          have hkm : k = m.length := by omega
          have hall : hb = true ↔ (x, y) ∈ es := by
            rw [hiff, List.take_of_length_le (by rw [HL.out]; omega)]
          have hXr := hX6.below bD
          have hMr := HM.out.below bD
          have bb := HB6.out.trans (bD.mono HB6.out.size)
          have h8 := hg.len
          have hE := HE.out
          rw [HO.out] at hE
          clear hiff bD d0 d1 hkm
          by_cases hmem : (x, y) ∈ es
          · obtain rfl : hb = true := hall.2 hmem
            have hport := outE_port es (x, y) hg (by rw [outE_has es _ hmem])
            rw [outE_has es _ hmem] at hE hport
            simp at hE
            obtain ⟨hml1, hmp1, rfl⟩ := hE
            have hq1 : 10 ≤ mp := by rw [hmp1]; exact hport.1
            have hq2 : mp ≤ 17 := by rw [hmp1]; exact hport.2.1
            have hdoor := door3 mp hq1 hq2
            clear hport hmp1 hml1 hall
            go_wp2_with fail
            refine (impl3 9 mp _).mono ?_
            rintro e w7 ⟨rfl, k7⟩
            rw [hdoor]
            go_wp2
            go_ret
            exact ⟨rfl, b0.trans ((bb.trans (k7.mono bb.size)).mono b0.size)⟩
          · obtain rfl : hb = false := by cases hb; rfl; exact absurd (hall.1 rfl) hmem
            by_cases hl : es.length < 8
            · have hl' : (m.length : Int) < 8 := by have := HL.out; omega
              have hport := outE_port es (x, y) hg (by rw [outE_new es _ hmem hl])
              rw [outE_new es _ hmem hl] at hE hport
              simp at hE
              obtain ⟨hml1, hmp1, rfl⟩ := hE
              have hq1 : 10 ≤ mp := by rw [hmp1]; exact hport.1
              have hq2 : mp ≤ 17 := by rw [hmp1]; exact hport.2.1
              have hdoor := door3 mp hq1 hq2
              clear hport hmp1 hml1 hall
              go_wp2_with fail
              refine (impl3 9 mp _).mono ?_
              rintro e w7 ⟨rfl, k7⟩
              rw [hdoor]
              go_wp2
              go_ret
              exact ⟨rfl, b0.trans ((bb.trans (k7.mono bb.size)).mono b0.size)⟩
            · have hl' : (8 : Int) ≤ (m.length : Int) := by have := HL.out; omega
              have hl2 : decide ((m.length : Int) < 8) = false := by simp; omega
              rw [outE_full es _ hmem (by omega)] at hE
              simp at hE
              obtain ⟨hml1, hmp1, rfl⟩ := hE
              have HML : Hid (ml = m) := by show ml = m; rw [hml1]; exact HP.out.symm
              clear hml1 hmp1 hall
              go_wp2_with fail
              refine (lz_same _ m (by omega) _ _ (by rw [← HML.out]; exact hXr) hMr).mono ?_
              rintro e w7 ⟨rfl, k7⟩
              go_wp2
              go_ret
              exact ⟨by simp [hl2], b0.trans ((bb.trans (k7.mono bb.size)).mono b0.size)⟩
end Go.Proofs.Ytcoengedikcnead.LMapFull

/- Walks: as what a piece goes out, and comes in, by the program. -/
import Derived.Test.YtlejldaennlfaayGreatDoorMg
import Derived.Test.YtlejldaennlfaayGreatDoorNm2
import Derived.Test.YtlejldaennlfaayGreatDoorMpTs
namespace Go.Proofs.YtlejldaennlfaayGreatDoor.Gp
open Go.RowKit Go.Proofs.YtlejldaennlfaayGreatDoor.Kit Go.Proofs.YtlejldaennlfaayGreatDoor.Mp Go.Proofs.YtlejldaennlfaayGreatDoor.Mj Go.Proofs.YtlejldaennlfaayGreatDoor.Mk Go.Proofs.YtlejldaennlfaayGreatDoor.Mg Go.Proofs.YtlejldaennlfaayGreatDoor.Tx Go.Proofs.YtlejldaennlfaayGreatDoor.Nm
open Go.Proofs.YtlejldaennlfaayGreatDoor.EndW (endV sideZ isB impl1)
open Go.Proofs.YtlejldaennlfaayGreatDoor.Text (txt txtL)
set_option linter.unusedSimpArgs false
set_option linter.unusedVariables false

theorem nm_data (x y : Int) (h : sideZ x y ≠ 0) : (⟨#[64]⟩ ++ txt x y ++ ⟨#[59]⟩ : ByteArray).data.toList = nmL (x, y) := by
  have e := Text.txt_list x y h
  rw [ByteArray.toList_eq] at e
  simp [ByteArray.data_append, nmL, e]
theorem isB3 (x y : Int) : isB 3 x y = decide (sideZ x y = 3) := by
  unfold isB; rw [Bool.eq_iff_iff]; simp

set_option maxRecDepth 8000 in
set_option maxHeartbeats 4000000 in
theorem out_piece (W : World) (bt bb : Nat) (es : List (Int × Int)) (h : Two W bt bb es) (hg : GoodE es) (P : Pc) (S : ByteArray) :
    Calls Tryz.prog 20 #[prtV bt bb, pcV P, .string S] W fun r W' => ∃ T, r = .returned (.string T) ∧ T.data.toList = (goO es P S.data.toList).2 ∧ Two W' bt bb (goO es P S.data.toList).1 ∧ But2 bt bb W W' := by
  obtain ⟨sz, nm, ad, po⟩ := P
  have bA : Below W.heap.size W ((W.alloc (.cells #[.map (some bt), .map (some bb)] 52)).alloc (.cells #[.int .i64 (sz : Nat), .bool nm, .int .i64 ad, .int .i64 po] 40)) := ((Below.refl _ _).alloc (Nat.le_refl _) _).alloc (by simp) _
  have hlt := h.lt
  cases nm
  · have hgo : goO es ⟨sz, false, ad, po⟩ S.data.toList = (es, S.data.toList) := by unfold goO; rw [if_neg (by rintro ⟨e, _⟩; cases e)]
    rw [hgo]
    go_enter Tryz.func20, Tryz.ntmps20
    go_wp2
    go_ret
    exact ⟨_, rfl, rfl, h.below bA, But2.ofBelow bA⟩
  · cases hi : inB (ad, po)
    · have hgo : goO es ⟨sz, true, ad, po⟩ S.data.toList = (es, S.data.toList) := by unfold goO; rw [if_neg (by rintro ⟨_, e, _⟩; simp only at e; rw [hi] at e; cases e)]
      rw [hgo]
      go_enter Tryz.func20, Tryz.ntmps20
      go_wp2_with fail
      refine (impl1 ad po _).mono ?_
      rintro r w1 ⟨rfl, k1⟩
      rw [show isB 1 ad po = inB (ad, po) from isB_inB (ad, po), hi]
      have b1 := bA.trans (k1.mono bA.size)
      go_wp2
      go_ret
      exact ⟨_, rfl, rfl, h.below b1, But2.ofBelow b1⟩
    · have hgo : goO es ⟨sz, true, ad, po⟩ S.data.toList = if (outE es (ad, po)).2.2 = true then ((outE es (ad, po)).1, nmL (9, (outE es (ad, po)).2.1)) else (es, S.data.toList) := by
        unfold goO; simp only [hi, true_and]
      rw [hgo]
      clear hgo
      have hop := outE_port es (ad, po) hg
      have hpre : (outE es (ad, po)).2.2 = false → (outE es (ad, po)).1 = es := by
        intro hf
        by_cases hm : (ad, po) ∈ es
        · rw [outE_has es _ hm]
        · by_cases hl : es.length < 8
          · rw [outE_new es _ hm hl] at hf; cases hf
          · rw [outE_full es _ hm (by omega)]
      obtain ⟨q, hq⟩ : ∃ q, outE es (ad, po) = q := ⟨_, rfl⟩
      have HQ : Hid (outE es (ad, po) = q) := hq
      rw [hq] at hop hpre ⊢
      clear hq
      obtain ⟨es2, pt, ok⟩ := q
      simp only at hop hpre ⊢
      go_enter Tryz.func20, Tryz.ntmps20
      go_wp2_with fail
      refine (impl1 ad po _).mono ?_
      rintro r w1 ⟨rfl, k1⟩
      rw [show isB 1 ad po = inB (ad, po) from isB_inB (ad, po), hi]
      have z1 := k1.size
      simp at z1
      have b1 := bA.trans (k1.mono bA.size)
      have c1 := keepc k1 (W.heap.size + 1) (by simp)
      have d1 := keepc k1 W.heap.size (by simp; omega)
      have t1 := h.below b1
      go_wp2_with fail
      refine (port_any _ bt bb es t1 hg (ad, po) hi).mono ?_
      rintro r w2 ⟨rfl, t2, k2⟩
      rw [HQ.out] at t2
      rw [HQ.out]
      have b2 : But2 bt bb W w2 := But2.one b1 k2
      cases ok
      · rw [show ((es2, pt, false) : List (Int × Int) × Int × Bool).1 = es from hpre rfl] at t2
        go_wp2
        go_ret
        exact ⟨_, rfl, by simp, by simpa using t2, b2⟩
      · obtain ⟨p1, p2, _⟩ := hop rfl
        have hsd : sideZ 9 pt ≠ 0 := by
          unfold sideZ; simp; omega
        go_wp2_with fail
        refine (nameOf_any 9 pt _).mono ?_
        rintro r w3 ⟨rfl, k3⟩
        go_wp2
        go_ret
        exact ⟨_, rfl, by simpa using nm_data 9 pt hsd, by simpa using t2.below k3, b2.trans (But2.ofBelow k3)⟩

end Go.Proofs.YtlejldaennlfaayGreatDoor.Gp

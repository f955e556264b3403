/- Walks: as what a piece goes out, and comes in, by the program. -/
import Derived.Test.YtlejldaennlfaaeGreatDoorMg
import Derived.Test.YtlejldaennlfaaeGreatDoorNm2
import Derived.Test.YtlejldaennlfaaeGreatDoorMpTs
namespace Go.Proofs.YtlejldaennlfaaeGreatDoor.Gp
open Go.RowKit Go.Proofs.YtlejldaennlfaaeGreatDoor.Kit Go.Proofs.YtlejldaennlfaaeGreatDoor.Mp Go.Proofs.YtlejldaennlfaaeGreatDoor.Mj Go.Proofs.YtlejldaennlfaaeGreatDoor.Mk Go.Proofs.YtlejldaennlfaaeGreatDoor.Mg Go.Proofs.YtlejldaennlfaaeGreatDoor.Tx Go.Proofs.YtlejldaennlfaaeGreatDoor.Nm
open Go.Proofs.YtlejldaennlfaaeGreatDoor.EndW (endV sideZ isB impl1)
open Go.Proofs.YtlejldaennlfaaeGreatDoor.EndW (impl3)
open Go.Proofs.YtlejldaennlfaaeGreatDoor.Text (txt txtL)
set_option linter.unusedSimpArgs false
set_option linter.unusedVariables false

theorem nm_data (x y : Int) (h : sideZ x y ≠ 0) : (⟨#[64]⟩ ++ txt x y ++ ⟨#[59]⟩ : ByteArray).data.toList = nmL (x, y) := by
  have e := Text.txt_list x y h
  rw [ByteArray.toList_eq] at e
  simp [ByteArray.data_append, nmL, e]
theorem isB3 (x y : Int) : isB 3 x y = decide (sideZ x y = 3) := by
  unfold isB; rw [Bool.eq_iff_iff]; simp

set_option maxRecDepth 8000 in
set_option maxHeartbeats 4000000 in
theorem out_piece (W : World) (bt bb : Nat) (es : List (Int × Int)) (h : Two W bt bb es) (hg : GoodE es) (P : Pc) (S : ByteArray) :
    Calls Tryz.prog 39 #[prtV bt bb, pcV P, .string S] W fun r W' => ∃ T, r = .returned (.string T) ∧ T.data.toList = (goO es P S.data.toList).2 ∧ Two W' bt bb (goO es P S.data.toList).1 ∧ But2 bt bb W W' := by
  obtain ⟨sz, nm, ad, po⟩ := P
  have bA : Below W.heap.size W ((W.alloc (.cells #[.map (some bt), .map (some bb)] 56)).alloc (.cells #[.int .i64 (sz : Nat), .bool nm, .int .i64 ad, .int .i64 po] 34)) := ((Below.refl _ _).alloc (Nat.le_refl _) _).alloc (by simp) _
  have hlt := h.lt
  cases nm
  · have hgo : goO es ⟨sz, false, ad, po⟩ S.data.toList = (es, S.data.toList) := by unfold goO; rw [if_neg (by rintro ⟨e, _⟩; cases e)]
    rw [hgo]
    go_enter Tryz.func39, Tryz.ntmps39
    go_wp2
    go_ret
    exact ⟨_, rfl, rfl, h.below bA, But2.ofBelow bA⟩
  · cases hi : inB (ad, po)
    · have hgo : goO es ⟨sz, true, ad, po⟩ S.data.toList = (es, S.data.toList) := by unfold goO; rw [if_neg (by rintro ⟨_, e, _⟩; simp only at e; rw [hi] at e; cases e)]
      rw [hgo]
      go_enter Tryz.func39, Tryz.ntmps39
      go_wp2_with fail
      refine (impl1 ad po _).mono ?_
      rintro r w1 ⟨rfl, k1⟩
      rw [show isB 1 ad po = inB (ad, po) from isB_inB (ad, po), hi]
      have b1 := bA.trans (k1.mono bA.size)
      go_wp2
      go_ret
      exact ⟨_, rfl, rfl, h.below b1, But2.ofBelow b1⟩
    · have hgo : goO es ⟨sz, true, ad, po⟩ S.data.toList = if (outE es (ad, po)).2.2 = true then ((outE es (ad, po)).1, nmL (9, (outE es (ad, po)).2.1)) else (es, S.data.toList) := by
        unfold goO; simp only [hi, true_and]
      rw [hgo]
      clear hgo
      have hop := outE_port es (ad, po) hg
      have hpre : (outE es (ad, po)).2.2 = false → (outE es (ad, po)).1 = es := by
        intro hf
        by_cases hm : (ad, po) ∈ es
        · rw [outE_has es _ hm]
        · by_cases hl : es.length < 8
          · rw [outE_new es _ hm hl] at hf; cases hf
          · rw [outE_full es _ hm (by omega)]
      obtain ⟨q, hq⟩ : ∃ q, outE es (ad, po) = q := ⟨_, rfl⟩
      have HQ : Hid (outE es (ad, po) = q) := hq
      rw [hq] at hop hpre ⊢
      clear hq
      obtain ⟨es2, pt, ok⟩ := q
      simp only at hop hpre ⊢
      go_enter Tryz.func39, Tryz.ntmps39
      go_wp2_with fail
      refine (impl1 ad po _).mono ?_
      rintro r w1 ⟨rfl, k1⟩
      rw [show isB 1 ad po = inB (ad, po) from isB_inB (ad, po), hi]
      have z1 := k1.size
      simp at z1
      have b1 := bA.trans (k1.mono bA.size)
      have c1 := keepc k1 (W.heap.size + 1) (by simp)
      have d1 := keepc k1 W.heap.size (by simp; omega)
      have t1 := h.below b1
      go_wp2_with fail
      refine (port_any _ bt bb es t1 hg (ad, po) hi).mono ?_
      rintro r w2 ⟨rfl, t2, k2⟩
      rw [HQ.out] at t2
      rw [HQ.out]
      have b2 : But2 bt bb W w2 := But2.one b1 k2
      cases ok
      · rw [show ((es2, pt, false) : List (Int × Int) × Int × Bool).1 = es from hpre rfl] at t2
        go_wp2
        go_ret
        exact ⟨_, rfl, by simp, by simpa using t2, b2⟩
      · obtain ⟨p1, p2, _⟩ := hop rfl
        have hsd : sideZ 9 pt ≠ 0 := by
          unfold sideZ; simp; omega
        go_wp2_with fail
        refine (nameOf_any 9 pt _).mono ?_
        rintro r w3 ⟨rfl, k3⟩
        go_wp2
        go_ret
        exact ⟨_, rfl, by simpa using nm_data 9 pt hsd, by simpa using t2.below k3, b2.trans (But2.ofBelow k3)⟩

set_option maxRecDepth 8000 in
set_option maxHeartbeats 4000000 in
theorem in_piece (W : World) (bt bb : Nat) (es : List (Int × Int)) (h : Two W bt bb es) (hg : GoodE es) (P : Pc) (S : ByteArray) :
    Calls Tryz.prog 31 #[prtV bt bb, pcV P, .string S] W fun r W' => ∃ T, r = .returned (.string T) ∧ T.data.toList = goI es P S.data.toList ∧ Below W.heap.size W W' := by
  obtain ⟨sz, nm, ad, po⟩ := P
  have bA : Below W.heap.size W ((W.alloc (.cells #[.map (some bt), .map (some bb)] 56)).alloc (.cells #[.int .i64 (sz : Nat), .bool nm, .int .i64 ad, .int .i64 po] 34)) := ((Below.refl _ _).alloc (Nat.le_refl _) _).alloc (by simp) _
  cases nm
  · have hgo : goI es ⟨sz, false, ad, po⟩ S.data.toList = S.data.toList := by unfold goI; rw [if_neg (by rintro ⟨e, _⟩; cases e)]
    rw [hgo]
    go_enter Tryz.func31, Tryz.ntmps31
    go_wp2
    go_ret
    exact ⟨_, rfl, rfl, bA⟩
  · by_cases hs : sideZ ad po = 3
    · have hdd : isB 3 ad po = true := by rw [isB3]; simp [hs]
      have hgo : goI es ⟨sz, true, ad, po⟩ S.data.toList = if (inE es po).2 = true then nmL (inE es po).1 else S.data.toList := by
        unfold goI; simp only [hs, true_and]
      rw [hgo]
      clear hgo
      have hbd : 10 ≤ po ∧ po ≤ 17 := by
        unfold sideZ at hs
        split at hs
        · omega
        · split at hs
          · omega
          · split at hs <;> omega
      have hin : (inE es po).2 = true → sideZ (inE es po).1.1 (inE es po).1.2 ≠ 0 := by
        intro ht
        rcases inE_cases es po with ⟨i, e, _, he, hq⟩ | ⟨_, hq⟩
        · rw [hq]
          have := hg.ins e (List.mem_of_getElem? he)
          simp only [inB, decide_eq_true_eq] at this
          simp only; omega
        · rw [hq] at ht; cases ht
      obtain ⟨q, hq⟩ : ∃ q, inE es po = q := ⟨_, rfl⟩
      have HQ : Hid (inE es po = q) := hq
      rw [hq] at hin ⊢
      clear hq
      obtain ⟨⟨ea, ep⟩, ok⟩ := q
      simp only at hin ⊢
      go_enter Tryz.func31, Tryz.ntmps31
      go_wp2_with fail
      refine (impl3 ad po _).mono ?_
      rintro r w1 ⟨rfl, k1⟩
      rw [hdd]
      have z1 := k1.size
      simp at z1
      have b1 := bA.trans (k1.mono bA.size)
      have c1 := keepc k1 (W.heap.size + 1) (by simp)
      have d1 := keepc k1 W.heap.size (by simp; omega)
      have t1 := h.below b1
      go_wp2_with fail
      refine (end_any _ bt bb es t1 hg.len po (wf_small _ (by omega) (by omega))).mono ?_
      rintro r w2 ⟨rfl, k2⟩
      rw [HQ.out]
      have b2 := b1.trans (k2.mono b1.size)
      cases ok
      · go_wp2
        go_ret
        exact ⟨_, rfl, by simp, b2.alloc b2.size _⟩
      · have hnz : sideZ ea ep ≠ 0 := hin rfl
        go_wp2_with fail
        refine (nameOf_any ea ep _).mono ?_
        rintro r w3 ⟨rfl, k3⟩
        have b3 := (b2.alloc (o := .cells #[.int .i64 ea, .int .i64 ep] 32) b2.size).trans (k3.mono (by have := b2.size; simp; omega))
        go_wp2
        go_ret
        exact ⟨_, rfl, by simpa using nm_data ea ep hnz, b3⟩
    · have hdd : isB 3 ad po = false := by rw [isB3]; simp [hs]
      have hgo : goI es ⟨sz, true, ad, po⟩ S.data.toList = S.data.toList := by unfold goI; rw [if_neg (by rintro ⟨_, e, _⟩; exact hs e)]
      rw [hgo]
      go_enter Tryz.func31, Tryz.ntmps31
      go_wp2_with fail
      refine (impl3 ad po _).mono ?_
      rintro r w1 ⟨rfl, k1⟩
      rw [hdd]
      have b1 := bA.trans (k1.mono bA.size)
      go_wp2
      go_ret
      exact ⟨_, rfl, rfl, b1⟩
end Go.Proofs.YtlejldaennlfaaeGreatDoor.Gp

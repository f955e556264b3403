/- Walks: as what a piece goes out, and comes in, by the program. -/
import Derived.Test.YtlejldaennlfaayDoorMg
import Derived.Test.YtlejldaennlfaayDoorNm2
import Derived.Test.YtlejldaennlfaayDoorMpTs
namespace Go.Proofs.YtlejldaennlfaayDoor.Gp
open Go.RowKit Go.Proofs.YtlejldaennlfaayDoor.Kit Go.Proofs.YtlejldaennlfaayDoor.Mp Go.Proofs.YtlejldaennlfaayDoor.Mj Go.Proofs.YtlejldaennlfaayDoor.Mk Go.Proofs.YtlejldaennlfaayDoor.Mg Go.Proofs.YtlejldaennlfaayDoor.Tx Go.Proofs.YtlejldaennlfaayDoor.Nm
open Go.Proofs.YtlejldaennlfaayDoor.EndW (endV sideZ isB impl1)
open Go.Proofs.YtlejldaennlfaayDoor.EndW (impl3)
open Go.Proofs.YtlejldaennlfaayDoor.Text (txt txtL)
set_option linter.unusedSimpArgs false
set_option linter.unusedVariables false

theorem nm_data (x y : Int) (h : sideZ x y ≠ 0) : (⟨#[64]⟩ ++ txt x y ++ ⟨#[59]⟩ : ByteArray).data.toList = nmL (x, y) := by
  have e := Text.txt_list x y h
  rw [ByteArray.toList_eq] at e
  simp [ByteArray.data_append, nmL, e]
theorem isB3 (x y : Int) : isB 3 x y = decide (sideZ x y = 3) := by
  unfold isB; rw [Bool.eq_iff_iff]; simp


set_option maxRecDepth 8000 in
set_option maxHeartbeats 4000000 in
theorem in_piece (W : World) (bt bb : Nat) (es : List (Int × Int)) (h : Two W bt bb es) (hg : GoodE es) (P : Pc) (S : ByteArray) :
    Calls Tryd.prog 16 #[prtV bt bb, pcV P, .string S] W fun r W' => ∃ T, r = .returned (.string T) ∧ T.data.toList = goI es P S.data.toList ∧ Below W.heap.size W W' := by
  obtain ⟨sz, nm, ad, po⟩ := P
  have bA : Below W.heap.size W ((W.alloc (.cells #[.map (some bt), .map (some bb)] 49)).alloc (.cells #[.int .i64 (sz : Nat), .bool nm, .int .i64 ad, .int .i64 po] 37)) := ((Below.refl _ _).alloc (Nat.le_refl _) _).alloc (by simp) _
  cases nm
  · have hgo : goI es ⟨sz, false, ad, po⟩ S.data.toList = S.data.toList := by unfold goI; rw [if_neg (by rintro ⟨e, _⟩; cases e)]
    rw [hgo]
    go_enter Tryd.func16, Tryd.ntmps16
    go_wp2
    go_ret
    exact ⟨_, rfl, rfl, bA⟩
  · by_cases hs : sideZ ad po = 3
    · have hdd : isB 3 ad po = true := by rw [isB3]; simp [hs]
      have hgo : goI es ⟨sz, true, ad, po⟩ S.data.toList = if (inE es po).2 = true then nmL (inE es po).1 else S.data.toList := by
        unfold goI; simp only [hs, true_and]
      rw [hgo]
      clear hgo
      have hbd : 10 ≤ po ∧ po ≤ 17 := by
        unfold sideZ at hs
        split at hs
        · omega
        · split at hs
          · omega
          · split at hs <;> omega
      have hin : (inE es po).2 = true → sideZ (inE es po).1.1 (inE es po).1.2 ≠ 0 := by
        intro ht
        rcases inE_cases es po with ⟨i, e, _, he, hq⟩ | ⟨_, hq⟩
        · rw [hq]
          have := hg.ins e (List.mem_of_getElem? he)
          simp only [inB, decide_eq_true_eq] at this
          simp only; omega
        · rw [hq] at ht; cases ht
      obtain ⟨q, hq⟩ : ∃ q, inE es po = q := ⟨_, rfl⟩
      have HQ : Hid (inE es po = q) := hq
      rw [hq] at hin ⊢
      clear hq
      obtain ⟨⟨ea, ep⟩, ok⟩ := q
      simp only at hin ⊢
      go_enter Tryd.func16, Tryd.ntmps16
      go_wp2_with fail
      refine (impl3 ad po _).mono ?_
      rintro r w1 ⟨rfl, k1⟩
      rw [hdd]
      have z1 := k1.size
      simp at z1
      have b1 := bA.trans (k1.mono bA.size)
      have c1 := keepc k1 (W.heap.size + 1) (by simp)
      have d1 := keepc k1 W.heap.size (by simp; omega)
      have t1 := h.below b1
      go_wp2_with fail
      refine (end_any _ bt bb es t1 hg.len po (wf_small _ (by omega) (by omega))).mono ?_
      rintro r w2 ⟨rfl, k2⟩
      rw [HQ.out]
      have b2 := b1.trans (k2.mono b1.size)
      cases ok
      · go_wp2
        go_ret
        exact ⟨_, rfl, by simp, b2.alloc b2.size _⟩
      · have hnz : sideZ ea ep ≠ 0 := hin rfl
        go_wp2_with fail
        refine (nameOf_any ea ep _).mono ?_
        rintro r w3 ⟨rfl, k3⟩
        have b3 := (b2.alloc (o := .cells #[.int .i64 ea, .int .i64 ep] 35) b2.size).trans (k3.mono (by have := b2.size; simp; omega))
        go_wp2
        go_ret
        exact ⟨_, rfl, by simpa using nm_data ea ep hnz, b3⟩
    · have hdd : isB 3 ad po = false := by rw [isB3]; simp [hs]
      have hgo : goI es ⟨sz, true, ad, po⟩ S.data.toList = S.data.toList := by unfold goI; rw [if_neg (by rintro ⟨_, e, _⟩; exact hs e)]
      rw [hgo]
      go_enter Tryd.func16, Tryd.ntmps16
      go_wp2_with fail
      refine (impl3 ad po _).mono ?_
      rintro r w1 ⟨rfl, k1⟩
      rw [hdd]
      have b1 := bA.trans (k1.mono bA.size)
      go_wp2
      go_ret
      exact ⟨_, rfl, rfl, b1⟩
end Go.Proofs.YtlejldaennlfaayDoor.Gp

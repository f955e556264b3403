/- Walks: MapTextOut and MapTextIn of the program. -/
import Derived.Test.YtlejldaennlfaayGreatDoorWa
import Derived.Test.YtlejldaennlfaayGreatDoorMlMi
namespace Go.Proofs.YtlejldaennlfaayGreatDoor.Mt
open Go.RowKit Go.Proofs.YtlejldaennlfaayGreatDoor.Kit Go.Proofs.YtlejldaennlfaayGreatDoor.Mp Go.Proofs.YtlejldaennlfaayGreatDoor.Mj Go.Proofs.YtlejldaennlfaayGreatDoor.Mk Go.Proofs.YtlejldaennlfaayGreatDoor.Mg Go.Proofs.YtlejldaennlfaayGreatDoor.Mm Go.Proofs.YtlejldaennlfaayGreatDoor.Ml Go.Proofs.YtlejldaennlfaayGreatDoor.Tx Go.Proofs.YtlejldaennlfaayGreatDoor.App Go.Proofs.YtlejldaennlfaayGreatDoor.Wa
open Go.Proofs.YtlejldaennlfaayGreatDoor.TxW (ok_any)
open Go.Proofs.YtlejldaennlfaayGreatDoor.Read (Errs)
set_option linter.unusedSimpArgs false
set_option linter.unusedVariables false

theorem av_out : Av true := rfl
theorem anew_out (s : ByteArray) (w : World) (bt bb : Nat) (es : List (Int × Int)) (ht : Two w bt bb es) (hg : GoodE es) (herr : Errs w) :
    Calls Tryz.prog 19 #[.string s, .func (.func 20) #[prtV bt bb] #[]] w fun e W' =>
      ∃ T, e = .returned (.string T) ∧ T.data.toList = (outP es (pieL s.data.toList) s.data.toList).2 ∧ Two W' bt bb (outP es (pieL s.data.toList) s.data.toList).1 ∧ But2 bt bb w W' :=
  (callsIn_wide (n := 9)).1 (anew_x 9 (by omega) true av_out s w bt bb es ht hg herr)

set_option maxRecDepth 8000 in
set_option maxHeartbeats 4000000 in
theorem tout_any (W : World) (v : Value) (m : List (Int × Int × Int)) (hm : IsM W v m) (s : ByteArray) (herr : Errs W) :
    Calls Tryz.prog 7 #[v, .string s] W fun r W' => ∃ v' T, r = .returned (.tuple #[v', .string T]) ∧ W'.ownsRow W.heap.size 42 3 v' (tOut m s.data.toList).1.length (cellsM (tOut m s.data.toList).1) ∧ T.data.toList = (tOut m s.data.toList).2 ∧ Below W.heap.size W W' := by
  cases hok : okM m
  · have ht : tOut m s.data.toList = ([], []) := by unfold tOut; rw [if_neg (by rw [hok]; exact fun h => Bool.false_ne_true h.1)]
    rw [ht]
    go_enter Tryz.func7, Tryz.ntmps7
    go_wp2_with fail
    refine (read_no _ v m hm hok).mono ?_
    rintro r w1 ⟨rfl, k1⟩
    go_wp2
    refine bodyPost_ret (v := .tuple #[.slice none 0 0, .string ⟨#[]⟩]) (by simp [results, Tryz.results7, go_sem]) rfl ?_
    exact ⟨_, _, rfl, World.ownsRow_nil _ _ _ _, rfl, k1.alloc k1.size _⟩
  · have hg := (okM_out m hok).1
    cases hs : okB s.data.toList
    · have ht : tOut m s.data.toList = ([], []) := by unfold tOut; rw [if_neg (by rw [hs]; exact fun h => Bool.false_ne_true h.2)]
      rw [ht]
      go_enter Tryz.func7, Tryz.ntmps7
      go_wp2_with fail
      refine (read_yes _ v m hm hok).mono ?_
      rintro r w1 ⟨bt, bb, rfl, t1, hbt, hbb, k1⟩
      go_wp2_with fail
      refine (ok_any s _).mono ?_
      rintro r w2 ⟨rfl, rfl⟩
      rw [hs]
      go_wp2
      refine bodyPost_ret (v := .tuple #[.slice none 0 0, .string ⟨#[]⟩]) (by simp [results, Tryz.results7, go_sem]) rfl ?_
      exact ⟨_, _, rfl, World.ownsRow_nil _ _ _ _, rfl, k1.alloc k1.size _⟩
    · have ht : tOut m s.data.toList = (prs (outP (m.map Prod.snd) (pieL s.data.toList) s.data.toList).1, (outP (m.map Prod.snd) (pieL s.data.toList) s.data.toList).2) := by unfold tOut; rw [if_pos ⟨hok, hs⟩]
      rw [ht]
      clear ht
      have hgo := outP_good (m.map Prod.snd) (pieL s.data.toList) s.data.toList hg
      go_enter Tryz.func7, Tryz.ntmps7
      go_wp2_with fail
      refine (read_yes _ v m hm hok).mono ?_
      rintro r w1 ⟨bt, bb, rfl, t1, hbt, hbb, k1⟩
      have bB : Below w1.heap.size w1 (w1.alloc (.cells #[.map (some bt), .map (some bb)] 52)) := (Below.refl _ _).alloc (Nat.le_refl _) _
      have hlt := t1.lt
      have b1 := k1.trans (bB.mono k1.size)
      have herr1 := herr.below b1
      have t2 := t1.below bB
      have z1 := k1.size
      go_wp2_with fail
      refine (ok_any s _).mono ?_
      rintro r w2 ⟨rfl, rfl⟩
      rw [hs]
      go_wp2_with fail
      refine (anew_out s _ bt bb _ t2 hg herr1).mono ?_
      rintro r w3 ⟨T, rfl, hT, t3, k3⟩
      have z3 := k3.size
      simp at z3
      have b3 := b1.trans (k3.below (by omega) (by omega) (by simp; omega))
      have l0 : w3.cell? ⟨w1.heap.size, 0, none⟩ = some (.map (some bt)) := (k3.cell (p := ⟨w1.heap.size, 0, none⟩) (by simp) (by simp; omega) (by simp; omega)).trans (by simp)
      have l1 : w3.cell? ⟨w1.heap.size, 1, none⟩ = some (.map (some bb)) := (k3.cell (p := ⟨w1.heap.size, 1, none⟩) (by simp) (by simp; omega) (by simp; omega)).trans (by simp)
      clear k3 t2 t1 k1 bB
      go_wp2_with fail
      refine (list_any _ bt bb _ t3 hgo.len).mono ?_
      rintro r w4 ⟨v', rfl, hr, k4⟩
      have b4 := b3.trans (k4.mono b3.size)
      go_wp2
      refine bodyPost_ret (v := .tuple #[v', .string T]) (by simp [results, Tryz.results7, go_sem]) rfl ?_
      exact ⟨_, _, rfl, ownsRow_base hr b3.size, hT, b4⟩

end Go.Proofs.YtlejldaennlfaayGreatDoor.Mt

/- Walks: MapTextOut and MapTextIn of the program. -/
import Derived.Test.YtlejldaennlfaayDoorWa
import Derived.Test.YtlejldaennlfaayDoorMlMi
namespace Go.Proofs.YtlejldaennlfaayDoor.Mt
open Go.RowKit Go.Proofs.YtlejldaennlfaayDoor.Kit Go.Proofs.YtlejldaennlfaayDoor.Mp Go.Proofs.YtlejldaennlfaayDoor.Mj Go.Proofs.YtlejldaennlfaayDoor.Mk Go.Proofs.YtlejldaennlfaayDoor.Mg Go.Proofs.YtlejldaennlfaayDoor.Mm Go.Proofs.YtlejldaennlfaayDoor.Ml Go.Proofs.YtlejldaennlfaayDoor.Tx Go.Proofs.YtlejldaennlfaayDoor.App Go.Proofs.YtlejldaennlfaayDoor.Wa
open Go.Proofs.YtlejldaennlfaayDoor.TxW (ok_any)
open Go.Proofs.YtlejldaennlfaayDoor.Read (Errs)
set_option linter.unusedSimpArgs false
set_option linter.unusedVariables false

theorem av_in : Av false := rfl

theorem anew_in (s : ByteArray) (w : World) (bt bb : Nat) (es : List (Int × Int)) (ht : Two w bt bb es) (hg : GoodE es) (herr : Errs w) :
    Calls Tryd.prog 15 #[.string s, .func (.func 16) #[prtV bt bb] #[]] w fun e W' =>
      ∃ T, e = .returned (.string T) ∧ T.data.toList = inP es (pieL s.data.toList) s.data.toList ∧ Two W' bt bb es ∧ But2 bt bb w W' :=
  (callsIn_wide (n := 9)).1 (anew_x 9 (by omega) false av_in s w bt bb es ht hg herr)

theorem tin_eq (m : List (Int × Int × Int)) (l : List UInt8) (h : okM m = true) : tIn m l = inP (m.map Prod.snd) (pieL l) l := by
  unfold tIn
  cases hs : okB l
  · rw [if_neg (fun h => by cases h.2), pie_no _ hs]; rfl
  · rw [if_pos ⟨h, rfl⟩]

set_option maxRecDepth 8000 in
set_option maxHeartbeats 4000000 in
theorem tin_any (W : World) (v : Value) (m : List (Int × Int × Int)) (hm : IsM W v m) (s : ByteArray) (herr : Errs W) :
    Calls Tryd.prog 7 #[v, .string s] W fun r W' => ∃ T, r = .returned (.string T) ∧ T.data.toList = tIn m s.data.toList ∧ Below W.heap.size W W' := by
  cases hok : okM m
  · have ht : tIn m s.data.toList = [] := by unfold tIn; rw [if_neg (by rw [hok]; exact fun h => Bool.false_ne_true h.1)]
    rw [ht]
    go_enter Tryd.func7, Tryd.ntmps7
    go_wp2_with fail
    refine (read_no _ v m hm hok).mono ?_
    rintro r w1 ⟨rfl, k1⟩
    go_wp2
    go_ret
    exact ⟨_, rfl, rfl, k1.alloc k1.size _⟩
  · have hg := (okM_out m hok).1
    rw [tin_eq m _ hok]
    go_enter Tryd.func7, Tryd.ntmps7
    go_wp2_with fail
    refine (read_yes _ v m hm hok).mono ?_
    rintro r w1 ⟨bt, bb, rfl, t1, hbt, hbb, k1⟩
    have bB : Below w1.heap.size w1 (w1.alloc (.cells #[.map (some bt), .map (some bb)] 49)) := (Below.refl _ _).alloc (Nat.le_refl _) _
    have hlt := t1.lt
    have b1 := k1.trans (bB.mono k1.size)
    have herr1 := herr.below b1
    have t2 := t1.below bB
    have z1 := k1.size
    go_wp2_with fail
    refine (anew_in s _ bt bb _ t2 hg herr1).mono ?_
    rintro r w3 ⟨T, rfl, hT, t3, k3⟩
    have b3 := b1.trans (k3.below (by omega) (by omega) (by simp; omega))
    go_wp2
    go_ret
    exact ⟨_, rfl, hT, b3⟩
end Go.Proofs.YtlejldaennlfaayDoor.Mt

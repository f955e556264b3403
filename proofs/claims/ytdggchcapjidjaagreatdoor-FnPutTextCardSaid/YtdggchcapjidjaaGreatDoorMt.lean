/- Walks: MapTextOut and MapTextIn of the program. -/
import Derived.Test.YtdggchcapjidjaaGreatDoorWa
import Derived.Test.YtdggchcapjidjaaGreatDoorMlMi
namespace Go.Proofs.YtdggchcapjidjaaGreatDoor.Mt
open Go.RowKit Go.Proofs.YtdggchcapjidjaaGreatDoor.Kit Go.Proofs.YtdggchcapjidjaaGreatDoor.Mp Go.Proofs.YtdggchcapjidjaaGreatDoor.Mj Go.Proofs.YtdggchcapjidjaaGreatDoor.Mk Go.Proofs.YtdggchcapjidjaaGreatDoor.Mg Go.Proofs.YtdggchcapjidjaaGreatDoor.Mm Go.Proofs.YtdggchcapjidjaaGreatDoor.Ml Go.Proofs.YtdggchcapjidjaaGreatDoor.Tx Go.Proofs.YtdggchcapjidjaaGreatDoor.App Go.Proofs.YtdggchcapjidjaaGreatDoor.Wa
open Go.Proofs.YtdggchcapjidjaaGreatDoor.TxW (ok_any)
open Go.Proofs.YtdggchcapjidjaaGreatDoor.Read (Errs)
set_option linter.unusedSimpArgs false
set_option linter.unusedVariables false

theorem av_out : Av true := trivial
theorem av_in : Av false := trivial
theorem anew_out (s : ByteArray) (w : World) (bt bb : Nat) (es : List (Int × Int)) (ht : Two w bt bb es) (hg : GoodE es) (herr : Errs w) :
    Calls Tryz.prog 41 #[.string s, .func (.func 43) #[prtV bt bb] #[]] w fun e W' =>
      ∃ T, e = .returned (.string T) ∧ T.data.toList = (outP es (pieL s.data.toList) s.data.toList).2 ∧ Two W' bt bb (outP es (pieL s.data.toList) s.data.toList).1 ∧ But2 bt bb w W' :=
  (callsIn_wide (n := 9)).1 (anew_x 9 (by omega) true av_out s w bt bb es ht hg herr)

set_option maxRecDepth 8000 in
set_option maxHeartbeats 4000000 in
theorem tout_any (W : World) (v : Value) (m : List (Int × Int × Int)) (hm : IsM W v m) (s : ByteArray) (herr : Errs W) :
    Calls Tryz.prog 21 #[v, .string s] W fun r W' => ∃ v' T, r = .returned (.tuple #[v', .string T]) ∧ W'.ownsRow W.heap.size 76 3 v' (tOut m s.data.toList).1.length (cellsM (tOut m s.data.toList).1) ∧ T.data.toList = (tOut m s.data.toList).2 ∧ Below W.heap.size W W' := by
  cases hok : okM m
  · have ht : tOut m s.data.toList = ([], []) := by unfold tOut; rw [if_neg (by rw [hok]; exact fun h => Bool.false_ne_true h.1)]
    rw [ht]
    go_enter Tryz.func21, Tryz.ntmps21
    go_wp2_with fail
    refine (read_no _ v m hm hok).mono ?_
    rintro r w1 ⟨rfl, k1⟩
    go_wp2
    refine bodyPost_ret (v := .tuple #[.slice none 0 0, .string ⟨#[]⟩]) (by simp [results, Tryz.results21, go_sem]) rfl ?_
    exact ⟨_, _, rfl, World.ownsRow_nil _ _ _ _, rfl, k1.alloc k1.size _⟩
  · have hg := (okM_out m hok).1
    cases hs : okB s.data.toList
    · have ht : tOut m s.data.toList = ([], []) := by unfold tOut; rw [if_neg (by rw [hs]; exact fun h => Bool.false_ne_true h.2)]
      rw [ht]
      go_enter Tryz.func21, Tryz.ntmps21
      go_wp2_with fail
      refine (read_yes _ v m hm hok).mono ?_
      rintro r w1 ⟨bt, bb, rfl, t1, hbt, hbb, k1⟩
      go_wp2_with fail
      refine (ok_any s _).mono ?_
      rintro r w2 ⟨rfl, rfl⟩
      rw [hs]
      go_wp2
      refine bodyPost_ret (v := .tuple #[.slice none 0 0, .string ⟨#[]⟩]) (by simp [results, Tryz.results21, go_sem]) rfl ?_
      exact ⟨_, _, rfl, World.ownsRow_nil _ _ _ _, rfl, k1.alloc k1.size _⟩
    · have ht : tOut m s.data.toList = (prs (outP (m.map Prod.snd) (pieL s.data.toList) s.data.toList).1, (outP (m.map Prod.snd) (pieL s.data.toList) s.data.toList).2) := by unfold tOut; rw [if_pos ⟨hok, hs⟩]
      rw [ht]
      clear ht
      have hgo := outP_good (m.map Prod.snd) (pieL s.data.toList) s.data.toList hg
      go_enter Tryz.func21, Tryz.ntmps21
      go_wp2_with fail
      refine (read_yes _ v m hm hok).mono ?_
      rintro r w1 ⟨bt, bb, rfl, t1, hbt, hbb, k1⟩
      have bB : Below w1.heap.size w1 (w1.alloc (.cells #[.map (some bt), .map (some bb)] 57)) := (Below.refl _ _).alloc (Nat.le_refl _) _
      have hlt := t1.lt
      have b1 := k1.trans (bB.mono k1.size)
      have herr1 := herr.below b1
      have t2 := t1.below bB
      have z1 := k1.size
      go_wp2_with fail
      refine (ok_any s _).mono ?_
      rintro r w2 ⟨rfl, rfl⟩
      rw [hs]
      go_wp2_with fail
      refine (anew_out s _ bt bb _ t2 hg herr1).mono ?_
      rintro r w3 ⟨T, rfl, hT, t3, k3⟩
      have z3 := k3.size
      simp at z3
      have b3 := b1.trans (k3.below (by omega) (by omega) (by simp; omega))
      have l0 : w3.cell? ⟨w1.heap.size, 0, none⟩ = some (.map (some bt)) := (k3.cell (p := ⟨w1.heap.size, 0, none⟩) (by simp) (by simp; omega) (by simp; omega)).trans (by simp)
      have l1 : w3.cell? ⟨w1.heap.size, 1, none⟩ = some (.map (some bb)) := (k3.cell (p := ⟨w1.heap.size, 1, none⟩) (by simp) (by simp; omega) (by simp; omega)).trans (by simp)
      clear k3 t2 t1 k1 bB
      go_wp2_with fail
      refine (list_any _ bt bb _ t3 hgo.len).mono ?_
      rintro r w4 ⟨v', rfl, hr, k4⟩
      have b4 := b3.trans (k4.mono b3.size)
      go_wp2
      refine bodyPost_ret (v := .tuple #[v', .string T]) (by simp [results, Tryz.results21, go_sem]) rfl ?_
      exact ⟨_, _, rfl, ownsRow_base hr b3.size, hT, b4⟩

theorem anew_in (s : ByteArray) (w : World) (bt bb : Nat) (es : List (Int × Int)) (ht : Two w bt bb es) (hg : GoodE es) (herr : Errs w) :
    Calls Tryz.prog 41 #[.string s, .func (.func 42) #[prtV bt bb] #[]] w fun e W' =>
      ∃ T, e = .returned (.string T) ∧ T.data.toList = inP es (pieL s.data.toList) s.data.toList ∧ Two W' bt bb es ∧ But2 bt bb w W' :=
  (callsIn_wide (n := 9)).1 (anew_x 9 (by omega) false av_in s w bt bb es ht hg herr)

theorem tin_eq (m : List (Int × Int × Int)) (l : List UInt8) (h : okM m = true) : tIn m l = inP (m.map Prod.snd) (pieL l) l := by
  unfold tIn
  cases hs : okB l
  · rw [if_neg (fun h => by cases h.2), pie_no _ hs]; rfl
  · rw [if_pos ⟨h, rfl⟩]

set_option maxRecDepth 8000 in
set_option maxHeartbeats 4000000 in
theorem tin_any (W : World) (v : Value) (m : List (Int × Int × Int)) (hm : IsM W v m) (s : ByteArray) (herr : Errs W) :
    Calls Tryz.prog 20 #[v, .string s] W fun r W' => ∃ T, r = .returned (.string T) ∧ T.data.toList = tIn m s.data.toList ∧ Below W.heap.size W W' := by
  cases hok : okM m
  · have ht : tIn m s.data.toList = [] := by unfold tIn; rw [if_neg (by rw [hok]; exact fun h => Bool.false_ne_true h.1)]
    rw [ht]
    go_enter Tryz.func20, Tryz.ntmps20
    go_wp2_with fail
    refine (read_no _ v m hm hok).mono ?_
    rintro r w1 ⟨rfl, k1⟩
    go_wp2
    go_ret
    exact ⟨_, rfl, rfl, k1.alloc k1.size _⟩
  · have hg := (okM_out m hok).1
    rw [tin_eq m _ hok]
    go_enter Tryz.func20, Tryz.ntmps20
    go_wp2_with fail
    refine (read_yes _ v m hm hok).mono ?_
    rintro r w1 ⟨bt, bb, rfl, t1, hbt, hbb, k1⟩
    have bB : Below w1.heap.size w1 (w1.alloc (.cells #[.map (some bt), .map (some bb)] 57)) := (Below.refl _ _).alloc (Nat.le_refl _) _
    have hlt := t1.lt
    have b1 := k1.trans (bB.mono k1.size)
    have herr1 := herr.below b1
    have t2 := t1.below bB
    have z1 := k1.size
    go_wp2_with fail
    refine (anew_in s _ bt bb _ t2 hg herr1).mono ?_
    rintro r w3 ⟨T, rfl, hT, t3, k3⟩
    have b3 := b1.trans (k3.below (by omega) (by omega) (by simp; omega))
    go_wp2
    go_ret
    exact ⟨_, rfl, hT, b3⟩
end Go.Proofs.YtdggchcapjidjaaGreatDoor.Mt

/- Walks: a packet is read from its text, by the program. -/
import Derived.Test.YtnjggammbebpkaaGreatDoorPkP
import Derived.Test.YtnjggammbebpkaaGreatDoorIs
import Derived.Deep.Cut
namespace Go.Proofs.YtnjggammbebpkaaGreatDoor.PkR
open Go.RowKit Go.Shelf Go.Proofs.YtnjggammbebpkaaGreatDoor.Kit Go.Proofs.YtnjggammbebpkaaGreatDoor.Pk
open Go.Proofs.YtnjggammbebpkaaGreatDoor.Spl (wsOf splitN_any)
set_option linter.unusedVariables false
set_option linter.unusedSimpArgs false

/-- a text that is no packet's -/
def None' (s : ByteArray) : Prop := ∀ k a b c d n t, pktB k a b c d n t = true → s.data.toList ≠ pktL k a b c d n t

theorem words_any (s : ByteArray) (hs : s.size ≤ 1000) (N g : Nat) (p : Addr) (w : World) (hG : Glob w p) (hc : ∀ j x, (wsOf s)[j]? = some x → w.cell? ⟨g, j, none⟩ = some (.string x)) :
    Calls Tryz.prog 40 #[.slice (some ⟨g, 0, none⟩) (wsOf s).length N] w fun e w' => ∃ k a b c d n t ev, e = .returned (.tuple #[pktV k a b c d n t, ev]) ∧ Below w.heap.size w w' ∧
      ((ev = .nilIface ∧ ∃ w0 w1 w2 w3 r, wsOf s = w0 :: w1 :: w2 :: w3 :: r ∧ Good w0 w1 w2 w3 r k a b c d n t) ∨ (ev = errV p ∧ None' s)) := by
  have hsm := ws_small s
  have hl := ws_len s
  have few := few_none s
  have bad := fun w0 w1 w2 w3 r hw h => bad_none s w0 w1 w2 w3 r hw h
  generalize hw : wsOf s = ws at *
  by_cases h4 : ws.length < 4
  · refine (words_few ws.length N g p w hG (by omega)).mono ?_
    rintro e w' ⟨rfl, k⟩
    exact ⟨_, _, _, _, _, _, _, _, rfl, k, .inr ⟨rfl, few h4⟩⟩
  · match ws, h4, hl, hsm, hc with
    | [w0, w1, w2, w3], _, _, hsm, hc =>
      refine (words_four w0 w1 w2 w3 N g p w hG (by have := hsm w1 (by simp); omega) (by have := hsm w2 (by simp); omega) (by have := hsm w3 (by simp); omega) (hc 0 _ rfl) (hc 1 _ rfl) (hc 2 _ rfl) (hc 3 _ rfl)).mono ?_
      rintro e w' ⟨k, a, b, c, d, n, t, ev, rfl, kk, H⟩
      refine ⟨_, _, _, _, _, _, _, _, rfl, kk, ?_⟩
      rcases H with ⟨h1, h2⟩ | ⟨h1, h2⟩
      · exact .inl ⟨h1, _, _, _, _, _, rfl, h2⟩
      · exact .inr ⟨h1, bad _ _ _ _ _ rfl h2⟩
    | [w0, w1, w2, w3, w4], _, _, hsm, hc =>
      refine (words_five w0 w1 w2 w3 w4 N g p w hG (by have := hsm w1 (by simp); omega) (by have := hsm w2 (by simp); omega) (by have := hsm w3 (by simp); omega) (hc 0 _ rfl) (hc 1 _ rfl) (hc 2 _ rfl) (hc 3 _ rfl) (hc 4 _ rfl)).mono ?_
      rintro e w' ⟨k, a, b, c, d, n, t, ev, rfl, kk, H⟩
      refine ⟨_, _, _, _, _, _, _, _, rfl, kk, ?_⟩
      rcases H with ⟨h1, h2⟩ | ⟨h1, h2⟩
      · exact .inl ⟨h1, _, _, _, _, _, rfl, h2⟩
      · exact .inr ⟨h1, bad _ _ _ _ _ rfl h2⟩
    | [], h, _, _, _ => exact absurd (by simp) h
    | [_], h, _, _, _ => exact absurd (by simp) h
    | [_, _], h, _, _, _ => exact absurd (by simp) h
    | [_, _, _], h, _, _, _ => exact absurd (by simp) h
    | _ :: _ :: _ :: _ :: _ :: _ :: _, _, h, _, _ => exact absurd h (by simp)

theorem told_none {s : ByteArray} (h : None' s) : PTold s 0 0 0 0 0 0 ⟨#[]⟩ false := .inr ⟨rfl, ⟨rfl, rfl, rfl, rfl, rfl, rfl, rfl⟩, h⟩

/-- what readPkt tells -/
def ErrOf (p : Addr) (B : Bool) : Value := if B then .nilIface else errV p

set_option maxHeartbeats 1000000 in
theorem readPkt_great (s : ByteArray) (p : Addr) (w : World) (hs : (70 : Int) < s.size) (hG : Glob w p) :
    Calls Tryz.prog 22 #[.string s] w fun e w' => e = .returned (.tuple #[pktV 0 0 0 0 0 0 ⟨#[]⟩, errV p]) ∧ Below w.heap.size w w' := by
  have hno := hG.no
  have hlt := blk hG.no
  simp at hlt
  clear hG
  go_enter Tryz.func22, Tryz.ntmps22
  go_wp2
  go_region
  all_goals
    go_wp2
    refine bodyPost_ret (v := .tuple #[pktV 0 0 0 0 0 0 ⟨#[]⟩, errV p]) ?_ rfl ?_
    · simp [results, Tryz.results22, go_sem]
    · refine ⟨rfl, ?_⟩
      repeat (first | (with_reducible refine Below.drew ?_) | (with_reducible refine Below.setCell ?_ (by simp) _))
      exact (Below.refl _ _).alloc (Nat.le_refl _) _

set_option maxRecDepth 8000 in
set_option maxHeartbeats 4000000 in
theorem readPkt_any (s : ByteArray) (hm : s.size ≤ 1073741824) (p : Addr) (w : World) (hG : Glob w p) :
    Calls Tryz.prog 22 #[.string s] w fun e w' => ∃ k a b c d n t B, e = .returned (.tuple #[pktV k a b c d n t, ErrOf p B]) ∧ Below w.heap.size w w' ∧ PTold s k a b c d n t B := by
  by_cases hs : (70 : Int) < s.size
  · refine (readPkt_great s p w hs hG).mono ?_
    rintro e w' ⟨rfl, k⟩
    exact ⟨_, _, _, _, _, _, _, false, rfl, k, told_none (great_none s (by omega))⟩
  · have hs' : (s.size : Int) ≤ 70 := by omega
    have bel0 : Below w.heap.size w (w.alloc (.cells #[.int .i64 0, .int .i64 0, .int .i64 0, .int .i64 0, .int .i64 0, .int .i64 0, .string ⟨#[]⟩] 26)) := (Below.refl _ _).alloc (Nat.le_refl _) _
    have belS := bel0.alloc (by simp) (.cells (Lib.cellsOf (wsOf s) (min 5 (s.size + 1))) 9)
    have HG := (show Hid (Glob w p) from hG)
    have g0 : w.cell? ⟨0, 0, none⟩ = some (errV p) := hG.no
    have lg : 0 < w.heap.size := blk g0
    clear hG
    have HW := words_any s (by omega) (min 5 (s.size + 1)) (w.heap.size + 1) p _ (HG.out.below belS) (fun j x h => by have := ws_cell (w.alloc (.cells #[.int .i64 0, .int .i64 0, .int .i64 0, .int .i64 0, .int .i64 0, .int .i64 0, .string ⟨#[]⟩] 26)) s 9 j x h; simpa using this)
    have HSP := splitN_any s (by omega) (w.alloc (.cells #[.int .i64 0, .int .i64 0, .int .i64 0, .int .i64 0, .int .i64 0, .int .i64 0, .string ⟨#[]⟩] 26))
    clear HG
    go_enter Tryz.func22, Tryz.ntmps22
    go_wp2_with fail
    refine HSP.mono ?_
    rintro e w1 ⟨rfl, rfl⟩
    clear HSP
    go_wp2_with fail
    refine HW.mono ?_
    rintro e w2 ⟨k, a, b, c, d, n, t, ev, rfl, k2, H⟩
    clear HW
    have z2 := k2.size
    simp at z2
    have r2 : ∀ j, w2.cell? ⟨w.heap.size, j, none⟩ = (w.alloc (.cells #[.int .i64 0, .int .i64 0, .int .i64 0, .int .i64 0, .int .i64 0, .int .i64 0, .string ⟨#[]⟩] 26)).cell? ⟨w.heap.size, j, none⟩ := fun j => by
      rw [keepc k2 w.heap.size (by simp; omega) j]; exact ((Below.refl _ _).alloc (Nat.le_refl _) _).cell (p := ⟨w.heap.size, j, none⟩) (by simp)
    have f2 : ∀ j, w2.frozen? ⟨w.heap.size, j, none⟩ = (w.alloc (.cells #[.int .i64 0, .int .i64 0, .int .i64 0, .int .i64 0, .int .i64 0, .int .i64 0, .string ⟨#[]⟩] 26)).frozen? ⟨w.heap.size, j, none⟩ := fun j => by
      rw [keepf k2 w.heap.size (by simp; omega) j]; exact ((Below.refl _ _).alloc (Nat.le_refl _) _).frozen (p := ⟨w.heap.size, j, none⟩) (by simp)
    have bel2 := belS.trans (k2.mono (by simp; omega))
    have eP := (Below.refl w2.heap.size w2).alloc (Nat.le_refl _) (.cells #[.int .i64 k, .int .i64 a, .int .i64 b, .int .i64 c, .int .i64 d, .int .i64 n, .string t] 26)
    have lw : w.heap.size < w2.heap.size := by omega
    have HB2 := (show Hid (Below w.heap.size w w2) from bel2)
    have HB3 := (show Hid (Below w.heap.size w (w2.alloc (.cells #[.int .i64 k, .int .i64 a, .int .i64 b, .int .i64 c, .int .i64 d, .int .i64 n, .string t] 26))) from bel2.alloc (by omega) _)
    clear k2 bel0 belS bel2
    rcases H with ⟨rfl, w0', w1', w2', w3', r, hw, hgood⟩ | ⟨rfl, hnone⟩
    · have g2 := (HB3.out.cell (p := ⟨0, 0, none⟩) lg).trans g0
      have r3 := fun j => (keepc eP w.heap.size lw j).trans (r2 j)
      have f3 := fun j => (keepf eP w.heap.size lw j).trans (f2 j)
      obtain ⟨S, hS⟩ : ∃ S, pktS k a b c d n t = S := ⟨_, rfl⟩
      have HYES := (show Hid (S = s → PTold s k a b c d n t true) from fun e => by
        have := good_yes s w0' w1' w2' w3' r hw (hS.trans e)
        exact .inl ⟨rfl, this.1, this.2⟩)
      have HNO := (show Hid (S ≠ s → None' s) from fun e => good_no s w0' w1' w2' w3' r hw hgood (by rw [hS]; exact e))
      have HT := pktText_is k a b c d n t S hS
      clear hw hgood hS
      go_wp2_with fail
      refine (HT _).mono ?_
      rintro e w3 ⟨rfl, k3⟩
      have z3 := k3.size
      simp at z3
      have r4 := fun j => (keepc k3 w.heap.size (by simp; omega) j).trans (r3 j)
      have f4 := fun j => (keepf k3 w.heap.size (by simp; omega) j).trans (f3 j)
      have q4 := keepc k3 w2.heap.size (by simp)
      have lw3 : w.heap.size < w3.heap.size := by omega
      have HB4 := (show Hid (Below w.heap.size w w3) from HB3.out.trans (k3.mono (by simp; omega)))
      have g4 := (k3.cell (p := ⟨0, 0, none⟩) (by first | (simp; done) | (simp; omega))).trans g2
      have C0 : w3.cell? ⟨w2.heap.size, 0, none⟩ = some (.int .i64 k) := by rw [q4]; simp
      have C1 : w3.cell? ⟨w2.heap.size, 1, none⟩ = some (.int .i64 a) := by rw [q4]; simp
      have C2 : w3.cell? ⟨w2.heap.size, 2, none⟩ = some (.int .i64 b) := by rw [q4]; simp
      have C3 : w3.cell? ⟨w2.heap.size, 3, none⟩ = some (.int .i64 c) := by rw [q4]; simp
      have C4 : w3.cell? ⟨w2.heap.size, 4, none⟩ = some (.int .i64 d) := by rw [q4]; simp
      have C5 : w3.cell? ⟨w2.heap.size, 5, none⟩ = some (.int .i64 n) := by rw [q4]; simp
      have C6 : w3.cell? ⟨w2.heap.size, 6, none⟩ = some (.string t) := by rw [q4]; simp
      clear k3 q4 r2 f2 r3 f3 eP HB2 HB3 HT g0 g2
      by_cases hq : S = s
      · have HP := (show Hid (PTold s k a b c d n t true) from HYES.out hq)
        subst hq
        clear HYES HNO g4
        go_wp2
        refine bodyPost_ret (v := .tuple #[pktV k a b c d n t, .nilIface]) ?_ rfl ?_
        · simp [results, Tryz.results22, go_sem, r4]
        · refine ⟨_, _, _, _, _, _, _, true, rfl, ?_, HP.out⟩
          repeat (first | (with_reducible refine Below.drew ?_) | (with_reducible refine Below.setCell ?_ (by simp) _))
          exact HB4.out
      · have HP := (show Hid (PTold s 0 0 0 0 0 0 ⟨#[]⟩ false) from told_none (HNO.out hq))
        have hb : (S.toList == s.toList) = false := by
          rw [beq_eq_false_iff_ne]
          intro e
          apply hq
          apply Spl.ext_list
          rw [ByteArray.toList_eq, ByteArray.toList_eq] at e
          exact e
        clear HYES HNO hq C0 C1 C2 C3 C4 C5 C6
        go_upto_region 7 with fail
        go_region
        all_goals
          go_wp2
          refine bodyPost_ret (v := .tuple #[pktV 0 0 0 0 0 0 ⟨#[]⟩, errV p]) ?_ rfl ?_
          · simp [results, Tryz.results22, go_sem, r4]
          · refine ⟨_, _, _, _, _, _, _, false, rfl, ?_, HP.out⟩
            repeat (first | (with_reducible refine Below.drew ?_) | (with_reducible refine Below.setCell ?_ (by simp) _))
            exact HB4.out
    · have HP := (show Hid (PTold s 0 0 0 0 0 0 ⟨#[]⟩ false) from told_none hnone)
      clear hnone eP g0 HB3
      go_wp2
      refine bodyPost_ret (v := .tuple #[pktV 0 0 0 0 0 0 ⟨#[]⟩, errV p]) ?_ rfl ?_
      · have hne : w.heap.size ≠ w2.heap.size := Nat.ne_of_lt lw
        have old : ∀ (W : World) (o : Obj) (j : Nat), W.heap.size = w2.heap.size → (W.alloc o).cell? ⟨w.heap.size, j, none⟩ = W.cell? ⟨w.heap.size, j, none⟩ := fun W o j hW => World.cell?_alloc_old _ _ _ (by show w.heap.size ≠ W.heap.size; rw [hW]; exact hne)
        simp [results, Tryz.results22, go_sem, r2, old]
      · refine ⟨_, _, _, _, _, _, _, false, rfl, ?_, HP.out⟩
        repeat (first | (with_reducible refine Below.drew ?_) | (with_reducible refine Below.setCell ?_ (by simp) _) | (with_reducible refine Below.alloc ?_ (by simp [World.setCell] <;> omega) _))
        exact HB2.out

set_option maxRecDepth 8000 in
set_option maxHeartbeats 4000000 in
/-- PktRead answers the packet whose text this is; nothing and false, if it is of none -/
theorem pktRead (s : ByteArray) (hm : s.size ≤ 1073741824) (p : Addr) (w : World) (hG : Glob w p) :
    Calls Tryz.prog 9 #[.string s] w fun e w' => ∃ k a b c d n t B, e = .returned (.tuple #[pktV k a b c d n t, .bool B]) ∧ Below w.heap.size w w' ∧ PTold s k a b c d n t B := by
  have bel0 : Below w.heap.size w (w.alloc (.cells #[.int .i64 0, .int .i64 0, .int .i64 0, .int .i64 0, .int .i64 0, .int .i64 0, .string ⟨#[]⟩] 26)) := (Below.refl _ _).alloc (Nat.le_refl _) _
  have g0 : w.cell? ⟨0, 0, none⟩ = some (errV p) := hG.no
  have lg : 0 < w.heap.size := blk g0
  have HR := readPkt_any s hm p _ (hG.below bel0)
  clear hG
  go_enter Tryz.func9, Tryz.ntmps9
  go_wp2_with fail
  refine HR.mono ?_
  rintro e w1 ⟨k, a, b, c, d, n, t, B, rfl, k1, T⟩
  clear HR
  have HP := (show Hid (PTold s k a b c d n t B) from T)
  have z1 := k1.size
  simp at z1
  have r1 := keepc k1 w.heap.size (by simp)
  have f1 := keepf k1 w.heap.size (by simp)
  have bel1 := bel0.trans (k1.mono (by simp))
  have eP := (Below.refl w1.heap.size w1).alloc (Nat.le_refl _) (.cells #[.int .i64 k, .int .i64 a, .int .i64 b, .int .i64 c, .int .i64 d, .int .i64 n, .string t] 26)
  have r2 := fun j => (keepc eP w.heap.size (by omega) j).trans (r1 j)
  have f2 := fun j => (keepf eP w.heap.size (by omega) j).trans (f1 j)
  have HB := (show Hid (Below w.heap.size w (w1.alloc (.cells #[.int .i64 k, .int .i64 a, .int .i64 b, .int .i64 c, .int .i64 d, .int .i64 n, .string t] 26))) from bel1.alloc (by omega) _)
  have g2 := (HB.out.cell (p := ⟨0, 0, none⟩) lg).trans g0
  clear T k1 bel0 bel1 r1 f1 eP g0
  cases B
  · obtain ⟨rfl, rfl, rfl, rfl, rfl, rfl, rfl⟩ : k = 0 ∧ a = 0 ∧ b = 0 ∧ c = 0 ∧ d = 0 ∧ n = 0 ∧ t = ⟨#[]⟩ := by
      rcases HP.out with ⟨h, _⟩ | ⟨_, h, _⟩
      · cases h
      · exact h
    unfold ErrOf
    go_wp2_with (go_at_call 23; refine (Is.is_same p _).mono ?_; rintro e w3 ⟨rfl, rfl⟩)
    refine bodyPost_ret (v := .tuple #[pktV 0 0 0 0 0 0 ⟨#[]⟩, .bool false]) ?_ rfl ?_
    · simp [results, Tryz.results9, go_sem, r2]
    · refine ⟨_, _, _, _, _, _, _, false, rfl, ?_, HP.out⟩
      repeat (first | (with_reducible refine Below.drew ?_) | (with_reducible refine Below.setCell ?_ (by simp) _))
      exact HB.out
  · unfold ErrOf
    go_wp2_with (go_at_call 23; refine (Is.is_nil p _).mono ?_; rintro e w3 ⟨rfl, rfl⟩)
    refine bodyPost_ret (v := .tuple #[pktV k a b c d n t, .bool true]) ?_ rfl ?_
    · simp [results, Tryz.results9, go_sem, r2]
    · refine ⟨_, _, _, _, _, _, _, true, rfl, ?_, HP.out⟩
      repeat (first | (with_reducible refine Below.drew ?_) | (with_reducible refine Below.setCell ?_ (by simp) _))
      exact HB.out
end Go.Proofs.YtnjggammbebpkaaGreatDoor.PkR

/- The walk of the exact law on TextPieces: it answers true. -/
import Derived.Test.YtkpngmklcnmjmaxDoorExP
import Derived.Test.YtkpngmklcnmjmaxDoorLaid
namespace Go.Proofs.YtkpngmklcnmjmaxDoor.XPieces
open Go.RowKit Go.Proofs.YtkpngmklcnmjmaxDoor.Kit Go.Proofs.YtkpngmklcnmjmaxDoor.Tx Go.Proofs.YtkpngmklcnmjmaxDoor.LzP Go.Proofs.YtkpngmklcnmjmaxDoor.Lz Go.Proofs.YtkpngmklcnmjmaxDoor.Pcs Go.Proofs.YtkpngmklcnmjmaxDoor.ExE Go.Proofs.YtkpngmklcnmjmaxDoor.ExP Go.Proofs.YtkpngmklcnmjmaxDoor.App
open Go.Proofs.YtkpngmklcnmjmaxDoor.Read (Errs)
set_option linter.unusedVariables false

set_option maxHeartbeats 400000 in
theorem long (s : ByteArray) (w : World) (h : (1048576 : Int) < (s.size : Int)) :
    Calls Tryd.prog 3 #[.string s] w fun e w' => e = .returned (.bool true) ∧ Below w.heap.size w w' := by
  go_enter Tryd.func3, Tryd.ntmps3
  go_wp2
  go_ret
  exact ⟨rfl, Below.refl _ _⟩

theorem free_of {W : World} {g cap n : Nat} {cur : Array Value} {e : TypeId} (hg : W.heap[g]? = some (.cells cur e (0, 0))) (hnc : n ≤ cap) (hcs : cur.size = cap * 4) : Free W g (n * 4) := by
  intro j hj
  have hlt : j < cur.size := by rw [hcs]; omega
  constructor
  · simp [World.cell?, hg, Array.getElem?_eq_getElem hlt]
  · simp [World.frozen?, hg]
theorem marks_below {W W' : World} {g n : Nat} (h : MarksP W g n) (k : Below W.heap.size W W') : MarksP W' g n := fun j hj => (k.cell (p := ⟨g, j, none⟩) (blk (h j hj))).trans (h j hj)

set_option maxRecDepth 8000 in
set_option maxHeartbeats 4000000 in
theorem short (s : ByteArray) (w : World) (h : (s.size : Int) ≤ 1048576) (herr : Errs w) :
    Calls Tryd.prog 3 #[.string s] w fun e w' => e = .returned (.bool true) ∧ Below w.heap.size w w' := by
  obtain ⟨es, hes⟩ : ∃ es, pieL s.data.toList = es := ⟨_, rfl⟩
  have hel : es.length ≤ 40 := by rw [← hes]; exact len_pie0 _
  go_enter Tryd.func3, Tryd.ntmps3
  go_wp2_with fail
  refine (spieces_is _ _ hes (by omega) _).mono ?_
  rintro e w1 ⟨v1, rfl, hv1, k1⟩
  go_wp2_with fail
  refine (pieces_any s _ (herr.below k1)).mono ?_
  rintro e w2 ⟨v2, rfl, hr2, k2⟩
  rw [hes] at hr2
  go_wp2_with fail
  refine (eqP_true _ es (by omega) _ _ (isP_of_row hr2) (hv1.below k2)).mono ?_
  rintro e w3 ⟨rfl, k3⟩
  have hr3 := row_below hr2 k3
  have k13 := k2.trans (k3.mono k2.size)
  clear hr2 k2 k3
  rcases hr3.2 with ⟨rfl, h0⟩ | ⟨g, cap, cur, rfl, hbg, hg, hnc, _, hcs, _⟩
  · clear hr3
    go_wp2_with fail
    refine (ExP.mark_nil _ _ _).mono ?_
    rintro e w4 ⟨rfl, rfl⟩
    go_wp2_with fail
    refine (ExP.held_nil _ _ _).mono ?_
    rintro e w5 ⟨rfl, rfl⟩
    go_wp2_with fail
    refine (pieces_is _ _ hes _ ((herr.below k1).below k13)).mono ?_
    rintro e w6 ⟨v6, rfl, hv6, k6⟩
    have k16 := k13.trans (k6.mono k13.size)
    go_wp2_with fail
    refine (eqP_true _ es (by omega) _ _ hv6 (hv1.below k16)).mono ?_
    rintro e w7 ⟨rfl, k7⟩
    have k17 := k16.trans (k7.mono k16.size)
    go_wp2_with fail
    refine (ExP.held_nil _ _ _).mono ?_
    rintro e w8 ⟨rfl, rfl⟩
    go_wp2
    go_ret
    exact ⟨rfl, k1.trans (k17.mono k1.size)⟩
  · have hfr := free_of hg hnc hcs
    clear hr3 hcs hg
    have hz1 := k1.size
    go_wp2_with fail
    refine (ExP.mark_row _ g es.length cap (by omega) hfr).mono ?_
    rintro e w4 ⟨rfl, kb, hmk⟩
    have k14 := k13.trans (kb.below hbg)
    clear kb hfr k13
    go_wp2_with fail
    refine (ExP.held_row _ g es.length cap (by omega) hmk).mono ?_
    rintro e w5 ⟨rfl, rfl⟩
    go_wp2_with fail
    refine (pieces_is _ _ hes _ ((herr.below k1).below k14)).mono ?_
    rintro e w6 ⟨v6, rfl, hv6, k6⟩
    have k16 := k14.trans (k6.mono k14.size)
    have hmk6 := marks_below hmk k6
    clear hmk k14 k6
    go_wp2_with fail
    refine (eqP_true _ es (by omega) _ _ hv6 (hv1.below k16)).mono ?_
    rintro e w7 ⟨rfl, k7⟩
    have k17 := k16.trans (k7.mono k16.size)
    have hmk7 := marks_below hmk6 k7
    clear hmk6 k16 k7
    go_wp2_with fail
    refine (ExP.held_row _ g es.length cap (by omega) hmk7).mono ?_
    rintro e w8 ⟨rfl, rfl⟩
    go_wp2
    go_ret
    exact ⟨rfl, k1.trans (k17.mono k1.size)⟩
end Go.Proofs.YtkpngmklcnmjmaxDoor.XPieces

/- The laws' own comparison of pieces leaves the memory as it is. Pieces, split at a place between two. -/
import Derived.Test.YtkpngmklcnmjmacDoorLzE
namespace Go.Proofs.YtkpngmklcnmjmacDoor.LzQ
open Go.RowKit Go.Proofs.YtkpngmklcnmjmacDoor.Kit Go.Proofs.YtkpngmklcnmjmacDoor.Tx Go.Proofs.YtkpngmklcnmjmacDoor.Nm Go.Proofs.YtkpngmklcnmjmacDoor.Pcs Go.Proofs.YtkpngmklcnmjmacDoor.Lz Go.Proofs.YtkpngmklcnmjmacDoor.LzP Go.Proofs.YtkpngmklcnmjmacDoor.LzE
open Go.Proofs.YtkpngmklcnmjmacDoor.EndW (sideZ)
set_option linter.unusedSimpArgs false
set_option linter.unusedVariables false

theorem dd (w : World) (a b : Nat) : (w.drewN a).drewN b = w.drewN (a + b) := by
  simp [World.drewN, Nat.add_assoc]

set_option maxHeartbeats 4000000 in
theorem lq_nil (w : World) (c0 c1 : Nat) (a0 a1 : Option Addr) :
    Calls Tryd.prog 10 #[.slice a0 0 c0, .slice a1 0 c1] w fun e w' => e = .returned (.bool true) ∧ ∃ m, w' = w.drewN m := by
  go_enter Tryd.func10, Tryd.ntmps10
  go_wp2
  refine wp_loop_rounds 1 ?_
  rw [rounds_succ]
  go_wp2
  go_ret
  exact ⟨rfl, 0, rfl⟩

set_option maxRecDepth 8000 in
set_option maxHeartbeats 4000000 in
theorem lq_row (w : World) (ps : List Pc) (hm : ps.length ≤ 1000) (g0 o0 c0 g1 o1 c1 : Nat) (h0 : ∀ (i : Nat) (p : Pc), ps[i]? = some p → At4 w g0 (o0 + i * 4) p) (h1 : ∀ (i : Nat) (p : Pc), ps[i]? = some p → At4 w g1 (o1 + i * 4) p) :
    Calls Tryd.prog 10 #[.slice (some ⟨g0, o0, none⟩) ps.length c0, .slice (some ⟨g1, o1, none⟩) ps.length c1] w fun e w' => e = .returned (.bool true) ∧ ∃ m, w' = w.drewN m := by
  go_enter Tryd.func10, Tryd.ntmps10
  go_wp2
  go_loopw [5] (fun i wr => ∃ k m : Nat, k ≤ ps.length ∧ i = .int .i64 k ∧ wr = w.drewN m) (fun i wr => ps.length - (intOf i).toNat)
  case atStart => exact ⟨0, 0, Nat.zero_le _, rfl, rfl⟩
  case round =>
    obtain ⟨k, m, hk, rfl, hwr⟩ := hrel
    have hb : Below w.heap.size w wr := by rw [hwr]; exact Text.below_drewN _ _ _
    by_cases hlt : k < ps.length
    · have hlt' : (k : Int) < (ps.length : Int) := by omega
      obtain ⟨x0, x1, x2, x3⟩ := (h0 k _ (List.getElem?_eq_getElem hlt)).below (W' := wr) hb
      obtain ⟨y0, y1, y2, y3⟩ := (h1 k _ (List.getElem?_eq_getElem hlt)).below (W' := wr) hb
      generalize ps[k] = P at x0 x1 x2 x3 y0 y1 y2 y3
      have HW : Hid (wr = w.drewN m) := hwr
      clear h0 h1 hwr hb
      go_wp2_with fail
      go_quiet (fail)
      go_wp2
      go_roundw
      case rel => exact ⟨k + 1, m + nq, by omega, by go_num, by rw [HW.out, dd]⟩
      case measure => simp [intOf]; omega
    · have hge : (ps.length : Int) ≤ (k : Int) := by omega
      have HW : Hid (wr = w.drewN m) := hwr
      clear hwr
      go_wp2
      go_ret
      exact ⟨rfl, m, HW.out⟩
theorem lq_true (w : World) (ps : List Pc) (hm : ps.length ≤ 1000) (a b : Value) (h0 : IsP w a ps) (h1 : IsP w b ps) :
    Calls Tryd.prog 10 #[a, b] w fun e w' => e = .returned (.bool true) ∧ ∃ m, w' = w.drewN m := by
  rcases h0 with ⟨rfl, rfl⟩ | ⟨g0, o0, c0, rfl, _, _, h0⟩
  · rcases h1 with ⟨rfl, _⟩ | ⟨g1, o1, c1, rfl, _, _, h1⟩
    · exact lq_nil w 0 0 none none
    · exact lq_nil w 0 c1 none _
  · rcases h1 with ⟨rfl, rfl⟩ | ⟨g1, o1, c1, rfl, _, _, h1⟩
    · exact lq_nil w c0 0 _ none
    · exact lq_row w ps hm g0 o0 c0 g1 o1 c1 h0 h1

theorem pc1_congr (l m : List UInt8) (h : nameO l = nameO m) : pc1 l = pc1 m := by unfold pc1; rw [h]
/-- pieces, split at a place between two -/
theorem pcs_split (k : Nat) (l : List UInt8) (hk : k ≤ (pcs l).length) : ∃ a b, l = a ++ b ∧ a.length = szs ((pcs l).take k) ∧ pcs a = (pcs l).take k ∧ pcs b = (pcs l).drop k := by
  induction k generalizing l with
  | zero => exact ⟨[], l, rfl, rfl, pcs_nil, rfl⟩
  | succ k ih =>
    by_cases h : l = []
    · subst h; rw [pcs_nil] at hk; simp at hk
    · have hc := pcs_cons l h
      rw [hc, List.length_cons] at hk
      have hz := It.pc1_sz l h
      obtain ⟨a, b, e1, e2, e3, e4⟩ := ih (l.drop (pc1 l).sz) (by omega)
      have el : l = l.take (pc1 l).sz ++ a ++ b := by rw [List.append_assoc, ← e1, List.take_append_drop]
      refine ⟨l.take (pc1 l).sz ++ a, b, el, ?_, ?_, ?_⟩
      · rw [hc, List.take_succ_cons, List.length_append, e2, List.length_take]
        show min (pc1 l).sz l.length + _ = (pc1 l).sz + szs _
        omega
      · rw [hc, List.take_succ_cons, ← e3]
        have hne : l.take (pc1 l).sz ++ a ≠ [] := by
          intro h0
          have := congrArg List.length h0
          rw [List.length_append, List.length_take, List.length_nil] at this; omega
        have hname : nameO (l.take (pc1 l).sz ++ a) = nameO l := by
          refine nameO_congr _ _ fun e => ⟨fun g => ⟨g.1, g.2.trans ?_⟩, fun g => ⟨g.1, ?_⟩⟩
          · exact ⟨b, el.symm⟩
          · have hp : pc1 l = ⟨(nmL e).length, true, e.1, e.2⟩ := by unfold pc1; rw [(nameO_some l e).2 g]
            rw [hp]
            show nmL e <+: l.take (nmL e).length ++ a
            rw [← List.prefix_iff_eq_take.1 g.2]; exact List.prefix_append _ _
        have hp1 : pc1 (l.take (pc1 l).sz ++ a) = pc1 l := pc1_congr _ _ hname
        rw [pcs_cons _ hne, hp1]
        rw [List.drop_append_of_le_length (by rw [List.length_take]; omega), List.drop_of_length_le (by rw [List.length_take]; omega), List.nil_append]
      · rw [hc, List.drop_succ_cons]; exact e4

/-- a name put in between two pieces -/
theorem name_in (L : List UInt8) (e : Int × Int) (k : Nat) (h : okB L = true) (hs : sideZ e.1 e.2 ≠ 0) (hl : L.length + (nmL e).length ≤ 40) (hk : k ≤ (pieL L).length) :
    pieL (L.take (szs ((pieL L).take k)) ++ nmL e ++ L.drop (szs ((pieL L).take k))) = (pieL L).take k ++ ⟨(nmL e).length, true, e.1, e.2⟩ :: (pieL L).drop k := by
  rw [pie_ok _ h] at hk ⊢
  obtain ⟨a, b, e1, e2, e3, e4⟩ := pcs_split k (bd L) hk
  rw [← e2]
  have eL : L = a ++ (b ++ hp L) := by rw [← List.append_assoc, ← e1, bd_hp]
  have t1 : L.take a.length = a := by conv => lhs; rw [eL]
                                      exact List.take_left' rfl
  have t2 : L.drop a.length = b ++ hp L := by conv => lhs; rw [eL]
                                              exact List.drop_left' rfl
  rw [t1, t2]
  have hpl := hp_len L
  have hbl := bd_len L
  have hll := heldN_len L
  have hlen : L.length = a.length + (b.length + (hp L).length) := by
    have := congrArg List.length eL
    rw [List.length_append, List.length_append] at this; exact this
  have okall := ok_parts L h
  have hok : okB (a ++ nmL e ++ (b ++ hp L)) = true := by
    rw [ok_iff]
    refine ⟨by rw [List.length_append, List.length_append, List.length_append]; omega, fun c hc => ?_⟩
    rw [List.mem_append, List.mem_append] at hc
    rcases hc with (hc | hc) | hc
    · exact okall.2 c (by rw [eL]; exact List.mem_append_left _ hc)
    · exact nm_bytes e hs c hc
    · exact okall.2 c (by rw [eL]; exact List.mem_append_right _ hc)
  have hheld : heldN (a ++ nmL e ++ (b ++ hp L)) = heldN L := by
    have z : heldN (a ++ nmL e) = 0 := by rw [heldN_app]; exact nm_none e _
    rw [heldN_app, z]
    show heldN (b ++ hp L) = heldN L
    by_cases h0 : heldN L = 0
    · rw [hp_none L h0, List.append_nil, h0]
      by_cases hb0 : heldN b = 0
      · exact hb0
      · exfalso
        have hlb := heldN_len b
        have q := (beg_held b (heldN b) (by omega) (heldN_le b) hlb).2 rfl
        have eb : bd L = L := by have := bd_hp L; rw [hp_none L h0, List.append_nil] at this; exact this
        have el2 : L = a ++ b := by rw [← e1, eb]
        have q2 := (beg_held L (heldN b) (by omega) (heldN_le b) (by rw [el2, List.length_append]; omega)).1 (by
          rw [el2, List.length_append, List.drop_append, List.drop_of_length_le (by omega), List.nil_append, show a.length + b.length - heldN b - a.length = b.length - heldN b by omega]
          exact q)
        omega
    · refine (beg_held (b ++ hp L) (heldN L) (by omega) (heldN_le L) (by rw [List.length_append]; omega)).1 ?_
      rw [List.length_append, hpl, Nat.add_sub_cancel, List.drop_left' rfl]
      exact hp_beg L h0
  rw [pie_ok _ hok]
  have ebd : bd (a ++ nmL e ++ (b ++ hp L)) = a ++ (nmL e ++ b) := by
    show (a ++ nmL e ++ (b ++ hp L)).take _ = _
    rw [hheld, show a ++ nmL e ++ (b ++ hp L) = (a ++ (nmL e ++ b)) ++ hp L by simp, List.length_append, hpl, Nat.add_sub_cancel, List.take_left' rfl]
  rw [ebd, pcs_app a (nmL e ++ b) (nc_at a _ 64 rfl), nm_pcs e hs b, e3, e4]
end Go.Proofs.YtkpngmklcnmjmacDoor.LzQ

/- The walk of the law on how long a piece is: it answers true. -/
import Derived.Test.YtkpngmklcnmjmacDoorLzP
import Derived.Test.YtkpngmklcnmjmacDoorDrawT
import Derived.Test.YtkpngmklcnmjmacDoorLaid
namespace Go.Proofs.YtkpngmklcnmjmacDoor.LPiecesSize
open Go.Proofs.YtkpngmklcnmjmacDoor.LzP
open Go.RowKit Go.Proofs.YtkpngmklcnmjmacDoor.Kit Go.Proofs.YtkpngmklcnmjmacDoor.Draw Go.Proofs.YtkpngmklcnmjmacDoor.Tx Go.Proofs.YtkpngmklcnmjmacDoor.Pcs Go.Proofs.YtkpngmklcnmjmacDoor.Lz
open Go.Proofs.YtkpngmklcnmjmacDoor.EndW (sideZ impl3 isB endV)
open Go.Proofs.YtkpngmklcnmjmacDoor.Read (Errs)

/-- what a piece is -/
def WfP (p : Pc) : Prop := (p.nm = true ∧ sideZ p.ad p.po ≠ 0 ∧ p.sz = if p.po < 10 then 5 else 6) ∨ (p.nm = false ∧ p.sz = 1 ∧ p.ad = 0 ∧ p.po = 0)
theorem pcs_wf (l : List UInt8) : ∀ p ∈ pcs l, WfP p := by
  by_cases ha : l = []
  · subst ha; rw [pcs_nil]; simp
  · cases q : nameO l with
    | none =>
      rw [pcs_none l ha q]
      intro p hp
      rcases List.mem_cons.1 hp with rfl | hp
      · exact .inr ⟨rfl, rfl, rfl, rfl⟩
      · exact pcs_wf (l.drop 1) p hp
    | some e =>
      have hs := ((nameO_some l e).1 q).1
      rw [pcs_some l e q]
      intro p hp
      rcases List.mem_cons.1 hp with rfl | hp
      · exact .inl ⟨rfl, hs, nm_len e hs⟩
      · exact pcs_wf (l.drop (nmL e).length) p hp
termination_by l.length
decreasing_by
  · have : 0 < l.length := List.length_pos_iff.2 ha
    rw [List.length_drop]; omega
  · have := nm_pos e
    have : 0 < l.length := List.length_pos_iff.2 ha
    rw [List.length_drop]; omega
theorem pie_wf (l : List UInt8) : ∀ p ∈ pieL l, WfP p := by
  cases h : okB l
  · rw [pie_no _ h]; simp
  · rw [pie_ok _ h]; exact pcs_wf _
theorem door_six (x y : Int) (h : sideZ x y ≠ 0) : isB 3 x y = decide (¬ y < 10) := by
  unfold isB
  unfold sideZ at *
  rw [Bool.eq_iff_iff, beq_iff_eq, decide_eq_true_eq]
  repeat' split at h
  all_goals first | (exact absurd rfl h) | skip
  all_goals
    repeat' split
    all_goals omega

set_option maxHeartbeats 400000 in
theorem long (a0 : Option Addr) (len0 cap0 : Nat) (w : World) (h : (1048576 : Int) < (len0 : Int)) :
    Calls Tryd.prog 5 #[.slice a0 len0 cap0] w fun e w' => e = .returned (.bool true) ∧ Below w.heap.size w w' := by
  go_enter Tryd.func5, Tryd.ntmps5
  go_wp2
  go_ret
  exact ⟨rfl, Below.refl _ _⟩

set_option maxRecDepth 8000 in
set_option maxHeartbeats 4000000 in
theorem short (a0 : Option Addr) (len0 cap0 : Nat) (z : Nat → Int) (w : World) (hc : CodeIn w a0 len0 cap0 z) (h : (len0 : Int) ≤ 1048576) (herr : Errs w) :
    Calls Tryd.prog 5 #[.slice a0 len0 cap0] w fun e w' => e = .returned (.bool true) ∧ Below w.heap.size w w' := by
  go_enter Tryd.func5, Tryd.ntmps5
  go_wp2_with fail
  refine (drawTextPieces a0 len0 cap0 z _ hc).mono ?_
  rintro e w1 ⟨s, rfl, hs, k1⟩
  obtain ⟨ps, hps⟩ : ∃ ps, pieL s.data.toList = ps := ⟨_, rfl⟩
  have hwf : ∀ p ∈ ps, WfP p := by rw [← hps]; exact pie_wf _
  have hpl : ps.length ≤ 40 := by rw [← hps]; exact len_pie0 _
  go_wp2_with fail
  refine (pieces_is _ _ hps _ (herr.below k1)).mono ?_
  rintro e w2 ⟨v2, rfl, hv2, k2⟩
  have b2 := k1.trans (k2.mono k1.size)
  clear k1 k2
  go_wp2_with fail
  refine (spieces_is _ _ hps (by omega) _).mono ?_
  rintro e w3 ⟨v3, rfl, hv3, k3⟩
  have hv2' := hv2.below k3
  have b3 := b2.trans (k3.mono b2.size)
  clear b2 k3 hv2
  go_wp2_with fail
  refine (lz_true _ ps (by omega) _ _ hv2' hv3).mono ?_
  rintro e w4 ⟨rfl, k4⟩
  have hv4 := hv2'.below k4
  have b4 := b3.trans (k4.mono b3.size)
  clear b3 k4 hv2' hv3
  rcases hv4 with ⟨rfl, rfl⟩ | ⟨g, o, c, rfl, _, _, hat⟩
  · go_wp2
    refine wp_loop_rounds 1 ?_
    rw [rounds_succ]
    go_wp2
    go_ret
    exact ⟨rfl, b4⟩
  · clear hps
    go_wp2
    go_loopw [5] (fun i wr => ∃ k : Nat, k ≤ ps.length ∧ i = .int .i64 k ∧ Below w4.heap.size w4 wr) (fun i wr => ps.length - (intOf i).toNat)
    case atStart => exact ⟨0, Nat.zero_le _, rfl, Below.refl _ _⟩
    case round =>
      obtain ⟨k, hk, rfl, hb⟩ := hrel
      by_cases hlt : k < ps.length
      · have hlt' : (k : Int) < (ps.length : Int) := by omega
        obtain ⟨x0, x1, x2, x3⟩ := (hat k _ (List.getElem?_eq_getElem hlt)).below hb
        have hw := hwf ps[k] (List.getElem_mem hlt)
        generalize ps[k] = P at x0 x1 x2 x3 hw
        obtain ⟨sz, nm, ad, po⟩ := P
        simp only at x0 x1 x2 x3
        clear hat hwf
        rcases hw with ⟨hnm, hsd, hsz⟩ | ⟨hnm, hsz, had, hpo⟩
        · simp only at hnm hsd hsz
          subst hnm
          by_cases h10 : po < 10
          · rw [if_pos h10] at hsz
            subst hsz
            have hdo : isB 3 ad po = false := by rw [door_six ad po hsd]; simp; omega
            clear hsd h10
            go_wp2_with fail
            refine (impl3 _ _ _).mono ?_
            rintro e w6 ⟨rfl, k6⟩
            have z6 := k6.size
            simp at z6
            have c6 := keepc k6 wr.heap.size (by simp)
            have bel6 := ((Below.refl wr.heap.size wr).alloc (Nat.le_refl _) (.cells #[.int .i64 5, .bool true, .int .i64 ad, .int .i64 po] 34)).trans (k6.mono (by first | omega | (simp; done) | (simp; omega)))
            clear k6
            rw [hdo]
            go_wp2
            go_roundw
            case rel => exact ⟨k + 1, by omega, by go_num, hb.trans (bel6.mono hb.size)⟩
            case measure => simp [intOf]; omega
          · rw [if_neg h10] at hsz
            subst hsz
            have hdo : isB 3 ad po = true := by rw [door_six ad po hsd]; simp; omega
            clear hsd h10
            go_wp2_with fail
            refine (impl3 _ _ _).mono ?_
            rintro e w6 ⟨rfl, k6⟩
            have z6 := k6.size
            simp at z6
            have c6 := keepc k6 wr.heap.size (by simp)
            have bel6 := ((Below.refl wr.heap.size wr).alloc (Nat.le_refl _) (.cells #[.int .i64 6, .bool true, .int .i64 ad, .int .i64 po] 34)).trans (k6.mono (by first | omega | (simp; done) | (simp; omega)))
            clear k6
            rw [hdo]
            go_wp2
            go_roundw
            case rel => exact ⟨k + 1, by omega, by go_num, hb.trans (bel6.mono hb.size)⟩
            case measure => simp [intOf]; omega
        · simp only at hnm hsz
          subst hnm hsz
          go_wp2
          go_roundw
          case rel => exact ⟨k + 1, by omega, by go_num, hb.trans (((Below.refl _ _).alloc (Nat.le_refl _) _).mono hb.size)⟩
          case measure => simp [intOf]; omega
      · have hge : (ps.length : Int) ≤ (k : Int) := by omega
        go_wp2
        go_ret
        exact ⟨rfl, b4.trans (hb.mono b4.size)⟩
end Go.Proofs.YtkpngmklcnmjmacDoor.LPiecesSize

/- The walk of the law on pieces of a beginning: it answers true. -/
import Derived.Test.YtkpngmklcnmjmabDoorLzP
import Derived.Test.YtkpngmklcnmjmabDoorDrawT
import Derived.Test.YtkpngmklcnmjmabDoorLaid
namespace Go.Proofs.YtkpngmklcnmjmabDoor.LPiecesMore
open Go.Proofs.YtkpngmklcnmjmabDoor.LzP
open Go.RowKit Go.Proofs.YtkpngmklcnmjmabDoor.Kit Go.Proofs.YtkpngmklcnmjmabDoor.Draw Go.Proofs.YtkpngmklcnmjmabDoor.Tx Go.Proofs.YtkpngmklcnmjmabDoor.Pcs Go.Proofs.YtkpngmklcnmjmabDoor.Lz
open Go.Proofs.YtkpngmklcnmjmabDoor.TxW (sok_any)
open Go.Proofs.YtkpngmklcnmjmabDoor.Read (Errs)

theorem step_up (st : Nat) (c : UInt8) : stepN st c ≤ st + 1 := by
  unfold stepN; repeat' split
  all_goals omega
theorem fold_up (m : List UInt8) (n : Nat) : m.foldl stepN n ≤ n + m.length := by
  induction m generalizing n with
  | nil => exact Nat.le_refl _
  | cons c m ih =>
    have h1 := ih (stepN n c)
    have h2 := step_up n c
    rw [List.foldl_cons, List.length_cons]; omega

/-- pieces of a beginning are the beginning of the pieces -/
theorem pie_more (l : List UInt8) (k : Nat) (h : okB l = true) : pieL (l.take k) <+: pieL l := by
  rw [pie_ok _ h, pie_ok _ (ok_take l k h)]
  have hL : l.take k ++ l.drop k = l := List.take_append_drop k l
  generalize l.take k = a at *
  generalize l.drop k = b at *
  subst hL
  have hup : heldN (a ++ b) ≤ heldN a + b.length := by rw [heldN_app]; exact fold_up b _
  have hla := heldN_len a
  have hlab := heldN_len (a ++ b)
  have e : bd (a ++ b) = bd a ++ (hp a ++ b).take ((a ++ b).length - heldN (a ++ b) - (bd a).length) := by
    have e1 : a ++ b = bd a ++ (hp a ++ b) := by rw [← List.append_assoc, bd_hp]
    show (a ++ b).take ((a ++ b).length - heldN (a ++ b)) = _
    generalize hN : (a ++ b).length - heldN (a ++ b) = N
    have hge : (bd a).length ≤ N := by
      rw [bd_len]; rw [List.length_append] at hN; omega
    rw [e1, List.take_append, List.take_of_length_le hge]
  rw [e, pcs_app]
  · exact List.prefix_append _ _
  · by_cases h0 : heldN a = 0
    · have : bd a = a := by
        have := bd_hp a
        rw [hp_none a h0, List.append_nil] at this; exact this
      rw [this]
      exact nc_held a _ h0
    · rcases hp_head a with hh | ⟨x, t, hh, hx⟩
      · have := hp_len a
        rw [hh] at this; simp at this; omega
      · rw [hh]
        generalize (a ++ b).length - heldN (a ++ b) - (bd a).length = N
        cases N with
        | zero => rw [List.take_zero]; exact nc_nil _
        | succ N => rw [List.cons_append, List.take_succ_cons]; exact nc_at _ _ x hx

set_option maxHeartbeats 400000 in
theorem long (a0 a1 : Option Addr) (len0 cap0 len1 cap1 : Nat) (w : World) (h : (1048576 : Int) < (len0 : Int)) :
    Calls Tryd.prog 4 #[.slice a0 len0 cap0, .slice a1 len1 cap1] w fun e w' => e = .returned (.bool true) ∧ Below w.heap.size w w' := by
  go_enter Tryd.func4, Tryd.ntmps4
  go_wp2
  go_ret
  exact ⟨rfl, Below.refl _ _⟩
set_option maxHeartbeats 400000 in
theorem long2 (a0 a1 : Option Addr) (len0 cap0 len1 cap1 : Nat) (w : World) (h : (len0 : Int) ≤ 1048576) (h2 : (1048576 : Int) < (len1 : Int)) :
    Calls Tryd.prog 4 #[.slice a0 len0 cap0, .slice a1 len1 cap1] w fun e w' => e = .returned (.bool true) ∧ Below w.heap.size w w' := by
  go_enter Tryd.func4, Tryd.ntmps4
  go_wp2
  go_ret
  exact ⟨rfl, Below.refl _ _⟩

set_option maxHeartbeats 4000000 in
theorem short (a0 a1 : Option Addr) (len0 cap0 len1 cap1 : Nat) (z : Nat → Int) (w : World) (hc : CodeIn w a0 len0 cap0 z) (h : (len0 : Int) ≤ 1048576) (h2 : (len1 : Int) ≤ 1048576) (herr : Errs w) :
    Calls Tryd.prog 4 #[.slice a0 len0 cap0, .slice a1 len1 cap1] w fun e w' => e = .returned (.bool true) ∧ Below w.heap.size w w' := by
  go_enter Tryd.func4, Tryd.ntmps4
  go_wp2_with fail
  refine (drawTextPieces a0 len0 cap0 z _ hc).mono ?_
  rintro e w1 ⟨s, rfl, hs, k1⟩
  have hmx : s.size ≤ maxLen := by unfold maxLen; omega
  obtain ⟨ps, hps⟩ : ∃ ps, pieL s.data.toList = ps := ⟨_, rfl⟩
  have hpl : ps.length ≤ 40 := by rw [← hps]; exact len_pie0 _
  go_wp2_with fail
  refine (pieces_is _ _ hps _ (herr.below k1)).mono ?_
  rintro e w2 ⟨v2, rfl, hv2, k2⟩
  have b2 := k1.trans (k2.mono k1.size)
  clear k1 k2
  go_wp2_with fail
  refine (spieces_is _ _ hps (by omega) _).mono ?_
  rintro e w3 ⟨v3, rfl, hv3, k3⟩
  have hv2' := hv2.below k3
  have b3 := b2.trans (k3.mono b2.size)
  clear b2 k3 hv2
  go_wp2_with fail
  refine (lz_true _ ps (by omega) _ _ hv2' hv3).mono ?_
  rintro e w4 ⟨rfl, k4⟩
  have hv4 := hv2'.below k4
  have b4 := b3.trans (k4.mono b3.size)
  clear b3 k4 hv2' hv3
  go_wp2_with fail
  refine (sok_any s hmx _).mono ?_
  rintro e w5 ⟨rfl, rfl⟩
  cases hok : okB s.data.toList
  · go_wp2_with fail
    refine (spieces_is _ _ hps (by omega) _).mono ?_
    rintro e w6 ⟨v6, rfl, hv6, k6⟩
    have hv4' := hv4.below k6
    have b6 := b4.trans (k6.mono b4.size)
    go_wp2_with fail
    refine (lz_true _ ps (by omega) _ _ hv4' hv6).mono ?_
    rintro e w7 ⟨rfl, k7⟩
    go_wp2
    go_ret
    exact ⟨rfl, b6.trans (k7.mono b6.size)⟩
  · obtain ⟨k, hk, hkl⟩ : ∃ k : Nat, (len1 : Int).tmod ((s.size : Int) + 1) = (k : Int) ∧ k ≤ s.size := by
      refine ⟨len1 % (s.size + 1), ?_, ?_⟩
      · rw [Int.tmod_eq_emod_of_nonneg (by omega)]; push_cast; rfl
      · have := Nat.mod_lt len1 (show 0 < s.size + 1 by omega); omega
    have hkk : (k : Int) ≤ (s.size : Int) := by omega
    have hx : (s.extract 0 k).data.toList = s.data.toList.take k := by rw [Nm.ext_to]; rfl
    have hpm := pie_more s.data.toList k hok
    rw [hps, ← hx] at hpm
    obtain ⟨qs, hqs⟩ : ∃ qs, pieL (s.extract 0 k).data.toList = qs := ⟨_, rfl⟩
    rw [hqs] at hpm
    have hql := hpm.length_le
    clear hx
    go_wp2_with fail
    refine (pieces_is _ _ hqs _ (herr.below b4)).mono ?_
    rintro e w6 ⟨v6, rfl, hv6, k6⟩
    have hv4' := hv4.below k6
    have b6 := b4.trans (k6.mono b4.size)
    clear k6 hv4 b4 hqs hps
    obtain ⟨a6, c6, rfl⟩ := isP_slice hv6
    have hqc : (qs.length : Int) ≤ (ps.length : Int) := by omega
    rcases hv4' with ⟨rfl, rfl⟩ | ⟨g, o, c, rfl, hc1, hc2, hat⟩
    · have hq0 : qs = [] := List.length_eq_zero_iff.1 (by simpa using hql)
      subst hq0
      go_wp2_with fail
      refine (lz_true _ [] (by simp) _ _ hv6 (.inl ⟨rfl, rfl⟩)).mono ?_
      rintro e w7 ⟨rfl, k7⟩
      go_wp2
      go_ret
      exact ⟨by first | rfl | simp, b6.trans (k7.mono b6.size)⟩
    · have hqcc : (qs.length : Int) ≤ (c : Int) := by omega
      have hz := isP_pre hc1 hc2 hat hpm
      clear hat
      go_wp2_with fail
      refine (lz_true _ qs (by omega) _ _ hv6 hz).mono ?_
      rintro e w7 ⟨rfl, k7⟩
      go_wp2
      go_ret
      exact ⟨by first | rfl | simp, b6.trans (k7.mono b6.size)⟩
end Go.Proofs.YtkpngmklcnmjmabDoor.LPiecesMore

/- The walk of the law on a name put in between two pieces: it answers true. -/
import Derived.Test.YtkpngmklcnmjmacDoorLzQ
import Derived.Test.YtkpngmklcnmjmacDoorDrawT
import Derived.Test.YtkpngmklcnmjmacDoorDrawn
import Derived.Test.YtkpngmklcnmjmacDoorLaid
import Derived.Deep.RegionWith
namespace Go.Proofs.YtkpngmklcnmjmacDoor.LNameIn
open Go.Proofs.YtkpngmklcnmjmacDoor.LzP Go.Proofs.YtkpngmklcnmjmacDoor.LzE Go.Proofs.YtkpngmklcnmjmacDoor.LzQ
open Go.RowKit Go.Proofs.YtkpngmklcnmjmacDoor.Kit Go.Proofs.YtkpngmklcnmjmacDoor.Draw Go.Proofs.YtkpngmklcnmjmacDoor.Tx Go.Proofs.YtkpngmklcnmjmacDoor.Pcs Go.Proofs.YtkpngmklcnmjmacDoor.Lz
open Go.Proofs.YtkpngmklcnmjmacDoor.TxW (sok_any)
open Go.Proofs.YtkpngmklcnmjmacDoor.EndW (sideZ)
open Go.Proofs.YtkpngmklcnmjmacDoor.Text (txt txtL txt_list implText emp)
open Go.Proofs.YtkpngmklcnmjmacDoor.Read (Errs)
set_option linter.unusedSimpArgs false
set_option linter.unusedVariables false

theorem app_l (s t : ByteArray) : (s ++ t).data.toList = s.data.toList ++ t.data.toList := by simp [ByteArray.data_append]
theorem one_l (x y : Int) (h : sideZ x y ≠ 0) : (⟨#[64]⟩ ++ txt x y ++ ⟨#[59]⟩ : ByteArray).data.toList = nmL (x, y) := by
  rw [app_l, app_l, ← ByteArray.toList_eq (txt x y), txt_list x y h]; rfl

theorem isP_none {W : World} {g o m : Nat} {ps : List Pc} (h : ps = []) (hm : m ≤ maxLen) : IsP W (.slice (some ⟨g, o, none⟩) ps.length m) ps := by
  subst h
  exact .inr ⟨g, o, m, rfl, Nat.zero_le _, hm, fun i p hp => by simp at hp⟩

set_option maxHeartbeats 400000 in
theorem long (a0 a1 : Option Addr) (len0 cap0 len1 cap1 : Nat) (w : World) (h : (1048576 : Int) < (len0 : Int)) :
    Calls Tryd.prog 3 #[.slice a0 len0 cap0, .slice a1 len1 cap1] w fun e w' => e = .returned (.bool true) ∧ Below w.heap.size w w' := by
  go_enter Tryd.func3, Tryd.ntmps3
  go_wp2
  go_ret
  exact ⟨rfl, Below.refl _ _⟩
set_option maxHeartbeats 400000 in
theorem long2 (a0 a1 : Option Addr) (len0 cap0 len1 cap1 : Nat) (w : World) (h : (len0 : Int) ≤ 1048576) (h2 : (1048576 : Int) < (len1 : Int)) :
    Calls Tryd.prog 3 #[.slice a0 len0 cap0, .slice a1 len1 cap1] w fun e w' => e = .returned (.bool true) ∧ Below w.heap.size w w' := by
  go_enter Tryd.func3, Tryd.ntmps3
  go_wp2
  go_ret
  exact ⟨rfl, Below.refl _ _⟩

set_option maxRecDepth 8000 in
set_option maxHeartbeats 8000000 in
theorem short (a0 a1 : Option Addr) (len0 cap0 len1 cap1 : Nat) (z z1 : Nat → Int) (w : World) (hc : CodeIn w a0 len0 cap0 z) (hc1 : CodeIn w a1 len1 cap1 z1) (h : (len0 : Int) ≤ 1048576) (h2 : (len1 : Int) ≤ 1048576) (herr : Errs w) :
    Calls Tryd.prog 3 #[.slice a0 len0 cap0, .slice a1 len1 cap1] w fun e w' => e = .returned (.bool true) ∧ Below w.heap.size w w' := by
  go_enter Tryd.func3, Tryd.ntmps3
  go_wp2_with fail
  refine (drawTextPieces a0 len0 cap0 z _ hc).mono ?_
  rintro e w0 ⟨s, rfl, hs, k0⟩
  go_wp2_with fail
  refine (drawEndText a1 len1 cap1 z1 _ (hc1.below k0)).mono ?_
  rintro e w1 ⟨x, y, rfl, hxy, k1⟩
  have b1 := (k0.trans (k1.mono k0.size)).alloc (o := .cells #[.int .i64 x, .int .i64 y] 25) (k0.trans (k1.mono k0.size)).size
  have z1' := (k0.trans (k1.mono k0.size)).size
  clear k0 k1
  have hmx : s.size ≤ maxLen := by unfold maxLen; omega
  obtain ⟨ps, hps⟩ : ∃ ps, pieL s.data.toList = ps := ⟨_, rfl⟩
  have hpl : ps.length ≤ 40 := by rw [← hps]; exact len_pie0 _
  go_wp2_with fail
  refine (pieces_is _ _ hps _ (herr.below b1)).mono ?_
  rintro e w2 ⟨v2, rfl, hv2, k2⟩
  have z2 := k2.size
  simp at z2
  have c2 := keepc k2 w1.heap.size (by simp)
  have b2 := b1.trans (k2.mono b1.size)
  clear k2 b1
  have y0 : w2.cell? ⟨w1.heap.size, 0, none⟩ = some (.int .i64 x) := by rw [c2]; simp
  have y1 : w2.cell? ⟨w1.heap.size, 1, none⟩ = some (.int .i64 y) := by rw [c2]; simp
  clear c2
  go_wp2_with fail
  refine (spieces_is _ _ hps (by omega) _).mono ?_
  rintro e w3 ⟨v3, rfl, hv3, k3⟩
  have hv2' := hv2.below k3
  have b3 := b2.trans (k3.mono b2.size)
  have y03 := (keepc k3 w1.heap.size (by omega) 0).trans y0
  have y13 := (keepc k3 w1.heap.size (by omega) 1).trans y1
  have z3 := k3.size
  clear b2 k3 hv2 y0 y1
  go_wp2_with fail
  refine (lz_true _ ps (by omega) _ _ hv2' hv3).mono ?_
  rintro e w4 ⟨rfl, k4⟩
  have hv4 := hv2'.below k4
  have b4 := b3.trans (k4.mono b3.size)
  have y04 := (keepc k4 w1.heap.size (by omega) 0).trans y03
  have y14 := (keepc k4 w1.heap.size (by omega) 1).trans y13
  have z4 := k4.size
  clear b3 k4 hv2' hv3 y03 y13
  go_wp2_with fail
  refine (sok_any s hmx _).mono ?_
  rintro e w5 ⟨rfl, rfl⟩
  cases hok : okB s.data.toList
  · clear y04 y14
    go_wp2_with fail
    refine (spieces_is _ _ hps (by omega) _).mono ?_
    rintro e w6 ⟨v6, rfl, hv6, k6⟩
    have hv4' := hv4.below k6
    have b6 := b4.trans (k6.mono b4.size)
    go_wp2_with fail
    refine (lz_true _ ps (by omega) _ _ hv4' hv6).mono ?_
    rintro e w7 ⟨rfl, k7⟩
    go_wp2
    go_ret
    exact ⟨rfl, b6.trans (k7.mono b6.size)⟩
  · go_wp2_with fail
    refine (implText _ _ _).mono ?_
    rintro e w6 ⟨rfl, k6⟩
    have hv5 := hv4.below k6
    have b5 := b4.trans (k6.mono b4.size)
    have y05 := (keepc k6 w1.heap.size (by omega) 0).trans y04
    have y15 := (keepc k6 w1.heap.size (by omega) 1).trans y14
    have z5 := k6.size
    have hem := emp x y
    clear k6 b4 y04 y14 hv4
    by_cases hsd : sideZ x y = 0
    · rw [hsd] at hem
      clear y05 y15
      go_wp2_with fail
      refine (spieces_is _ _ hps (by omega) _).mono ?_
      rintro e w8 ⟨v6, rfl, hv6, k6⟩
      have hv4' := hv5.below k6
      have b6 := b5.trans (k6.mono b5.size)
      go_wp2_with fail
      refine (lz_true _ ps (by omega) _ _ hv4' hv6).mono ?_
      rintro e w7 ⟨rfl, k7⟩
      go_wp2
      go_ret
      exact ⟨rfl, b6.trans (k7.mono b6.size)⟩
    · have hne : (sideZ x y == 0) = false := by simpa using hsd
      rw [hne] at hem
      have hsm := txt_four x y
      go_wp2_with fail
      refine (implText _ _ _).mono ?_
      rintro e w7 ⟨rfl, k7⟩
      have hv7 := hv5.below k7
      have b7 := b5.trans (k7.mono b5.size)
      have y07 := (keepc k7 w1.heap.size (by omega) 0).trans y05
      have y17 := (keepc k7 w1.heap.size (by omega) 1).trans y15
      have z7 := k7.size
      clear k7 b5 y05 y15 hv5 hem
      obtain ⟨k, hk, hkl⟩ : ∃ k : Nat, (len1 : Int).tmod ((ps.length : Int) + 1) = (k : Int) ∧ k ≤ ps.length := by
        refine ⟨len1 % (ps.length + 1), ?_, ?_⟩
        · rw [Int.tmod_eq_emod_of_nonneg (by omega)]; push_cast; rfl
        · have := Nat.mod_lt len1 (show 0 < ps.length + 1 by omega); omega
      have hone := one_l x y hsd
      have hosz := Nm.name_size x y hsd
      obtain ⟨one, ho⟩ : ∃ one, (⟨#[64]⟩ ++ txt x y ++ ⟨#[59]⟩ : ByteArray) = one := ⟨_, rfl⟩
      have hos : one.size ≤ 6 := by rw [← ho, ByteArray.size_append, ByteArray.size_append]; show 1 + (txt x y).size + 1 ≤ 6; omega
      rw [ho] at hone hosz
      have hkt : (ps.take k).length = k := by rw [List.length_take]; omega
      have hzt := szs_le ps k
      have hzp := (len_pie _ hok).2
      rw [hps, lenL] at hzp
      have hkk : (k : Int) ≤ (ps.length : Int) := by omega
      rcases hv7 with ⟨rfl, h0⟩ | ⟨g, o, c, rfl, hc1', hc2', hat⟩
      · subst h0
        obtain rfl : k = 0 := by simpa using hkl
        have hz0 : szs ([] : List Pc) = 0 := rfl
        go_wp2_with fail
        refine (sz_any _ [] (by simp) (by rw [hz0]; omega) _ (.inl ⟨rfl, rfl⟩)).mono ?_
        rintro e w8 ⟨rfl, k8⟩
        rw [hz0]
        have b8 := b7.trans (k8.mono b7.size)
        have y08 := (keepc k8 w1.heap.size (by omega) 0).trans y07
        have y18 := (keepc k8 w1.heap.size (by omega) 1).trans y17
        have z8 := k8.size
        clear k8 b7 y07 y17
        by_cases h40 : (40 : Int) < (s.size : Int) + (one.size : Int)
        · go_wp2
          go_ret
          exact ⟨by first | rfl | simp, b8⟩
        · have h40' : (s.size : Int) + (one.size : Int) ≤ 40 := by omega
          have hni := name_in s.data.toList (x, y) 0 hok hsd (by rw [lenL, ← hosz]; omega) (by rw [hps]; exact hkl)
          rw [hps] at hni
          have hX : pieL (s.extract 0 0 ++ one ++ s.extract 0 s.size).data.toList = [⟨(nmL (x, y)).length, true, x, y⟩] := by
            rw [app_l, app_l, hone, Nm.ext_from, Nm.ext_to]; exact hni
          rw [← hosz] at hX
          have hX1 : pieL (one ++ s).data.toList = [⟨one.size, true, x, y⟩] := by rw [app_l, hone, hosz]; exact hni
          have hX2 : pieL ((⟨#[]⟩ : ByteArray) ++ one ++ s).data.toList = [⟨one.size, true, x, y⟩] := by rw [app_l, app_l, hone, hosz]; exact hni
          have hX3 : pieL (s.extract 0 0 ++ one ++ s).data.toList = [⟨one.size, true, x, y⟩] := by rw [app_l, app_l, hone, hosz, Nm.ext_to]; exact hni
          have hX4 : pieL (ByteArray.empty ++ one ++ s).data.toList = [⟨one.size, true, x, y⟩] := by rw [app_l, app_l, hone, hosz]; exact hni
          have e1 : (s.extract 0 0).size ≤ 400 := by rw [ByteArray.size_extract]; omega
          have e2 : (s.extract 0 s.size).size ≤ 400 := by rw [ByteArray.size_extract]; omega
          clear hni hone hosz hzt hzp hps hsd hne hsm ho hz0
          go_wp2_with fail
          first
          | (go_region_with (go_at_call 9; refine (pieces_is _ [⟨one.size, true, x, y⟩] (by first | exact hX | exact hX1 | exact hX2 | exact hX3 | exact hX4) _ (by first | exact herr.below b8 | exact herr.below b8.drew | exact herr.below b8.drew.drew | exact herr.below b8.drew.drew.drew | exact herr.below b8.drew.drew.drew.drew | exact herr.below b8.drew.drew.drew.drew.drew)).mono ?_; rintro e w9 ⟨v9, rfl, hv9, k9⟩; have bb : Below w8.heap.size w8 w9 := (by first | exact k9 | exact (Below.refl _ w8).drew.trans k9 | exact (Below.refl _ w8).drew.drew.trans k9 | exact (Below.refl _ w8).drew.drew.drew.trans k9 | exact (Below.refl _ w8).drew.drew.drew.drew.trans k9 | exact (Below.refl _ w8).drew.drew.drew.drew.drew.trans k9)))
          | fail
          all_goals
            have b9 := b8.trans (bb.mono b8.size)
            have y09 := (keepc bb w1.heap.size (by omega) 0).trans y08
            have y19 := (keepc bb w1.heap.size (by omega) 1).trans y18
            rcases hv9 with ⟨_, h0⟩ | ⟨gx, ox, cx, rfl, hcx1, hcx2, hax⟩
            · simp at h0
            · obtain ⟨q0, q1, q2, q3⟩ := hax 0 ⟨one.size, true, x, y⟩ rfl
              simp only [Nat.zero_mul, Nat.add_zero] at q0 q1 q2 q3
              have hc0 : 1 ≤ cx := hcx1
              have hl0 : ([] : List Pc).length ≤ 1000 := by simp
              have pn : ∀ W, IsP W (.slice none 0 0) [] := fun W => .inl ⟨rfl, rfl⟩
              have px1 : IsP w9 (.slice (some ⟨gx, ox, none⟩) 0 cx) [] := isP_none (ps := []) rfl hcx2
              have hxl : [(⟨one.size, true, x, y⟩ : Pc)].length = 1 := rfl
              rw [hxl]
              have hci : (1 : Int) ≤ (cx : Int) := by omega
              have hce : ¬ cx = 0 := by omega
              clear hax hX hX1 hX2 hX3 hX4 hcx1
              by_cases hE1 : cx = 1
              · subst hE1
                have px2 : IsP w9 (.slice (some ⟨gx, ox, none⟩) 0 0) [] := isP_none (ps := []) rfl (Nat.zero_le _)
                have p1 : IntKind.i64.wrap (0 + 1) = (1 : Int) := by decide
                go_wp2_with fail
                go_quiet ((go_at_call 10; first | with_reducible exact Calls.quiet_of (lq_true _ [] hl0 _ _ (px1.below (Text.below_drewN _ _ _)) (pn _)) | with_reducible exact Calls.quiet_of (lq_true _ [] hl0 _ _ (px2.below (Text.below_drewN _ _ _)) (pn _))))
                go_wp2
                go_ret
                exact ⟨by first | rfl | simp, b9.trans (Text.below_drewN _ _ _)⟩
              · have px2 : IsP w9 (.slice (some ⟨gx, ox + 4, none⟩) 0 (cx - 1)) [] := isP_none (ps := []) rfl (by omega)
                have p1 : IntKind.i64.wrap (0 + 1) = (1 : Int) := by decide
                go_wp2_with fail
                go_quiet ((go_at_call 10; first | with_reducible exact Calls.quiet_of (lq_true _ [] hl0 _ _ (px1.below (Text.below_drewN _ _ _)) (pn _)) | with_reducible exact Calls.quiet_of (lq_true _ [] hl0 _ _ (px2.below (Text.below_drewN _ _ _)) (pn _))))
                go_wp2
                go_ret
                exact ⟨by first | rfl | simp, b9.trans (Text.below_drewN _ _ _)⟩
      · have hkc : (k : Int) ≤ (c : Int) := by omega
        have hp1 := isP_pre hc1' hc2' hat (List.take_prefix k ps)
        rw [hkt] at hp1
        go_wp2_with fail
        refine (sz_any _ _ (by omega) (by omega) _ hp1).mono ?_
        rintro e w8 ⟨rfl, k8⟩
        have b8 := b7.trans (k8.mono b7.size)
        have y08 := (keepc k8 w1.heap.size (by omega) 0).trans y07
        have y18 := (keepc k8 w1.heap.size (by omega) 1).trans y17
        have z8 := k8.size
        have hat8 := fun i p hp => (hat i p hp).below k8
        clear hp1 k8 b7 y07 y17 hat
        by_cases h40 : (40 : Int) < (s.size : Int) + (one.size : Int)
        · go_wp2
          go_ret
          exact ⟨by first | rfl | simp, b8⟩
        · have h40' : (s.size : Int) + (one.size : Int) ≤ 40 := by omega
          have hni := name_in s.data.toList (x, y) k hok hsd (by rw [lenL, ← hosz]; omega) (by rw [hps]; exact hkl)
          rw [hps] at hni
          obtain ⟨A, hA⟩ : ∃ A, szs (ps.take k) = A := ⟨_, rfl⟩
          rw [hA] at hni hzt ⊢
          have hAs : A ≤ s.size := by omega
          have hAi : (A : Int) ≤ (s.size : Int) := by omega
          have hX : pieL (s.extract 0 A ++ one ++ s.extract A s.size).data.toList = ps.take k ++ ⟨(nmL (x, y)).length, true, x, y⟩ :: ps.drop k := by
            rw [app_l, app_l, hone, Nm.ext_from, Nm.ext_to]; exact hni
          rw [← hosz] at hX
          have e1 : (s.extract 0 A).size ≤ 400 := by rw [ByteArray.size_extract]; omega
          have e2 : (s.extract A s.size).size ≤ 400 := by rw [ByteArray.size_extract]; omega
          clear hni hone hosz hzt hzp hA hps hsd hne hsm ho
          go_wp2_with fail
          first
          | (go_region_with (go_at_call 9; refine (pieces_is _ _ hX _ (by first | exact herr.below b8 | exact herr.below b8.drew | exact herr.below b8.drew.drew | exact herr.below b8.drew.drew.drew | exact herr.below b8.drew.drew.drew.drew | exact herr.below b8.drew.drew.drew.drew.drew)).mono ?_; rintro e w9 ⟨v9, rfl, hv9, k9⟩; have bb : Below w8.heap.size w8 w9 := (by first | exact k9 | exact (Below.refl _ w8).drew.trans k9 | exact (Below.refl _ w8).drew.drew.trans k9 | exact (Below.refl _ w8).drew.drew.drew.trans k9 | exact (Below.refl _ w8).drew.drew.drew.drew.trans k9 | exact (Below.refl _ w8).drew.drew.drew.drew.drew.trans k9)))
          | fail
          all_goals
            have b9 := b8.trans (bb.mono b8.size)
            have y09 := (keepc bb w1.heap.size (by omega) 0).trans y08
            have y19 := (keepc bb w1.heap.size (by omega) 1).trans y18
            have hat9 := fun i p hp => (hat8 i p hp).below bb
            rcases hv9 with ⟨_, h0⟩ | ⟨gx, ox, cx, rfl, hcx1, hcx2, hax⟩
            · simp at h0
            · have hxl : (ps.take k ++ (⟨one.size, true, x, y⟩ : Pc) :: ps.drop k).length = ps.length + 1 := by
                rw [List.length_append, List.length_cons, List.length_take, List.length_drop]; omega
              obtain ⟨q0, q1, q2, q3⟩ := hax k ⟨one.size, true, x, y⟩ (by rw [List.getElem?_append_right (by omega), hkt]; simp)
              simp only at q0 q1 q2 q3
              have px1 := isP_pre hcx1 hcx2 hax (List.prefix_append (ps.take k) _)
              have pl1 := isP_pre hc1' hc2' hat9 (List.take_prefix k ps)
              have px2 := isP_suf (qs := ps.take k ++ [⟨one.size, true, x, y⟩]) (rs := ps.drop k) hcx1 hcx2 hax (by simp)
              have pl2 := isP_suf (qs := ps.take k) (rs := ps.drop k) hc1' hc2' hat9 (List.take_append_drop k ps).symm
              have hkt2 : (ps.take k ++ [(⟨one.size, true, x, y⟩ : Pc)]).length = k + 1 := by rw [List.length_append, hkt]; rfl
              have hdr : (ps.drop k).length = ps.length - k := List.length_drop
              rw [hkt] at px1 pl1 pl2
              rw [hkt2, hdr] at px2
              rw [hdr] at pl2
              rw [hxl] at hcx1 ⊢
              have hcx : ((ps.length : Int) + 1) ≤ (cx : Int) := by omega
              clear hax hat9 hat8 hX
              have hw1 : IntKind.i64.wrap ((ps.length : Int) + 1) = (ps.length : Int) + 1 := by simp [IntKind.wrap, IntKind.bits, IntKind.signed]; omega
              have hw2 : IntKind.i64.wrap ((k : Int) + 1) = ((k + 1 : Nat) : Int) := by simp [IntKind.wrap, IntKind.bits, IntKind.signed]; omega
              have i1 : (k : Int) ≤ (cx : Int) := by omega
              have i2 : (k : Int) < (ps.length : Int) + 1 := by omega
              have i3 : ((k + 1 : Nat) : Int) ≤ (ps.length : Int) + 1 := by omega
              have i4 : k + 1 ≤ ps.length + 1 := by omega
              have i5 : k < ps.length + 1 := by omega
              have i6 : k ≤ cx := by omega
              have i7 : ps.length + 1 ≤ cx := by omega
              have j1 : (k : Int) ≤ (k : Int) + 1 := by omega
              have j2 : k ≤ k + 1 := by omega
              by_cases hE1 : cx = k + 1
              · subst hE1
                have hdn : ps.drop k = [] := List.drop_of_length_le (by omega)
                have px2 := isP_none (W := w9) (g := gx) (o := ox) (m := 0) hdn (Nat.zero_le _)
                rw [hdr] at px2
                by_cases hE2 : c = k
                · obtain rfl : k = c := hE2.symm
                  have pl2 := isP_none (W := w9) (g := g) (o := o) (m := 0) hdn (Nat.zero_le _)
                  rw [hdr] at pl2
                  clear hdn
                  have p1 : (k : Int) + 1 ≤ (ps.length : Int) + 1 := by omega
                  have p2 : (0 : Int) ≤ (k : Int) + 1 := by omega
                  have p3 : ((k : Int) + 1).toNat = k + 1 := by omega
                  have p4 : IntKind.i64.wrap ((k : Int) + 1) = (k : Int) + 1 := by rw [hw2]; omega
                  clear i3 i4 i7 hcx1 hw2 hc1'
                  go_wp2_with fail
                  go_quiet ((go_at_call 10; first | with_reducible exact Calls.quiet_of (lq_true _ (ps.take k) (by omega) _ _ (px1.below (Text.below_drewN _ _ _)) (pl1.below (Text.below_drewN _ _ _))) | with_reducible exact Calls.quiet_of (lq_true _ (ps.drop k) (by omega) _ _ (px2.below (Text.below_drewN _ _ _)) (pl2.below (Text.below_drewN _ _ _)))))
                  go_wp2
                  go_ret
                  exact ⟨by first | rfl | simp, b9.trans (Text.below_drewN _ _ _)⟩
                · clear hdn
                  have p1 : (k : Int) + 1 ≤ (ps.length : Int) + 1 := by omega
                  have p2 : (0 : Int) ≤ (k : Int) + 1 := by omega
                  have p3 : ((k : Int) + 1).toNat = k + 1 := by omega
                  have p4 : IntKind.i64.wrap ((k : Int) + 1) = (k : Int) + 1 := by rw [hw2]; omega
                  clear i3 i4 i7 hcx1 hw2 hc1'
                  go_wp2_with fail
                  go_quiet ((go_at_call 10; first | with_reducible exact Calls.quiet_of (lq_true _ (ps.take k) (by omega) _ _ (px1.below (Text.below_drewN _ _ _)) (pl1.below (Text.below_drewN _ _ _))) | with_reducible exact Calls.quiet_of (lq_true _ (ps.drop k) (by omega) _ _ (px2.below (Text.below_drewN _ _ _)) (pl2.below (Text.below_drewN _ _ _)))))
                  go_wp2
                  go_ret
                  exact ⟨by first | rfl | simp, b9.trans (Text.below_drewN _ _ _)⟩
              · by_cases hE2 : c = k
                · obtain rfl : k = c := hE2.symm
                  have hdn : ps.drop k = [] := List.drop_of_length_le (by omega)
                  have pl2 := isP_none (W := w9) (g := g) (o := o) (m := 0) hdn (Nat.zero_le _)
                  rw [hdr] at pl2
                  clear hdn
                  have p1 : (k : Int) + 1 ≤ (ps.length : Int) + 1 := by omega
                  have p2 : (0 : Int) ≤ (k : Int) + 1 := by omega
                  have p3 : ((k : Int) + 1).toNat = k + 1 := by omega
                  have p4 : IntKind.i64.wrap ((k : Int) + 1) = (k : Int) + 1 := by rw [hw2]; omega
                  clear i3 i4 i7 hcx1 hw2 hc1'
                  go_wp2_with fail
                  go_quiet ((go_at_call 10; first | with_reducible exact Calls.quiet_of (lq_true _ (ps.take k) (by omega) _ _ (px1.below (Text.below_drewN _ _ _)) (pl1.below (Text.below_drewN _ _ _))) | with_reducible exact Calls.quiet_of (lq_true _ (ps.drop k) (by omega) _ _ (px2.below (Text.below_drewN _ _ _)) (pl2.below (Text.below_drewN _ _ _)))))
                  go_wp2
                  go_ret
                  exact ⟨by first | rfl | simp, b9.trans (Text.below_drewN _ _ _)⟩
                · have hE3 : ¬ cx = k + 1 := hE1
                  go_wp2_with fail
                  go_quiet ((go_at_call 10; first | with_reducible exact Calls.quiet_of (lq_true _ (ps.take k) (by omega) _ _ (px1.below (Text.below_drewN _ _ _)) (pl1.below (Text.below_drewN _ _ _))) | with_reducible exact Calls.quiet_of (lq_true _ (ps.drop k) (by omega) _ _ (px2.below (Text.below_drewN _ _ _)) (pl2.below (Text.below_drewN _ _ _)))))
                  go_wp2
                  go_ret
                  exact ⟨by first | rfl | simp, b9.trans (Text.below_drewN _ _ _)⟩
end Go.Proofs.YtkpngmklcnmjmacDoor.LNameIn

/- The walk of the law on a text of names: it answers true. -/
import Derived.Test.YtkpngmklcnmjmacDoorLzE
import Derived.Test.YtkpngmklcnmjmacDoorDrawT
import Derived.Test.YtkpngmklcnmjmacDoorDrawn
import Derived.Test.YtkpngmklcnmjmacDoorLaid
import Derived.Deep.RegionWith
namespace Go.Proofs.YtkpngmklcnmjmacDoor.LTextNamed
open Go.Proofs.YtkpngmklcnmjmacDoor.LzP Go.Proofs.YtkpngmklcnmjmacDoor.LzE
open Go.RowKit Go.Proofs.YtkpngmklcnmjmacDoor.Kit Go.Proofs.YtkpngmklcnmjmacDoor.Draw Go.Proofs.YtkpngmklcnmjmacDoor.Tx Go.Proofs.YtkpngmklcnmjmacDoor.Pcs Go.Proofs.YtkpngmklcnmjmacDoor.Lz Go.Proofs.YtkpngmklcnmjmacDoor.Nas
open Go.Proofs.YtkpngmklcnmjmacDoor.TxW (sok_any ok_any)
open Go.Proofs.YtkpngmklcnmjmacDoor.EndW (sideZ)
open Go.Proofs.YtkpngmklcnmjmacDoor.Text (txt txtL txt_list implText emp)
open Go.Proofs.YtkpngmklcnmjmacDoor.Read (Errs)
set_option linter.unusedSimpArgs false
set_option linter.unusedVariables false

theorem app_l (s t : ByteArray) : (s ++ t).data.toList = s.data.toList ++ t.data.toList := by simp [ByteArray.data_append]
theorem one_l (x y : Int) (h : sideZ x y ≠ 0) : (⟨#[64]⟩ ++ txt x y ++ ⟨#[59]⟩ : ByteArray).data.toList = nmL (x, y) := by
  rw [app_l, app_l, ← ByteArray.toList_eq (txt x y), txt_list x y h]; rfl

/-- a text of three names -/
theorem three (e f : Int × Int) (he : sideZ e.1 e.2 ≠ 0) (hf : sideZ f.1 f.2 ≠ 0) :
    okB (nmL e ++ nmL f ++ nmL e) = true ∧ hdN (nmL e ++ nmL f ++ nmL e) = 0 ∧ ends (pieL (nmL e ++ nmL f ++ nmL e)) = [e, f, e] := by
  have le := nm_len e he
  have lf := nm_len f hf
  have l1 : (nmL e).length ≤ 6 := by rw [le]; split <;> omega
  have l2 : (nmL f).length ≤ 6 := by rw [lf]; split <;> omega
  have oe : okB (nmL e) = true := (ok_iff _).2 ⟨by omega, nm_bytes e he⟩
  have of : okB (nmL f) = true := (ok_iff _).2 ⟨by omega, nm_bytes f hf⟩
  have o1 := ok_app _ _ oe of (by omega)
  have o := ok_app _ _ o1 oe (by rw [List.length_append]; omega)
  have hh : heldN (nmL e ++ nmL f ++ nmL e) = 0 := by rw [heldN_app]; exact nm_none e _
  refine ⟨o, by rw [hd_ok _ o]; exact hh, ?_⟩
  rw [← ends_pie _ o, List.append_assoc, nm_pcs e he, nm_pcs f hf]
  have := nm_pcs e he []
  rw [List.append_nil, pcs_nil] at this
  rw [this]; rfl

set_option maxHeartbeats 400000 in
theorem long (a0 a1 : Option Addr) (len0 cap0 len1 cap1 : Nat) (w : World) (h : (1048576 : Int) < (len0 : Int)) :
    Calls Tryd.prog 6 #[.slice a0 len0 cap0, .slice a1 len1 cap1] w fun e w' => e = .returned (.bool true) ∧ Below w.heap.size w w' := by
  go_enter Tryd.func6, Tryd.ntmps6
  go_wp2
  go_ret
  exact ⟨rfl, Below.refl _ _⟩
set_option maxHeartbeats 400000 in
theorem long2 (a0 a1 : Option Addr) (len0 cap0 len1 cap1 : Nat) (w : World) (h : (len0 : Int) ≤ 1048576) (h2 : (1048576 : Int) < (len1 : Int)) :
    Calls Tryd.prog 6 #[.slice a0 len0 cap0, .slice a1 len1 cap1] w fun e w' => e = .returned (.bool true) ∧ Below w.heap.size w w' := by
  go_enter Tryd.func6, Tryd.ntmps6
  go_wp2
  go_ret
  exact ⟨rfl, Below.refl _ _⟩

theorem ok_is (s : ByteArray) (b : Bool) (h : okB s.data.toList = b) (w : World) : Calls Tryd.prog 20 #[.string s] w fun e w' => e = .returned (.bool b) ∧ w' = w := by
  subst h; exact ok_any s w

set_option maxRecDepth 8000 in
set_option maxHeartbeats 8000000 in
theorem short (a0 a1 : Option Addr) (len0 cap0 len1 cap1 : Nat) (z z1 : Nat → Int) (w : World) (hc : CodeIn w a0 len0 cap0 z) (hc1 : CodeIn w a1 len1 cap1 z1) (h : (len0 : Int) ≤ 1048576) (h2 : (len1 : Int) ≤ 1048576) (herr : Errs w) :
    Calls Tryd.prog 6 #[.slice a0 len0 cap0, .slice a1 len1 cap1] w fun e w' => e = .returned (.bool true) ∧ Below w.heap.size w w' := by
  go_enter Tryd.func6, Tryd.ntmps6
  go_wp2_with fail
  refine (drawTextNames a0 len0 cap0 z _ hc).mono ?_
  rintro e w0 ⟨s, rfl, hs, k0⟩
  go_wp2_with fail
  refine (drawEndText a1 len1 cap1 z1 _ (hc1.below k0)).mono ?_
  rintro e w1 ⟨x, y, rfl, hxy, k1⟩
  have b1 := (k0.trans (k1.mono k0.size)).alloc (o := .cells #[.int .i64 x, .int .i64 y] 25) (k0.trans (k1.mono k0.size)).size
  have z1' := (k0.trans (k1.mono k0.size)).size
  clear k0 k1
  obtain ⟨es, hes⟩ : ∃ es, ends (pieL s.data.toList) = es := ⟨_, rfl⟩
  go_wp2_with fail
  refine (names_is _ _ hes _ (herr.below b1)).mono ?_
  rintro e w2 ⟨v2, rfl, hv2, k2⟩
  have z2 := k2.size
  simp at z2
  have c2 := keepc k2 w1.heap.size (by simp)
  have b2 := b1.trans (k2.mono b1.size)
  clear k2 b1
  obtain ⟨a2, c2', rfl⟩ := isE_slice hv2
  go_wp2_with fail
  refine (snames_is _ _ hes (by omega) _).mono ?_
  rintro e w3 ⟨v3, rfl, hv3, k3⟩
  have z3 := k3.size
  have c3 := fun j => (keepc k3 w1.heap.size (by omega) j).trans (c2 j)
  have b3 := b2.trans (k3.mono b2.size)
  obtain ⟨a3, c3', rfl⟩ := isE_slice hv3
  clear k3 b2 hv3 hv2 hes c2
  have y0 : w3.cell? ⟨w1.heap.size, 0, none⟩ = some (.int .i64 x) := by rw [c3]; simp
  have y1 : w3.cell? ⟨w1.heap.size, 1, none⟩ = some (.int .i64 y) := by rw [c3]; simp
  clear c3
  go_wp2_with fail
  refine (implText _ _ _).mono ?_
  rintro e w4 ⟨rfl, k4⟩
  have b4 := b3.trans (k4.mono b3.size)
  have y04 := (keepc k4 w1.heap.size (by omega) 0).trans y0
  have y14 := (keepc k4 w1.heap.size (by omega) 1).trans y1
  have z4 := k4.size
  have hem := emp x y
  clear k4 b3 y0 y1
  by_cases hsd : sideZ x y = 0
  · rw [hsd] at hem
    go_wp2
    go_ret
    exact ⟨by first | rfl | simp, b4⟩
  · have hne : (sideZ x y == 0) = false := by simpa using hsd
    rw [hne] at hem
    have hsm := txt_four x y
    go_wp2_with fail
    refine (implText _ _ _).mono ?_
    rintro e w5 ⟨rfl, k5⟩
    have b5 := b4.trans (k5.mono b4.size)
    have y05 := (keepc k5 w1.heap.size (by omega) 0).trans y04
    have y15 := (keepc k5 w1.heap.size (by omega) 1).trans y14
    have z5 := k5.size
    clear k5 b4 y04 y14
    have ho := one_l x y hsd
    have hss : (⟨#[64]⟩ ++ txt x y ++ ⟨#[59]⟩ : ByteArray).size ≤ 6 := by
      rw [ByteArray.size_append, ByteArray.size_append]; show 1 + (txt x y).size + 1 ≤ 6; omega
    have h33 : nmL (3, 3) = [64, 51, 58, 51, 59] := rfl
    have th := three (x, y) (3, 3) hsd (by decide)
    have hT : (⟨#[64]⟩ ++ txt x y ++ ⟨#[59]⟩ ++ ⟨#[64, 51, 58, 51, 59]⟩ ++ (⟨#[64]⟩ ++ txt x y ++ ⟨#[59]⟩) : ByteArray).data.toList = nmL (x, y) ++ nmL (3, 3) ++ nmL (x, y) := by
      rw [app_l, app_l, ho, h33]
    rw [← hT] at th
    obtain ⟨t1, t2, t3⟩ := th
    go_wp2_with fail
    generalize (⟨#[64]⟩ ++ txt x y ++ ⟨#[59]⟩ ++ ⟨#[64, 51, 58, 51, 59]⟩ ++ (⟨#[64]⟩ ++ txt x y ++ ⟨#[59]⟩) : ByteArray) = T at t1 t2 t3 ⊢
    clear hT h33 ho hss hsm hem hne hsd
    refine (names_is _ _ t3 _ (herr.below b5)).mono ?_
    rintro e w6 ⟨v6, rfl, hv6, k6⟩
    have b6 := b5.trans (k6.mono b5.size)
    have y06 := (keepc k6 w1.heap.size (by omega) 0).trans y05
    have y16 := (keepc k6 w1.heap.size (by omega) 1).trans y15
    have z6 := k6.size
    clear k6 b5 y05 y15 t3
    rcases hv6 with ⟨_, h0⟩ | ⟨g6, c6, rfl, _, _, hat⟩
    · simp at h0
    · obtain ⟨p0, p1⟩ := hat 0 (x, y) (by simp)
      obtain ⟨p2, p3⟩ := hat 1 (3, 3) (by simp)
      obtain ⟨p4, p5⟩ := hat 2 (x, y) (by simp)
      simp at p0 p1 p2 p3 p4 p5
      clear hat
      have hg6 : g6 < w6.heap.size := blk p0
      have hw1 : w1.heap.size < w6.heap.size := by omega
      go_wp2_with fail
      go_region_with (first | (go_at_call 20; refine (ok_is _ _ t1 _).mono ?_; rintro e w7 ⟨rfl, rfl⟩) | (go_at_call 16; refine (held_is _ _ t2 _).mono ?_; rintro e w8 ⟨rfl, k8⟩; have bb : Below w6.heap.size w6 w8 := (by first | exact k8 | exact (Below.refl _ w6).drew.trans k8 | exact (Below.refl _ w6).drew.drew.trans k8 | exact (Below.refl _ w6).drew.drew.drew.trans k8 | exact (Below.refl _ w6).drew.drew.drew.drew.trans k8 | exact (Below.refl _ w6).drew.drew.drew.drew.drew.trans k8 | exact (Below.refl _ w6).drew.drew.drew.drew.drew.drew.trans k8)))
      all_goals
        go_wp2
        go_ret
        have b9 := b6.trans (bb.mono b6.size)
        first
        | exact ⟨by first | rfl | simp, b9⟩
        | exact ⟨by first | rfl | simp, b9.drew⟩
        | exact ⟨by first | rfl | simp, b9.drew.drew⟩
        | exact ⟨by first | rfl | simp, b9.drew.drew.drew⟩
end Go.Proofs.YtkpngmklcnmjmacDoor.LTextNamed

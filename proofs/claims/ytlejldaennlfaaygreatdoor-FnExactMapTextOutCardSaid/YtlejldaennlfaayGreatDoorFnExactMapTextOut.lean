/- The walk of the exact law on MapTextOut: it answers true. -/
import Derived.Test.YtlejldaennlfaayGreatDoorExM
import Derived.Test.YtlejldaennlfaayGreatDoorMt
import Derived.Test.YtlejldaennlfaayGreatDoorSp
import Derived.Test.YtlejldaennlfaayGreatDoorLaid
namespace Go.Proofs.YtlejldaennlfaayGreatDoor.XMapTextOut
open Go.RowKit Go.Proofs.YtlejldaennlfaayGreatDoor.Kit Go.Proofs.YtlejldaennlfaayGreatDoor.Mp Go.Proofs.YtlejldaennlfaayGreatDoor.Mm Go.Proofs.YtlejldaennlfaayGreatDoor.ExM Go.Proofs.YtlejldaennlfaayGreatDoor.App Go.Proofs.YtlejldaennlfaayGreatDoor.Tx
open Go.Proofs.YtlejldaennlfaayGreatDoor.Mt (tout_any)
open Go.Proofs.YtlejldaennlfaayGreatDoor.Sp (stout_any)
open Go.Proofs.YtlejldaennlfaayGreatDoor.Wa (ba_ext)
open Go.Proofs.YtlejldaennlfaayGreatDoor.Read (Errs)
set_option linter.unusedVariables false
set_option linter.unusedSimpArgs false

set_option maxHeartbeats 1000000 in
theorem longS (a : Option Addr) (len cap : Nat) (s : ByteArray) (w : World) (h : (1048576 : Int) < (s.size : Int)) :
    Calls Tryz.prog 3 #[.slice a len cap, .string s] w fun e w' => e = .returned (.bool true) ∧ Below w.heap.size w w' := by
  go_enter Tryz.func3, Tryz.ntmps3
  go_wp2
  go_ret
  exact ⟨rfl, Below.refl _ _⟩
set_option maxHeartbeats 1000000 in
theorem long (a : Option Addr) (len cap : Nat) (m : List (Int × Int × Int)) (s : ByteArray) (w : World) (hA : ArgM w a len cap m) (hs : (s.size : Int) ≤ 1048576) (h : (1048576 : Int) < (len : Int)) :
    Calls Tryz.prog 3 #[.slice a len cap, .string s] w fun e w' => e = .returned (.bool true) ∧ Below w.heap.size w w' := by
  have hm := Nat.le_trans hA.hc.1 hA.hc.2
  go_enter Tryz.func3, Tryz.ntmps3
  go_wp2_with fail
  refine (sz_big a len cap h hm _).mono ?_
  rintro e w1 ⟨rfl, rfl⟩
  go_wp2
  go_ret
  exact ⟨rfl, Below.refl _ _⟩

theorem tout_len8 (m : List (Int × Int × Int)) (l : List UInt8) : (tOut m l).1.length ≤ 8 := by
  unfold tOut
  split
  · next h =>
    rw [prs_len]
    exact (outP_good _ _ _ (okM_out m h.1).1).len
  · exact Nat.zero_le _

set_option maxRecDepth 8000 in
set_option maxHeartbeats 8000000 in
theorem short (a : Option Addr) (len cap : Nat) (m : List (Int × Int × Int)) (s : ByteArray) (w1 : World) (hA : ArgM w1 a len cap m) (hs : (s.size : Int) ≤ 1048576) (h : (len : Int) ≤ 1048576) (herr : Errs w1) :
    Calls Tryz.prog 3 #[.slice a len cap, .string s] w1 fun e w' => e = .returned (.bool true) ∧ Below w1.heap.size w1 w' := by
  have hml : m.length ≤ 1048576 := by have hl := hA.hl; omega
  have h1 : 0 ≤ 1048576 - (len : Int) := by omega
  obtain ⟨mo, HO⟩ : ∃ mo, Hid (tOut m s.data.toList = mo) := ⟨_, rfl⟩
  have hmo : mo.1.length ≤ 8 := by rw [← HO.out]; exact tout_len8 m _
  go_enter Tryz.func3, Tryz.ntmps3
  go_wp2_with fail
  refine (sz_ok a len cap h _).mono ?_
  rintro e w0 ⟨rfl, rfl⟩
  go_wp2_with fail
  refine (toS_any _ a len cap m hA hml).mono ?_
  rintro e w2 ⟨v2, rfl, hr2, k2⟩
  go_wp2_with fail
  refine (stout_any _ v2 m (isM_of_row hr2) (by omega) s (by omega)).mono ?_
  rintro e w4 ⟨vS, TS, rfl, hrS, hTS, k4⟩
  rw [HO.out] at hrS hTS
  have b4 := k2.trans (k4.mono k2.size)
  clear hr2 k2 k4
  go_wp2_with fail
  refine (toS_any _ a len cap m (hA.below b4) hml).mono ?_
  rintro e w5 ⟨vX, rfl, hrX, k5⟩
  have b5 := b4.trans (k5.mono b4.size)
  have hrS5 := row_below hrS k5
  have hapSX := row_apart' hrS hrX (Nat.le_refl _)
  have bS := b4.size
  clear k5 hrS b4
  go_wp2_with fail
  refine (tout_any _ vX m (isM_of_row hrX) s (herr.below b5)).mono ?_
  rintro e w7 ⟨vG, TG, rfl, hrG, hTG, k7⟩
  rw [HO.out] at hrG hTG
  obtain rfl : TG = TS := ba_ext (hTG.trans hTS.symm)
  have hapGX := row_apart hrX hrG (Nat.le_refl _)
  have hapSG := row_apart' hrS5 hrG (Nat.le_refl _)
  have b7 := b5.trans (k7.mono b5.size)
  have hb6 := b5.size
  have hrS7 := row_below hrS5 k7
  have hrX7 := row_below hrX k7
  clear hrS5 hrX b5 k7 hTG
  go_wp2_with fail
  refine (eqM_true _ mo.1 (by omega) _ _ (isM_of_row hrG) (isM_of_row hrS7)).mono ?_
  rintro e w8 ⟨rfl, k8⟩
  have b8 := b7.trans (k8.mono b7.size)
  have hrS8 := row_below hrS7 k8
  have hrX8 := row_below hrX7 k8
  have hrG8 := row_below hrG k8
  clear hrS7 hrX7 hrG b7 k8
  go_wp2_with fail
  refine (toS_any _ a len cap m (hA.below b8) hml).mono ?_
  rintro e w9 ⟨vY, rfl, hrY, k9⟩
  have b9 := b8.trans (k9.mono b8.size)
  have hrS9 := row_below hrS8 k9
  have hrX9 := row_below hrX8 k9
  have hrG9 := row_below hrG8 k9
  clear hrS8 hrX8 hrG8 b8 k9
  go_wp2_with fail
  refine (eqM_true _ m hml _ _ (isM_of_row hrX9) (isM_of_row hrY)).mono ?_
  rintro e w10 ⟨rfl, k10⟩
  have b10 := b9.trans (k10.mono b9.size)
  have hrS10 := row_below hrS9 k10
  have hrX10 := row_below hrX9 k10
  have hrG10 := row_below hrG9 k10
  clear hrS9 hrX9 hrG9 b9 k10 hrY
  go_wp2_with fail
  refine (mark_any _ _ _ vX m.length _ hrX10 hml).mono ?_
  rintro e w11 ⟨rfl, g11, _⟩
  have b11 := b10.trans (row_grown hrX10 g11 b10.size (by omega))
  have hrS11 := hrS10.kept g11 hapSX
  have hrG11 := hrG10.kept g11 hapGX
  clear hrS10 hrX10 hrG10 b10 g11
  go_wp2_with fail
  refine (eqM_true _ mo.1 (by omega) _ _ (isM_of_row hrG11) (isM_of_row hrS11)).mono ?_
  rintro e w12 ⟨rfl, k12⟩
  have b12 := b11.trans (k12.mono b11.size)
  have hrS12 := row_below hrS11 k12
  have hrG12 := row_below hrG11 k12
  clear hrS11 hrG11 b11 k12
  go_wp2_with fail
  refine (mark_any _ _ _ vG mo.1.length _ hrG12 (by omega)).mono ?_
  rintro e w13 ⟨rfl, g13, hMG⟩
  have b13 := b12.trans (row_grown hrG12 g13 b12.size (by omega))
  have hrS13 := hrS12.kept g13 hapSG
  clear hrS12 hrG12 b12 g13
  go_wp2_with fail
  refine (held_any _ vG mo.1.length hMG (by omega)).mono ?_
  rintro e w14 ⟨rfl, rfl⟩
  go_wp2_with fail
  refine (toS_any _ a len cap m (hA.below b13) hml).mono ?_
  rintro e w15 ⟨vP, rfl, hrP, k15⟩
  have b15 := b13.trans (k15.mono b13.size)
  have hrS15 := row_below hrS13 k15
  have hMG15 := hMG.below k15
  clear k15 hrS13 hMG b13
  go_wp2_with fail
  refine (tout_any _ vP m (isM_of_row hrP) s (herr.below b15)).mono ?_
  rintro e w16 ⟨vH, TH, rfl, hrH, hTH, k16⟩
  rw [HO.out] at hrH hTH
  obtain rfl : TH = TG := ba_ext (hTH.trans hTS.symm)
  have b16 := b15.trans (k16.mono b15.size)
  have hrS16 := row_below hrS15 k16
  have hMG16 := hMG15.below k16
  clear k16 hrS15 hMG15 b15 hrP hTH
  go_wp2_with fail
  refine (eqM_true _ mo.1 (by omega) _ _ (isM_of_row hrH) (isM_of_row hrS16)).mono ?_
  rintro e w17 ⟨rfl, k17⟩
  have b17 := b16.trans (k17.mono b16.size)
  have hMG17 := hMG16.below k17
  clear hrH hrS16 k17 b16 hMG16
  go_wp2_with fail
  refine (held_any _ vG mo.1.length hMG17 (by omega)).mono ?_
  rintro e w18 ⟨rfl, rfl⟩
  go_wp2
  go_ret
  exact ⟨rfl, b17⟩
end Go.Proofs.YtlejldaennlfaayGreatDoor.XMapTextOut

/- The walk of the exact law on MapTextIn: it answers true. -/
import Derived.Test.YtlejldaennlfaayDoorExM
import Derived.Test.YtlejldaennlfaayDoorMt
import Derived.Test.YtlejldaennlfaayDoorSp2
import Derived.Test.YtlejldaennlfaayDoorLaid
namespace Go.Proofs.YtlejldaennlfaayDoor.XMapTextIn
open Go.RowKit Go.Proofs.YtlejldaennlfaayDoor.Kit Go.Proofs.YtlejldaennlfaayDoor.Mp Go.Proofs.YtlejldaennlfaayDoor.Mm Go.Proofs.YtlejldaennlfaayDoor.ExM Go.Proofs.YtlejldaennlfaayDoor.App Go.Proofs.YtlejldaennlfaayDoor.Tx
open Go.Proofs.YtlejldaennlfaayDoor.Mt (tin_any)
open Go.Proofs.YtlejldaennlfaayDoor.Sp (stin_any)
open Go.Proofs.YtlejldaennlfaayDoor.Wa (ba_ext)
open Go.Proofs.YtlejldaennlfaayDoor.Read (Errs)
set_option linter.unusedVariables false
set_option linter.unusedSimpArgs false

set_option maxHeartbeats 1000000 in
theorem longS (a : Option Addr) (len cap : Nat) (s : ByteArray) (w : World) (h : (1048576 : Int) < (s.size : Int)) :
    Calls Tryd.prog 3 #[.slice a len cap, .string s] w fun e w' => e = .returned (.bool true) ∧ Below w.heap.size w w' := by
  go_enter Tryd.func3, Tryd.ntmps3
  go_wp2
  go_ret
  exact ⟨rfl, Below.refl _ _⟩
set_option maxHeartbeats 1000000 in
theorem long (a : Option Addr) (len cap : Nat) (m : List (Int × Int × Int)) (s : ByteArray) (w : World) (hA : ArgM w a len cap m) (hs : (s.size : Int) ≤ 1048576) (h : (1048576 : Int) < (len : Int)) :
    Calls Tryd.prog 3 #[.slice a len cap, .string s] w fun e w' => e = .returned (.bool true) ∧ Below w.heap.size w w' := by
  have hm := Nat.le_trans hA.hc.1 hA.hc.2
  go_enter Tryd.func3, Tryd.ntmps3
  go_wp2_with fail
  refine (sz_big a len cap h hm _).mono ?_
  rintro e w1 ⟨rfl, rfl⟩
  go_wp2
  go_ret
  exact ⟨rfl, Below.refl _ _⟩

set_option maxRecDepth 8000 in
set_option maxHeartbeats 8000000 in
theorem short (a : Option Addr) (len cap : Nat) (m : List (Int × Int × Int)) (s : ByteArray) (w1 : World) (hA : ArgM w1 a len cap m) (hs : (s.size : Int) ≤ 1048576) (h : (len : Int) ≤ 1048576) (herr : Errs w1) :
    Calls Tryd.prog 3 #[.slice a len cap, .string s] w1 fun e w' => e = .returned (.bool true) ∧ Below w1.heap.size w1 w' := by
  have hml : m.length ≤ 1048576 := by have hl := hA.hl; omega
  have h1 : 0 ≤ 1048576 - (len : Int) := by omega
  go_enter Tryd.func3, Tryd.ntmps3
  go_wp2_with fail
  refine (sz_ok a len cap h _).mono ?_
  rintro e w0 ⟨rfl, rfl⟩
  go_wp2_with fail
  refine (toS_any _ a len cap m hA hml).mono ?_
  rintro e w2 ⟨v2, rfl, hr2, k2⟩
  go_wp2_with fail
  refine (stin_any _ v2 m (isM_of_row hr2) (by omega) s (by omega)).mono ?_
  rintro e w4 ⟨TS, rfl, hTS, k4⟩
  have b4 := k2.trans (k4.mono k2.size)
  clear hr2 k2 k4
  go_wp2_with fail
  refine (toS_any _ a len cap m (hA.below b4) hml).mono ?_
  rintro e w5 ⟨vX, rfl, hrX, k5⟩
  have b5 := b4.trans (k5.mono b4.size)
  clear k5 b4
  go_wp2_with fail
  refine (tin_any _ vX m (isM_of_row hrX) s (herr.below b5)).mono ?_
  rintro e w7 ⟨TG, rfl, hTG, k7⟩
  obtain rfl : TG = TS := ba_ext (hTG.trans hTS.symm)
  have b7 := b5.trans (k7.mono b5.size)
  have hrX7 := row_below hrX k7
  clear hrX b5 k7 hTG hTS
  go_wp2_with fail
  refine (toS_any _ a len cap m (hA.below b7) hml).mono ?_
  rintro e w9 ⟨vY, rfl, hrY, k9⟩
  have b9 := b7.trans (k9.mono b7.size)
  have hrX9 := row_below hrX7 k9
  clear hrX7 b7 k9
  go_wp2_with fail
  refine (eqM_true _ m hml _ _ (isM_of_row hrX9) (isM_of_row hrY)).mono ?_
  rintro e w10 ⟨rfl, k10⟩
  go_wp2
  go_ret
  exact ⟨rfl, b9.trans (k10.mono b9.size)⟩
end Go.Proofs.YtlejldaennlfaayDoor.XMapTextIn

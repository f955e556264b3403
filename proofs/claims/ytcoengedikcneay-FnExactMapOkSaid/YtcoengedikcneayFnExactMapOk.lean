/- The walk of the exact law on MapOk: it answers true. -/
import Derived.Test.YtcoengedikcneayExM
import Derived.Test.YtcoengedikcneayMi
import Derived.Test.YtcoengedikcneayMs
namespace Go.Proofs.Ytcoengedikcneay.XMapOk
open Go.RowKit Go.Proofs.Ytcoengedikcneay.Kit Go.Proofs.Ytcoengedikcneay.Mp Go.Proofs.Ytcoengedikcneay.Mm Go.Proofs.Ytcoengedikcneay.ExM Go.Proofs.Ytcoengedikcneay.Ml Go.Proofs.Ytcoengedikcneay.Ms Go.Proofs.Ytcoengedikcneay.App
set_option linter.unusedVariables false

set_option maxHeartbeats 1000000 in
theorem long (a : Option Addr) (len cap : Nat) (m : List (Int × Int × Int)) (w : World) (hA : ArgM w a len cap m) (h : (1048576 : Int) < (len : Int)) :
    Calls Try.prog 3 #[.slice a len cap] w fun e w' => e = .returned (.bool true) ∧ Below w.heap.size w w' := by
  have hm := Nat.le_trans hA.hc.1 hA.hc.2
  go_enter Try.func3, Try.ntmps3
  go_wp2_with fail
  refine (sz_big a len cap h hm _).mono ?_
  rintro e w1 ⟨rfl, rfl⟩
  go_wp2
  go_ret
  exact ⟨rfl, Below.refl _ _⟩

set_option maxRecDepth 8000 in
set_option maxHeartbeats 4000000 in
theorem short (a : Option Addr) (len cap : Nat) (m : List (Int × Int × Int)) (w : World) (hA : ArgM w a len cap m) (h : (len : Int) ≤ 1048576) :
    Calls Try.prog 3 #[.slice a len cap] w fun e w' => e = .returned (.bool true) ∧ Below w.heap.size w w' := by
  have hml : m.length ≤ 1048576 := by have hl := hA.hl; omega
  obtain ⟨ob, HO⟩ : ∃ ob, Hid (okM m = ob) := ⟨_, rfl⟩
  have h1 : 0 ≤ 1048576 - (len : Int) := by omega
  go_enter Try.func3, Try.ntmps3
  go_wp2_with fail
  refine (sz_ok a len cap h _).mono ?_
  rintro e w1 ⟨rfl, rfl⟩
  go_wp2_with fail
  refine (toS_any _ a len cap m hA hml).mono ?_
  rintro e w2 ⟨v2, rfl, hr2, k2⟩
  go_wp2_with fail
  refine (sok_any _ v2 m (isM_of_row hr2) (by omega)).mono ?_
  rintro e w3 ⟨rfl, k3⟩
  rw [HO.out]
  have b3 := k2.trans (k3.mono k2.size)
  clear hr2 k2 k3
  go_wp2_with fail
  refine (toS_any _ a len cap m (hA.below b3) hml).mono ?_
  rintro e w4 ⟨v4, rfl, hr4, k4⟩
  have hv4 := isM_of_row hr4
  have b4 := b3.trans (k4.mono b3.size)
  clear hr4 k4
  go_wp2_with fail
  refine (ok_any _ v4 m hv4).mono ?_
  rintro e w5 ⟨rfl, k5⟩
  rw [HO.out]
  have hv5 := hv4.below k5
  have b5 := b4.trans (k5.mono b4.size)
  clear hv4 k5
  go_wp2_with fail
  refine (toS_any _ a len cap m (hA.below b5) hml).mono ?_
  rintro e w6 ⟨v6, rfl, hr6, k6⟩
  have hv6 := isM_of_row hr6
  have b6 := b5.trans (k6.mono b5.size)
  have hv56 := hv5.below k6
  clear hr6 k6
  go_wp2_with fail
  refine (eqM_true _ m hml _ _ hv56 hv6).mono ?_
  rintro e w7 ⟨rfl, k7⟩
  go_wp2
  go_ret
  exact ⟨rfl, b6.trans (k7.mono b6.size)⟩
end Go.Proofs.Ytcoengedikcneay.XMapOk

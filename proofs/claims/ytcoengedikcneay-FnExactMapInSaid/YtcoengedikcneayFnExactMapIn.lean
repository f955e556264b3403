/- The walk of the exact law on MapIn: it answers true. -/
import Derived.Test.YtcoengedikcneayExM
import Derived.Test.YtcoengedikcneayMi
import Derived.Test.YtcoengedikcneayMr
namespace Go.Proofs.Ytcoengedikcneay.XMapIn
open Go.RowKit Go.Proofs.Ytcoengedikcneay.Kit Go.Proofs.Ytcoengedikcneay.Mp Go.Proofs.Ytcoengedikcneay.Mm Go.Proofs.Ytcoengedikcneay.ExM Go.Proofs.Ytcoengedikcneay.Ml Go.Proofs.Ytcoengedikcneay.Ms Go.Proofs.Ytcoengedikcneay.App
open Go.Proofs.Ytcoengedikcneay.EndW (endV)
set_option linter.unusedVariables false
set_option linter.unusedSimpArgs false

set_option maxHeartbeats 1000000 in
theorem long (a : Option Addr) (len cap : Nat) (m : List (Int × Int × Int)) (port : Int) (w : World) (hA : ArgM w a len cap m) (h : (1048576 : Int) < (len : Int)) :
    Calls Try.prog 5 #[.slice a len cap, .int .i64 port] w fun e w' => e = .returned (.bool true) ∧ Below w.heap.size w w' := by
  have hm := Nat.le_trans hA.hc.1 hA.hc.2
  go_enter Try.func5, Try.ntmps5
  go_wp2_with fail
  refine (sz_big a len cap h hm _).mono ?_
  rintro e w1 ⟨rfl, rfl⟩
  go_wp2
  go_ret
  exact ⟨rfl, Below.refl _ _⟩

theorem wf_range (n : Int) (h : (Lit.int .i64 n).wf = true) : -9223372036854775808 ≤ n ∧ n ≤ 9223372036854775807 := by
  simp [Lit.wf, IntKind.min, IntKind.max, IntKind.bits, IntKind.signed] at h; omega

set_option maxRecDepth 8000 in
set_option maxHeartbeats 8000000 in
theorem short (a : Option Addr) (len cap : Nat) (m : List (Int × Int × Int)) (port : Int) (w : World) (hA : ArgM w a len cap m) (hw : (Lit.int .i64 port).wf = true) (h : (len : Int) ≤ 1048576) :
    Calls Try.prog 5 #[.slice a len cap, .int .i64 port] w fun e w' => e = .returned (.bool true) ∧ Below w.heap.size w w' := by
  have hml : m.length ≤ 1048576 := by have hl := hA.hl; omega
  have h1 : 0 ≤ 1048576 - (len : Int) := by omega
  obtain ⟨p0, p1⟩ := wf_range port hw
  obtain ⟨mi, HO⟩ : ∃ mi, Hid (mIn m port = mi) := ⟨_, rfl⟩
  obtain ⟨⟨x, y⟩, ob⟩ := mi
  go_enter Try.func5, Try.ntmps5
  go_wp2_with fail
  refine (sz_ok a len cap h _).mono ?_
  rintro e w1 ⟨rfl, rfl⟩
  go_wp2_with fail
  refine (toS_any _ a len cap m hA hml).mono ?_
  rintro e w2 ⟨v2, rfl, hr2, k2⟩
  go_wp2_with fail
  refine (sin_any _ v2 m (isM_of_row hr2) (by omega) port p0 p1).mono ?_
  rintro e w3 ⟨rfl, k3⟩
  rw [HO.out]
  have b3 := k2.trans (k3.mono k2.size)
  have z3 := b3.size
  have bN : Below w3.heap.size w3 (w3.alloc (.cells #[.int .i64 x, .int .i64 y] 33)) := (Below.refl _ _).alloc (Nat.le_refl _) _
  have b3' := b3.trans (bN.mono b3.size)
  clear hr2 k2 k3
  go_wp2_with fail
  refine (toS_any _ a len cap m (hA.below b3') hml).mono ?_
  rintro e w4 ⟨v4, rfl, hr4, k4⟩
  have hv4 := isM_of_row hr4
  have b4 := b3'.trans (k4.mono b3'.size)
  have c40 : w4.cell? ⟨w3.heap.size, 0, none⟩ = some (.int .i64 x) := (k4.cell (p := ⟨w3.heap.size, 0, none⟩) (by simp)).trans (by simp)
  have c41 : w4.cell? ⟨w3.heap.size, 1, none⟩ = some (.int .i64 y) := (k4.cell (p := ⟨w3.heap.size, 1, none⟩) (by simp)).trans (by simp)
  have z4 : w3.heap.size < w4.heap.size := by have := k4.size; simp at this; omega
  clear hr4 k4
  go_wp2_with fail
  refine (in_any _ v4 m hv4 port hw).mono ?_
  rintro e w5 ⟨rfl, k5⟩
  rw [HO.out]
  have hv5 := hv4.below k5
  have b5 := b4.trans (k5.mono b4.size)
  have z5 := k5.size
  have c50 := (k5.cell (p := ⟨w3.heap.size, 0, none⟩) z4).trans c40
  have c51 := (k5.cell (p := ⟨w3.heap.size, 1, none⟩) z4).trans c41
  have bN5 : Below w5.heap.size w5 (w5.alloc (.cells #[.int .i64 x, .int .i64 y] 33)) := (Below.refl _ _).alloc (Nat.le_refl _) _
  have b5' := b5.trans (bN5.mono b5.size)
  have hv5' := hv5.below bN5
  have d50 := (bN5.cell (p := ⟨w3.heap.size, 0, none⟩) (by simp; omega)).trans c50
  have d51 := (bN5.cell (p := ⟨w3.heap.size, 1, none⟩) (by simp; omega)).trans c51
  clear hv4 k5 c40 c41 c50 c51 hv5
  go_wp2_with fail
  refine (eqEnd_true x y _).mono ?_
  rintro e w6 ⟨rfl, k6⟩
  have b6 := b5'.trans (k6.mono b5'.size)
  have hv6 := hv5'.below k6
  clear k6 d50 d51 hv5'
  go_wp2_with fail
  refine (toS_any _ a len cap m (hA.below b6) hml).mono ?_
  rintro e w7 ⟨v7, rfl, hr7, k7⟩
  have hv7 := isM_of_row hr7
  have b7 := b6.trans (k7.mono b6.size)
  have hv67 := hv6.below k7
  clear hr7 k7
  go_wp2_with fail
  refine (eqM_true _ m hml _ _ hv67 hv7).mono ?_
  rintro e w8 ⟨rfl, k8⟩
  go_wp2
  go_ret
  exact ⟨rfl, b7.trans (k8.mono b7.size)⟩
end Go.Proofs.Ytcoengedikcneay.XMapIn

/- For every door DoorOk of the program answers as DoorOk of its model, and its argument is as it was; listed library variables are tied to the program's text. -/
import Derived.Test.YtfmjhbdbgcgoiaaGreatDoorRows
import Derived.Test.YtfmjhbdbgcgoiaaGreatDoorCards
import Derived.Test.YtfmjhbdbgcgoiaaGreatDoorTie
import Derived.SevenTiedAt
import Derived.LaidMore
import Derived.Stop.Joined
import Derived.WalkKit
import Derived.ProofKit
import Derived.OpenShut
import Derived.ShutString
import Derived.ChangeOld
import Derived.Below
import Derived.Lib.SmallJoins
import Derived.Test.YtfmjhbdbgcgoiaaGreatDoorFnExactDoorOk
namespace Go.Proofs.YtfmjhbdbgcgoiaaGreatDoor.fnExactDoorOk
open Go.ChangeShapes Go.WideShapes Go.ChangeAt Go.RowKit Go.Joins
open Go.ChangeMaps (open_string shut_string)
set_option linter.unusedVariables false

theorem own : ownKnob Tryz.prog.godebug = none := by kernel_rfl
theorem laidOut : laidOutB Tryz.prog = true := by kernel_rfl
theorem cells25 : Tryz.prog.cellsOf 25 = 2 := by kernel_rfl
theorem walk (ma0 : Option Addr) (ml0 mc0 : Nat) (m0 : List (Int × Int × Int)) (fv0 : Value) (rs0 : List Dr.RF) (w : World) (w0 : ExD.ArgD w ma0 ml0 mc0 m0 fv0 rs0) (hL : laidMetH Tryz.prog Rows.fnExactDoorOkRow.laid w) :
    Calls Tryz.prog 3 #[.agg #[.slice ma0 ml0 mc0, fv0]] w fun e w' => e = .returned (.bool true) ∧ Below w.heap.size w w' := by
  by_cases h0 : ((m0.length + ExD.bulkQ rs0 : Nat) : Int) ≤ 1048576
  · exact XDoorOk.short ma0 ml0 mc0 m0 fv0 rs0 w w0 h0 (Read.errs_of_laid hL)
  · exact XDoorOk.long ma0 ml0 mc0 m0 fv0 rs0 w w0 h0

/-- the door's own heap meets the condition -/
theorem door_met (os : Os) (args : Array Value) : laidMetH Tryz.prog Rows.fnExactDoorOkRow.laid ((World.doorLaid Tryz.prog 62 os).forCall (fun _ _ => 0) ⟨#[], args, []⟩).memory :=
  laidMetH_of_parts3 (fuel := 8) (laidMet_of_run' 8 (by kernel_rfl) (by kernel_rfl)) (by kernel_rfl) (by kernel_rfl)

set_option maxRecDepth 100000 in
theorem lifted (os : Os) (started : os.Started) (H : Type) (enc : TypeId × Value → H) :
    ReturnsInHanded {} Tryz.checked os 3 .any (fun w args => (Rows.fnExactDoorOkSpec.pre enc Tryz.prog Tryz.f3 [] false w args ∧ laidMetH Tryz.prog Rows.fnExactDoorOkRow.laid w) ∧ sizedMet enc Tryz.prog Tryz.f3 (OpenSpec.ofChange Rows.fnExactDoorOkSpec) false w args)
      (Rows.fnExactDoorOkSpec.post enc Tryz.prog Tryz.f3 false true false false) := by
  refine returnsInHanded_of_change_and (C := Tryz.checked) (X := fun w _ => laidMetH Tryz.prog Rows.fnExactDoorOkRow.laid w) (fun _ _ _ hh h => h.of_heap hh) own started (by kernel_rfl) Tryz.func3
    (ChangeSpec.witness_shaped (enc := enc) (C := Tryz.checked) (os := os) (X := fun w _ => laidMetH Tryz.prog Rows.fnExactDoorOkRow.laid w) false (World.doorLaid Tryz.prog 62 os) #[.agg #[.slice none 0 0, .slice none 0 0]] 8 rfl (World.shaped_of_RefB (by kernel_rfl) (by kernel_rfl)) (by kernel_rfl) (by kernel_rfl) (by kernel_rfl) (door_met os _)) ?_
  intro W base args ds gs before hval0 hW _ _ hL _
  have hval : ∀ (j : Nat) t v, Tryz.f3.params[j]? = some t → args[j]? = some v → Value.okWide Tryz.prog W .any base t v := hval0
  have hW' := hW
  obtain ⟨p, q, hA0, hV, rfl, hfz, hnd⟩ := hW
  have hA : DataW.TrodAll enc Tryz.prog W 0 (fun _ => true) true Tryz.f3.params.toList args.toList ds p := hA0
  rw [Tryz.params3] at hA hval
  obtain ⟨v0, vs0, d0, ds0, p0, q0, hargs, rfl, rfl, h0, r0⟩ := trodAll_cons hA
  obtain ⟨rfl, rfl, rfl⟩ := trodAll_nil r0
  obtain rfl : args = #[v0] := by cases args; simp_all
  obtain ⟨rfl, rfl⟩ := trodVars_none hV
  have k0 := h0
  have lt0 : ∀ x ∈ p0, x.block < W.heap.size := by obtain ⟨m, hm⟩ := k0; exact DataW.trod_lt m _ _ _ hm
  obtain ⟨ma0, ml0, mc0, m0, fv0, rs0, rfl, w0⟩ := ExD.open_door Tryz.underlying25 (by kernel_rfl) cells25 rfl Tryz.underlying22 Tryz.underlying93 (by kernel_rfl) Tryz.underlying3 Tryz.underlying36 (by kernel_rfl) Tryz.underlying3 Tryz.underlying3 Tryz.underlying23 Tryz.underlying82 (by kernel_rfl) (by kernel_rfl) (by kernel_rfl) rfl rfl Tryz.underlying36 (by kernel_rfl) Tryz.underlying3 Tryz.underlying3 Tryz.underlying80 (by kernel_rfl) Tryz.underlying9 Tryz.underlying78 Tryz.underlying185 (by kernel_rfl) Tryz.underlying3 Tryz.underlying9 (hval 0 25 v0 rfl rfl) h0
  clear hA0 hval0
  refine (walk ma0 ml0 mc0 m0 fv0 rs0 W w0 hL).mono fun e W' ⟨he, bel⟩ => ?_
  subst he
  exact ⟨_, rfl, _, _, _, [], _, [], hW', trodAll_mk1 (shut_bool Tryz.underlying4 _), (trodAll_cons_mk (Below.trod laidOut (by kernel_rfl) (of_decide_eq_true (by kernel_rfl)) k0 bel lt0) trodAll_mk0), rfl, bel.frame _, fun h => by cases h⟩

theorem over : Rows.fnExactDoorOkRow.holds Tryz.pinned (OpenSpec.ofChange Rows.fnExactDoorOkSpec) :=
  OpenClaim.holds_of_wide 3 Tryz.f3 rfl rfl rfl rfl rfl rfl rfl ⟨rfl, rfl, rfl, rfl, rfl⟩ rfl rfl rfl rfl rfl (by kernel_rfl) Tryz.func3 (by kernel_rfl)
    (of_decide_eq_true (by kernel_rfl)) (by unfold Func.isWrapper; first | (rw [if_pos (by decide +kernel)]; kernel_rfl) | (rw [if_neg (by decide +kernel)]; exact ⟨rfl, rfl⟩))
    (fun os started H enc _ => lifted os started H enc)

theorem proved : Rows.FnExactDoorOkCardSaid :=
  Claim7.holds_tied_plain_at .later [] [.data, .data, .data, .sentinel, .sentinel] true (true, "8dc70ff7ff9a172f02736b6e4e23ce123e25179a3091c05a372d7aad0b16f119") true
    over (fun _ h => by cases h) (by kernel_rfl) (fun _ h => by cases h) fnExactDoorOk_row_tie rfl ⟨rfl, rfl⟩ (by kernel_rfl) rfl
    (fun f fn hf hfn => by
      obtain rfl : f = 3 := Option.some.inj ((show Tryz.prog.funcNamed "loop.example/ostiary/laws.FnExactDoorOk" = some 3 by kernel_rfl).symm.trans hf) |>.symm
      obtain rfl : fn = Tryz.f3 := (Option.some.inj (Tryz.func3.symm.trans hfn)).symm
      exact ⟨by kernel_rfl, fun j t ht => by
        rw [Tryz.params3] at ht
        have hm : t ∈ [25] := by simpa using Array.mem_of_getElem? ht
        have hall : ([25].all fun u => !Tryz.prog.wantsStandIn u) = true := by kernel_rfl
        exact (show Tryz.prog.wantsStandIn t = false by simpa using List.all_eq_true.1 hall t hm)⟩)
    (by kernel_rfl)
#print axioms proved
end Go.Proofs.YtfmjhbdbgcgoiaaGreatDoor.fnExactDoorOk

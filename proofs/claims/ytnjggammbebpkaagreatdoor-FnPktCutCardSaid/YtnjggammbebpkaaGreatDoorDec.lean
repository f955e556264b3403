/- Walks: small numbers in decimals, by the model. -/
import Derived.Test.YtnjggammbebpkaaGreatDoorItoa
import Derived.Test.YtnjggammbebpkaaGreatDoorKit
import Derived.Laws.BytesArg
import Derived.Deep.RegionWith
namespace Go.Proofs.YtnjggammbebpkaaGreatDoor.Itoa
open Go.RowKit Go.Proofs.YtnjggammbebpkaaGreatDoor.Kit

/-- whether a cell holds a byte -/
def isU8 : Option Value → Bool
  | some (.int .u8 _) => true
  | _ => false
/-- the text of one byte -/
def oneS : Option Value → ByteArray
  | some (.int .u8 m) => ⟨#[m.toNat.toUInt8]⟩
  | _ => ⟨#[]⟩
theorem isU8_int (m : Int) : isU8 (some (.int .u8 m)) = true := rfl
theorem oneS_int (m : Int) : oneS (some (.int .u8 m)) = ⟨#[m.toNat.toUInt8]⟩ := rfl

theorem conv1 (W : World) (b : Nat) (h : isU8 (W.cell? ⟨b, 0, none⟩) = true) :
    (convert 22 9 (.slice (some ⟨b, 0, none⟩) 1 1)).run Tryz.prog W = .ok (.string (oneS (W.cell? ⟨b, 0, none⟩))) W := by
  cases hc : W.cell? ⟨b, 0, none⟩ with
  | none => rw [hc] at h; cases h
  | some v =>
    rw [hc] at h
    cases v with
    | int k m =>
      cases k <;> try (cases h; done)
      have := run_convert_bytes_arg (P := Tryz.prog) W 22 5 Tryz.underlying22 Tryz.underlying5 b 0 1 1 [m] rfl (fun i hi => by
        obtain rfl : i = 0 := by omega
        simpa using hc) 9 Tryz.underlying9
      rw [this]
      rfl
    | _ => cases h

set_option maxHeartbeats 1000000 in
set_option maxRecDepth 100000 in
theorem dec_one (n : Int) (w : World) (h0 : 0 ≤ n) (h1 : n < 10) :
    Calls Tryz.prog 21 #[.int .i64 n] w fun e w' => e = .returned (.string (decS n)) ∧ Below w.heap.size w w' := by
  have hb : ¬ n < -9223372036854775807 := by omega
  have hc := conv1
  have hu := isU8_int
  have ho := oneS_int
  go_enter Tryz.func21, Tryz.ntmps21
  go_wp2
  go_ret
  exact ⟨by simp [decS, h1], (Below.refl _ _).alloc (Nat.le_refl _) _⟩

theorem decS_size (n : Int) : (decS n).size ≤ 2 := by
  unfold decS; split <;> exact Nat.le_of_ble_eq_true rfl
theorem decS_two (n : Int) (h0 : 10 ≤ n) (h1 : n < 100) : decS (n / 10) ++ ⟨#[(48 + n % 10).toNat.toUInt8]⟩ = decS n := by
  have e1 : decS (n / 10) = ⟨#[(48 + n / 10).toNat.toUInt8]⟩ := by unfold decS; rw [if_pos (by omega)]
  have e2 : decS n = ⟨#[(48 + n / 10).toNat.toUInt8, (48 + n % 10).toNat.toUInt8]⟩ := by unfold decS; rw [if_neg (by omega)]
  rw [e1, e2]
  rfl
theorem wrap_small (x : Int) (h0 : 0 ≤ x) (h1 : x < 1000) : IntKind.i64.wrap x = x := by
  simp [IntKind.wrap, IntKind.bits, IntKind.signed]; omega
theorem wrap_small8 (x : Int) (h0 : 0 ≤ x) (h1 : x < 256) : IntKind.u8.wrap x = x := by
  simp [IntKind.wrap, IntKind.bits, IntKind.signed]; omega

set_option maxHeartbeats 600000 in
set_option maxRecDepth 100000 in
theorem dec_two (n : Int) (w : World) (h0 : 10 ≤ n) (h1 : n < 100) :
    Calls Tryz.prog 21 #[.int .i64 n] w fun e w' => e = .returned (.string (decS n)) ∧ Below w.heap.size w w' := by
  have hb : ¬ n < -9223372036854775807 := by omega
  have hc := conv1
  have hu := isU8_int
  have ho := oneS_int
  have hq0 : 0 ≤ n / 10 := by omega
  have hq1 : n / 10 < 10 := by omega
  have hr0 : 0 ≤ n % 10 := by omega
  have hr1 : n % 10 < 10 := by omega
  have hs := decS_size (n / 10)
  have ea : IntKind.i64.wrap (n.tdiv 10) = n / 10 := by rw [Int.tdiv_eq_ediv_of_nonneg (by omega)]; exact wrap_small _ (by omega) (by omega)
  have eb : n.tmod 10 = n % 10 := Int.tmod_eq_emod_of_nonneg (by omega)
  have ec : IntKind.i64.wrap (48 + n % 10) = 48 + n % 10 := wrap_small _ (by omega) (by omega)
  have ed : IntKind.u8.wrap (48 + n % 10) = 48 + n % 10 := wrap_small8 _ (by omega) (by omega)
  go_enter Tryz.func21, Tryz.ntmps21
  go_wp2_with fail
  go_region_with (go_at_call 21; refine (dec_one _ _ hq0 hq1).mono ?_; rintro e w1 ⟨rfl, k1⟩; have z1 := k1.size; (try simp at z1); have c1 := bcell k1)
  all_goals
    go_wp2
    go_ret
    refine ⟨by rw [decS_two n h0 h1]; rfl, ?_⟩
    first
    | exact Below.alloc (((Below.refl w.heap.size w).drew).trans (k1.mono (Nat.le_refl _))) z1 _
    | exact (((Below.refl w.heap.size w).alloc (Nat.le_refl _) _).drew).trans (k1.mono (by simp))

theorem dec_any (n : Int) (w : World) (h0 : 0 ≤ n) (h1 : n < 100) :
    Calls Tryz.prog 21 #[.int .i64 n] w fun e w' => e = .returned (.string (decS n)) ∧ Below w.heap.size w w' := by
  by_cases h : n < 10
  · exact dec_one n w h0 h
  · exact dec_two n w (by omega) h1

end Go.Proofs.YtnjggammbebpkaaGreatDoor.Itoa

/- Walks: small numbers in decimals, by the library and by the model. -/
import Derived.Test.YtfmjhbdbgcgoiaaGreatDoorRows
import Derived.WalkKit
import Derived.ProofKit
import Derived.WalkLawsBesides
import Derived.WalkSpells
import Derived.Below
import Derived.Test.YtfmjhbdbgcgoiaaGreatDoorKit
import Derived.Laws.BytesArg
import Derived.Deep.RegionWith
import Derived.Test.YtfmjhbdbgcgoiaaGreatDoorEndV
import Derived.BigQuiet
import Derived.Deep.QuietTactic
namespace Go.Proofs.YtfmjhbdbgcgoiaaGreatDoor.Itoa
open Go.RowKit

/-- a number below 100 in decimals -/
def decS (n : Int) : ByteArray := if n < 10 then ⟨#[(48 + n).toNat.toUInt8]⟩ else ⟨#[(48 + n / 10).toNat.toUInt8, (48 + n % 10).toNat.toUInt8]⟩

theorem digs (n : Int) (h0 : 0 ≤ n) (h1 : n < 10) : (ByteArray.mk #[48, 49, 50, 51, 52, 53, 54, 55, 56, 57, 97, 98, 99, 100, 101, 102, 103, 104, 105, 106, 107, 108, 109, 110, 111, 112, 113, 114, 115, 116, 117, 118, 119, 120, 121, 122]).extract n.toNat (n + 1).toNat = decS n := by
  have : n = 0 ∨ n = 1 ∨ n = 2 ∨ n = 3 ∨ n = 4 ∨ n = 5 ∨ n = 6 ∨ n = 7 ∨ n = 8 ∨ n = 9 := by omega
  rcases this with rfl | rfl | rfl | rfl | rfl | rfl | rfl | rfl | rfl | rfl <;> decide +kernel

set_option maxHeartbeats 1000000 in
theorem small_one (n : Int) (w : World) (h0 : 0 ≤ n) (h1 : n < 10) :
    Calls Tryz.prog 190 #[.int .i64 n] w fun e w' => e = .returned (.string (decS n)) ∧ w' = w := by
  go_enter Tryz.func190, Tryz.ntmps190
  go_wp2
  go_ret
  exact ⟨by rw [digs n h0 h1]; rfl, rfl⟩

set_option maxRecDepth 100000 in
theorem digs2k : ∀ k : Fin 90, (ByteArray.mk #[48, 48, 48, 49, 48, 50, 48, 51, 48, 52, 48, 53, 48, 54, 48, 55, 48, 56, 48, 57, 49, 48, 49, 49, 49, 50, 49, 51, 49, 52, 49, 53, 49, 54, 49, 55, 49, 56, 49, 57, 50, 48, 50, 49, 50, 50, 50, 51, 50, 52, 50, 53, 50, 54, 50, 55, 50, 56, 50, 57, 51, 48, 51, 49, 51, 50, 51, 51, 51, 52, 51, 53, 51, 54, 51, 55, 51, 56, 51, 57, 52, 48, 52, 49, 52, 50, 52, 51, 52, 52, 52, 53, 52, 54, 52, 55, 52, 56, 52, 57, 53, 48, 53, 49, 53, 50, 53, 51, 53, 52, 53, 53, 53, 54, 53, 55, 53, 56, 53, 57, 54, 48, 54, 49, 54, 50, 54, 51, 54, 52, 54, 53, 54, 54, 54, 55, 54, 56, 54, 57, 55, 48, 55, 49, 55, 50, 55, 51, 55, 52, 55, 53, 55, 54, 55, 55, 55, 56, 55, 57, 56, 48, 56, 49, 56, 50, 56, 51, 56, 52, 56, 53, 56, 54, 56, 55, 56, 56, 56, 57, 57, 48, 57, 49, 57, 50, 57, 51, 57, 52, 57, 53, 57, 54, 57, 55, 57, 56, 57, 57]).extract ((k.val + 10) * 2) ((k.val + 10) * 2 + 2) = decS ((k.val : Int) + 10) := by decide +kernel

set_option maxRecDepth 100000 in
theorem digs2 (n : Int) (h0 : 10 ≤ n) (h1 : n < 100) : (ByteArray.mk #[48, 48, 48, 49, 48, 50, 48, 51, 48, 52, 48, 53, 48, 54, 48, 55, 48, 56, 48, 57, 49, 48, 49, 49, 49, 50, 49, 51, 49, 52, 49, 53, 49, 54, 49, 55, 49, 56, 49, 57, 50, 48, 50, 49, 50, 50, 50, 51, 50, 52, 50, 53, 50, 54, 50, 55, 50, 56, 50, 57, 51, 48, 51, 49, 51, 50, 51, 51, 51, 52, 51, 53, 51, 54, 51, 55, 51, 56, 51, 57, 52, 48, 52, 49, 52, 50, 52, 51, 52, 52, 52, 53, 52, 54, 52, 55, 52, 56, 52, 57, 53, 48, 53, 49, 53, 50, 53, 51, 53, 52, 53, 53, 53, 54, 53, 55, 53, 56, 53, 57, 54, 48, 54, 49, 54, 50, 54, 51, 54, 52, 54, 53, 54, 54, 54, 55, 54, 56, 54, 57, 55, 48, 55, 49, 55, 50, 55, 51, 55, 52, 55, 53, 55, 54, 55, 55, 55, 56, 55, 57, 56, 48, 56, 49, 56, 50, 56, 51, 56, 52, 56, 53, 56, 54, 56, 55, 56, 56, 56, 57, 57, 48, 57, 49, 57, 50, 57, 51, 57, 52, 57, 53, 57, 54, 57, 55, 57, 56, 57, 57]).extract (n * 2).toNat (n * 2 + 2).toNat = decS n := by
  obtain ⟨k, rfl⟩ : ∃ k : Nat, n = (k : Int) + 10 := ⟨(n - 10).toNat, by omega⟩
  have e1 : (((k : Int) + 10) * 2).toNat = (k + 10) * 2 := by omega
  have e2 : (((k : Int) + 10) * 2 + 2).toNat = (k + 10) * 2 + 2 := by omega
  rw [e1, e2]
  exact digs2k ⟨k, by omega⟩

set_option maxHeartbeats 1000000 in
set_option maxRecDepth 100000 in
theorem small_two (n : Int) (w : World) (h0 : 10 ≤ n) (h1 : n < 100) :
    Calls Tryz.prog 190 #[.int .i64 n] w fun e w' => e = .returned (.string (decS n)) ∧ w' = w := by
  go_enter Tryz.func190, Tryz.ntmps190
  go_wp2
  go_ret
  exact ⟨by rw [digs2 n h0 h1]; rfl, rfl⟩

theorem small_any (n : Int) (w : World) (h0 : 0 ≤ n) (h1 : n < 100) :
    Calls Tryz.prog 190 #[.int .i64 n] w fun e w' => e = .returned (.string (decS n)) ∧ w' = w := by
  by_cases h : n < 10
  · exact small_one n w h0 h
  · exact small_two n w (by omega) h1

set_option maxHeartbeats 400000 in
theorem format_any (n : Int) (w : World) (h0 : 0 ≤ n) (h1 : n < 100) :
    Calls Tryz.prog 184 #[.int .i64 n, .int .i64 10] w fun e w' => e = .returned (.string (decS n)) ∧ w' = w := by
  go_enter Tryz.func184, Tryz.ntmps184
  go_wp2_with (go_at_call 190; refine (small_any _ _ h0 h1).mono ?_; rintro e w1 ⟨rfl, rfl⟩)
  go_ret
  exact ⟨rfl, rfl⟩

set_option maxHeartbeats 400000 in
theorem initoa_any (n : Int) (w : World) (h0 : 0 ≤ n) (h1 : n < 100) :
    Calls Tryz.prog 174 #[.int .i64 n] w fun e w' => e = .returned (.string (decS n)) ∧ w' = w := by
  go_enter Tryz.func174, Tryz.ntmps174
  go_wp2_with (go_at_call 184; refine (format_any _ _ h0 h1).mono ?_; rintro e w1 ⟨rfl, rfl⟩)
  go_ret
  exact ⟨rfl, rfl⟩

set_option maxHeartbeats 400000 in
theorem itoa_any (n : Int) (w : World) (h0 : 0 ≤ n) (h1 : n < 100) :
    Calls Tryz.prog 169 #[.int .i64 n] w fun e w' => e = .returned (.string (decS n)) ∧ w' = w := by
  go_enter Tryz.func169, Tryz.ntmps169
  go_wp2_with (go_at_call 174; refine (initoa_any _ _ h0 h1).mono ?_; rintro e w1 ⟨rfl, rfl⟩)
  go_ret
  exact ⟨rfl, rfl⟩

end Go.Proofs.YtfmjhbdbgcgoiaaGreatDoor.Itoa

/- Walks: small numbers in decimals, by the model. -/
namespace Go.Proofs.YtfmjhbdbgcgoiaaGreatDoor.Itoa
open Go.RowKit Go.Proofs.YtfmjhbdbgcgoiaaGreatDoor.Kit

/-- whether a cell holds a byte -/
def isU8 : Option Value → Bool
  | some (.int .u8 _) => true
  | _ => false
/-- the text of one byte -/
def oneS : Option Value → ByteArray
  | some (.int .u8 m) => ⟨#[m.toNat.toUInt8]⟩
  | _ => ⟨#[]⟩
theorem isU8_int (m : Int) : isU8 (some (.int .u8 m)) = true := rfl
theorem oneS_int (m : Int) : oneS (some (.int .u8 m)) = ⟨#[m.toNat.toUInt8]⟩ := rfl

theorem conv1 (W : World) (b : Nat) (h : isU8 (W.cell? ⟨b, 0, none⟩) = true) :
    (convert 156 9 (.slice (some ⟨b, 0, none⟩) 1 1)).run Tryz.prog W = .ok (.string (oneS (W.cell? ⟨b, 0, none⟩))) W := by
  cases hc : W.cell? ⟨b, 0, none⟩ with
  | none => rw [hc] at h; cases h
  | some v =>
    rw [hc] at h
    cases v with
    | int k m =>
      cases k <;> try (cases h; done)
      have := run_convert_bytes_arg (P := Tryz.prog) W 156 5 Tryz.underlying156 Tryz.underlying5 b 0 1 1 [m] rfl (fun i hi => by
        obtain rfl : i = 0 := by omega
        simpa using hc) 9 Tryz.underlying9
      rw [this]
      rfl
    | _ => cases h

set_option maxHeartbeats 1000000 in
set_option maxRecDepth 100000 in
theorem dec_one (n : Int) (w : World) (h0 : 0 ≤ n) (h1 : n < 10) :
    Calls Tryz.prog 140 #[.int .i64 n] w fun e w' => e = .returned (.string (decS n)) ∧ Below w.heap.size w w' := by
  have hb : ¬ n < -9223372036854775807 := by omega
  have hc := conv1
  have hu := isU8_int
  have ho := oneS_int
  go_enter Tryz.func140, Tryz.ntmps140
  go_wp2
  go_ret
  exact ⟨by simp [decS, h1], (Below.refl _ _).alloc (Nat.le_refl _) _⟩

theorem decS_size (n : Int) : (decS n).size ≤ 2 := by
  unfold decS; split <;> exact Nat.le_of_ble_eq_true rfl
theorem decS_two (n : Int) (h0 : 10 ≤ n) (h1 : n < 100) : decS (n / 10) ++ ⟨#[(48 + n % 10).toNat.toUInt8]⟩ = decS n := by
  have e1 : decS (n / 10) = ⟨#[(48 + n / 10).toNat.toUInt8]⟩ := by unfold decS; rw [if_pos (by omega)]
  have e2 : decS n = ⟨#[(48 + n / 10).toNat.toUInt8, (48 + n % 10).toNat.toUInt8]⟩ := by unfold decS; rw [if_neg (by omega)]
  rw [e1, e2]
  rfl
theorem wrap_small (x : Int) (h0 : 0 ≤ x) (h1 : x < 1000) : IntKind.i64.wrap x = x := by
  simp [IntKind.wrap, IntKind.bits, IntKind.signed]; omega
theorem wrap_small8 (x : Int) (h0 : 0 ≤ x) (h1 : x < 256) : IntKind.u8.wrap x = x := by
  simp [IntKind.wrap, IntKind.bits, IntKind.signed]; omega

set_option maxHeartbeats 600000 in
set_option maxRecDepth 100000 in
theorem dec_two (n : Int) (w : World) (h0 : 10 ≤ n) (h1 : n < 100) :
    Calls Tryz.prog 140 #[.int .i64 n] w fun e w' => e = .returned (.string (decS n)) ∧ Below w.heap.size w w' := by
  have hb : ¬ n < -9223372036854775807 := by omega
  have hc := conv1
  have hu := isU8_int
  have ho := oneS_int
  have hq0 : 0 ≤ n / 10 := by omega
  have hq1 : n / 10 < 10 := by omega
  have hr0 : 0 ≤ n % 10 := by omega
  have hr1 : n % 10 < 10 := by omega
  have hs := decS_size (n / 10)
  have ea : IntKind.i64.wrap (n.tdiv 10) = n / 10 := by rw [Int.tdiv_eq_ediv_of_nonneg (by omega)]; exact wrap_small _ (by omega) (by omega)
  have eb : n.tmod 10 = n % 10 := Int.tmod_eq_emod_of_nonneg (by omega)
  have ec : IntKind.i64.wrap (48 + n % 10) = 48 + n % 10 := wrap_small _ (by omega) (by omega)
  have ed : IntKind.u8.wrap (48 + n % 10) = 48 + n % 10 := wrap_small8 _ (by omega) (by omega)
  go_enter Tryz.func140, Tryz.ntmps140
  go_wp2_with fail
  go_region_with (go_at_call 140; refine (dec_one _ _ hq0 hq1).mono ?_; rintro e w1 ⟨rfl, k1⟩; have z1 := k1.size; (try simp at z1); have c1 := bcell k1)
  all_goals
    go_wp2
    go_ret
    refine ⟨by rw [decS_two n h0 h1]; rfl, ?_⟩
    first
    | exact Below.alloc (((Below.refl w.heap.size w).drew).trans (k1.mono (Nat.le_refl _))) z1 _
    | exact (((Below.refl w.heap.size w).alloc (Nat.le_refl _) _).drew).trans (k1.mono (by simp))

theorem dec_any (n : Int) (w : World) (h0 : 0 ≤ n) (h1 : n < 100) :
    Calls Tryz.prog 140 #[.int .i64 n] w fun e w' => e = .returned (.string (decS n)) ∧ Below w.heap.size w w' := by
  by_cases h : n < 10
  · exact dec_one n w h0 h
  · exact dec_two n w (by omega) h1

end Go.Proofs.YtfmjhbdbgcgoiaaGreatDoor.Itoa

/- Walks: the text of an end, of the program and of its model, is the same. -/
namespace Go.Proofs.YtfmjhbdbgcgoiaaGreatDoor.Text
open Go.RowKit Go.Proofs.YtfmjhbdbgcgoiaaGreatDoor.Kit
open Go.Proofs.YtfmjhbdbgcgoiaaGreatDoor.EndW
open Go.Proofs.YtfmjhbdbgcgoiaaGreatDoor.Itoa (decS decS_size dec_any)
open Go.Proofs.YtfmjhbdbgcgoiaaGreatDoor.Itoa (itoa_any)

/-- the text of an end -/
def txt (a p : Int) : ByteArray := if sideZ a p = 0 then ⟨#[]⟩ else decS a ++ ⟨#[58]⟩ ++ decS p

theorem below_drewN (B : Nat) (w : World) (n : Nat) : Below B w (w.drewN n) := ⟨rfl, rfl, rfl, Nat.le_refl _, fun _ _ => rfl⟩

theorem side_bd (a p : Int) (h : sideZ a p ≠ 0) : 1 ≤ a ∧ a ≤ 9 ∧ 1 ≤ p ∧ p ≤ 17 := by
  unfold sideZ at h
  split at h
  · omega
  · split at h
    · omega
    · split at h
      · omega
      · exact absurd rfl h

set_option maxHeartbeats 1000000 in
theorem implText (a p : Int) (w : World) :
    Calls Tryz.prog 164 #[endV a p] w fun e w' => e = .returned (.string (txt a p)) ∧ Below w.heap.size w w' := by
  by_cases h : sideZ a p = 0
  · have e0 : txt a p = ⟨#[]⟩ := by unfold txt; rw [if_pos h]
    rw [e0]; clear e0
    go_enter Tryz.func164, Tryz.ntmps164
    go_wp2_with (go_at_call 106; refine (side_any _ _ _).mono ?_; rintro e w1 ⟨rfl, k1⟩)
    go_ret
    exact ⟨rfl, ((Below.refl _ _).alloc (Nat.le_refl _) _).trans (k1.mono (by simp))⟩
  · have e0 : txt a p = decS a ++ ⟨#[58]⟩ ++ decS p := by unfold txt; rw [if_neg h]
    rw [e0]; clear e0
    have hbd := side_bd a p h
    have hne : (sideZ a p == 0) = false := by simpa using h
    have s1 := decS_size a
    have s2 := decS_size p
    go_enter Tryz.func164, Tryz.ntmps164
    go_wp2_with (go_at_call 106; refine (side_any _ _ _).mono ?_; rintro e w1 ⟨rfl, k1⟩; have z1 := k1.size; (try simp at z1); have c1 := keepc k1 w.heap.size (by first | omega | (simp; done) | (simp; omega)))
    go_quiet ((go_at_call 169; exact Calls.quiet_of_same (itoa_any _ _ (by omega) (by omega))))
    go_wp2
    go_ret
    exact ⟨rfl, ((((Below.refl _ _).alloc (Nat.le_refl _) _).trans (k1.mono (by simp)))).trans (below_drewN _ _ _)⟩

theorem side_or (a p : Int) : (sideZ a p != 0) = (isB 1 a p || isB 2 a p || isB 3 a p) := by
  unfold isB
  rw [Bool.eq_iff_iff]
  simp only [bne_iff_ne, Bool.or_eq_true, beq_iff_eq]
  unfold sideZ
  split
  · omega
  · split
    · omega
    · split <;> omega

set_option maxHeartbeats 1000000 in
theorem any_spec (a p : Int) (w : World) :
    Calls Tryz.prog 66 #[endV a p] w fun e w' => e = .returned (.bool (sideZ a p != 0)) ∧ Below w.heap.size w w' := by
  rw [side_or]
  cases hI : isB 1 a p
  · cases hO : isB 2 a p
    · go_enter Tryz.func66, Tryz.ntmps66
      go_wp2_with fail
      refine (spec1 _ _ _).mono ?_
      rintro e w1 ⟨rfl, k1⟩
      have z1 := k1.size
      simp at z1
      have c1 := keepc k1 w.heap.size (by first | omega | (simp; done) | (simp; omega))
      go_wp2_with fail
      refine (spec2 _ _ _).mono ?_
      rintro e w2 ⟨rfl, k2⟩
      have z2 := k2.size
      have c2 := fun j => (keepc k2 w.heap.size (by first | omega | (simp; done) | (simp; omega)) j).trans (c1 j)
      go_wp2_with fail
      refine (spec3 _ _ _).mono ?_
      rintro e w3 ⟨rfl, k3⟩
      go_wp2_with fail
      go_ret
      exact ⟨rfl, ((((Below.refl _ _).alloc (Nat.le_refl _) _).trans (k1.mono (by first | omega | (simp; done) | (simp; omega)))).trans (k2.mono (by first | omega | (simp; done) | (simp; omega)))).trans (k3.mono (by first | omega | (simp; done) | (simp; omega)))⟩
    · go_enter Tryz.func66, Tryz.ntmps66
      go_wp2_with fail
      refine (spec1 _ _ _).mono ?_
      rintro e w1 ⟨rfl, k1⟩
      have z1 := k1.size
      simp at z1
      have c1 := keepc k1 w.heap.size (by first | omega | (simp; done) | (simp; omega))
      go_wp2_with fail
      refine (spec2 _ _ _).mono ?_
      rintro e w2 ⟨rfl, k2⟩
      go_wp2_with fail
      go_ret
      exact ⟨rfl, (((Below.refl _ _).alloc (Nat.le_refl _) _).trans (k1.mono (by first | omega | (simp; done) | (simp; omega)))).trans (k2.mono (by first | omega | (simp; done) | (simp; omega)))⟩
  · go_enter Tryz.func66, Tryz.ntmps66
    go_wp2_with fail
    refine (spec1 _ _ _).mono ?_
    rintro e w1 ⟨rfl, k1⟩
    go_wp2_with fail
    go_ret
    exact ⟨rfl, ((Below.refl _ _).alloc (Nat.le_refl _) _).trans (k1.mono (by first | omega | (simp; done) | (simp; omega)))⟩

set_option maxHeartbeats 1000000 in
theorem specText (a p : Int) (w : World) :
    Calls Tryz.prog 123 #[endV a p] w fun e w' => e = .returned (.string (txt a p)) ∧ Below w.heap.size w w' := by
  by_cases h : sideZ a p = 0
  · have e0 : txt a p = ⟨#[]⟩ := by unfold txt; rw [if_pos h]
    rw [e0]; clear e0
    have hne : (sideZ a p != 0) = false := by simpa using h
    go_enter Tryz.func123, Tryz.ntmps123
    go_wp2_with (go_at_call 66; refine (any_spec _ _ _).mono ?_; rintro e w1 ⟨rfl, k1⟩)
    go_ret
    exact ⟨rfl, ((Below.refl _ _).alloc (Nat.le_refl _) _).trans (k1.mono (by simp))⟩
  · have e0 : txt a p = decS a ++ ⟨#[58]⟩ ++ decS p := by unfold txt; rw [if_neg h]
    rw [e0]; clear e0
    have hbd := side_bd a p h
    have hne : (sideZ a p != 0) = true := by simpa using h
    have s1 := decS_size a
    have s2 := decS_size p
    go_enter Tryz.func123, Tryz.ntmps123
    go_wp2_with (go_at_call 66; refine (any_spec _ _ _).mono ?_; rintro e w1 ⟨rfl, k1⟩; have z1 := k1.size; (try simp at z1); have c1 := keepc k1 w.heap.size (by first | omega | (simp; done) | (simp; omega)))
    have bel : Below w.heap.size w w1 := ((Below.refl _ _).alloc (Nat.le_refl _) _).trans (k1.mono (by first | omega | (simp; done) | (simp; omega)))
    go_region_with (go_at_call 140; refine (dec_any _ _ (by omega) (by omega)).mono ?_; rintro e w2 ⟨rfl, k2⟩; have z2 := k2.size; (try simp at z2); have c2 := keepc k2 w.heap.size (by first | omega | (simp; done) | (simp; omega)); first | have bel := bel.trans (k2.mono (by first | omega | (simp; done) | (simp; omega))) | have bel := bel.drew.trans (k2.mono (by first | omega | (simp; done) | (simp; omega))))
    all_goals
      go_wp2
      go_ret
      exact ⟨rfl, bel⟩
end Go.Proofs.YtfmjhbdbgcgoiaaGreatDoor.Text

/- Plain facts on the texts of ends: what they are, byte by byte. -/
namespace Go.Proofs.YtfmjhbdbgcgoiaaGreatDoor.Text
open Go.RowKit
open Go.Proofs.YtfmjhbdbgcgoiaaGreatDoor.EndW (sideZ)
open Go.Proofs.YtfmjhbdbgcgoiaaGreatDoor.Itoa (decS)

/-- a figure -/
def fig (n : Int) : UInt8 := (48 + n).toNat.toUInt8
/-- the text of an end that is any, byte by byte -/
def txtL (a p : Int) : List UInt8 := if p < 10 then [fig a, 58, fig p] else [fig a, 58, fig (p / 10), fig (p % 10)]

theorem txt_list (a p : Int) (h : sideZ a p ≠ 0) : (txt a p).toList = txtL a p := by
  have hb := side_bd a p h
  unfold txt txtL
  rw [if_neg h, ByteArray.toList_eq]
  have e1 : decS a = ⟨#[fig a]⟩ := by unfold decS; rw [if_pos (by omega)]; rfl
  rw [e1]
  by_cases hp : p < 10
  · have e2 : decS p = ⟨#[fig p]⟩ := by unfold decS; rw [if_pos hp]; rfl
    rw [e2, if_pos hp]; rfl
  · have e2 : decS p = ⟨#[fig (p / 10), fig (p % 10)]⟩ := by unfold decS; rw [if_neg hp]; rfl
    rw [e2, if_neg hp]; rfl

theorem emp (x y : Int) : (txt x y).toList.isEmpty = (sideZ x y == 0) := by
  by_cases h : sideZ x y = 0
  · unfold txt
    rw [if_pos h, h, ByteArray.toList_eq]; rfl
  · have hb : (sideZ x y == 0) = false := by simpa using h
    rw [hb, txt_list x y h]
    unfold txtL; split <;> rfl

theorem fig_inj (a b : Int) (h0 : 0 ≤ a) (h1 : a ≤ 100) (h2 : 0 ≤ b) (h3 : b ≤ 100) (h : fig a = fig b) : a = b := by
  unfold fig at h
  have h4 := congrArg UInt8.toNat h
  have e : ∀ n : Nat, n < 256 → (n.toUInt8).toNat = n := fun n hn => by
    simp [Nat.toUInt8, Nat.mod_eq_of_lt hn]
  rw [e _ (by omega), e _ (by omega)] at h4
  omega

theorem txt_len (a p : Int) (h : sideZ a p ≠ 0) : (txt a p).size = if p < 10 then 3 else 4 := by
  have e : (txt a p).size = (txt a p).toList.length := by rw [ByteArray.toList_eq, Array.length_toList]; rfl
  rw [e, txt_list a p h]
  unfold txtL
  split <;> rfl

theorem txtL_inj (a b c d : Int) (h1 : sideZ a b ≠ 0) (h2 : sideZ c d ≠ 0) (h : txtL a b = txtL c d) : a = c ∧ b = d := by
  have k1 := side_bd a b h1
  have k2 := side_bd c d h2
  unfold txtL at h
  split at h <;> split at h
  · simp only [List.cons.injEq] at h
    exact ⟨fig_inj _ _ (by omega) (by omega) (by omega) (by omega) h.1, fig_inj _ _ (by omega) (by omega) (by omega) (by omega) h.2.2.1⟩
  · simp at h
  · simp at h
  · simp only [List.cons.injEq] at h
    have e1 := fig_inj _ _ (by omega) (by omega) (by omega) (by omega) h.1
    have e2 := fig_inj _ _ (by omega) (by omega) (by omega) (by omega) h.2.2.1
    have e3 := fig_inj _ _ (by omega) (by omega) (by omega) (by omega) h.2.2.2.1
    omega

theorem txt_beq (a b c d : Int) (h1 : sideZ a b ≠ 0) (h2 : sideZ c d ≠ 0) (h : ¬ (a = c ∧ b = d)) : ((txt a b).toList == (txt c d).toList) = false := by
  rw [txt_list a b h1, txt_list c d h2]
  rw [beq_eq_false_iff_ne]
  intro e
  exact h (txtL_inj a b c d h1 h2 e)
end Go.Proofs.YtfmjhbdbgcgoiaaGreatDoor.Text

/- Plain facts on texts: what is ok, what is held. No program is named here. -/
namespace Go.Proofs.YtfmjhbdbgcgoiaaGreatDoor.Tx
open Go.RowKit

/-- a byte that a text may have -/
def byteB (c : UInt8) : Bool := decide (97 ≤ c.toNat ∧ c.toNat ≤ 122 ∨ 48 ≤ c.toNat ∧ c.toNat ≤ 57 ∨ c.toNat = 64 ∨ c.toNat = 58 ∨ c.toNat = 59)
/-- a text that is ok -/
def okB (l : List UInt8) : Bool := decide (l.length ≤ 40) && l.all byteB

theorem lenL (s : ByteArray) : s.data.toList.length = s.size := Array.length_toList
theorem ok_long (s : ByteArray) (h : 40 < s.size) : okB s.data.toList = false := by
  unfold okB; rw [lenL]; simp; omega
theorem ok_bad (l : List UInt8) (k : Nat) (hk : k < l.length) (hb : byteB l[k] = false) : okB l = false := by
  simp only [okB, Bool.and_eq_false_iff]
  refine .inr ?_
  rw [List.all_eq_false]
  exact ⟨_, List.getElem_mem hk, by simp [hb]⟩
theorem ok_good (l : List UInt8) (h : l.length ≤ 40) (ha : l.all byteB = true) : okB l = true := by
  simp only [okB, ha, Bool.and_true, decide_eq_true_eq]; omega
theorem ok_parts (l : List UInt8) (h : okB l = true) : l.length ≤ 40 ∧ ∀ c ∈ l, byteB c = true := by
  simp only [okB, Bool.and_eq_true, decide_eq_true_eq, List.all_eq_true] at h; exact h
/-- bytes of a text up to i are ok -/
theorem all_take (l : List UInt8) (i : Nat) (h : i < l.length) : (l.take (i + 1)).all byteB = ((l.take i).all byteB && byteB l[i]) := by
  rw [List.take_add_one, List.all_append]
  simp [List.getElem?_eq_getElem h]

/-- how many bytes are held behind one more -/
def stepN (st : Nat) (c : UInt8) : Nat :=
  if c.toNat = 64 then 1
  else if st = 1 ∧ 49 ≤ c.toNat ∧ c.toNat ≤ 57 then 2
  else if st = 2 ∧ c.toNat = 58 then 3
  else if st = 3 ∧ 49 ≤ c.toNat ∧ c.toNat ≤ 57 then 4
  else if st = 4 ∧ 48 ≤ c.toNat ∧ c.toNat ≤ 57 then 5
  else 0
/-- how many bytes are held -/
def heldN (l : List UInt8) : Nat := l.foldl stepN 0

theorem stepN_le (st : Nat) (c : UInt8) : stepN st c ≤ 5 := by
  unfold stepN; repeat' split
  all_goals omega
theorem heldN_nil : heldN [] = 0 := rfl
theorem heldN_snoc (l : List UInt8) (c : UInt8) : heldN (l ++ [c]) = stepN (heldN l) c := by simp [heldN]
theorem held_take (l : List UInt8) (i : Nat) (h : i < l.length) : heldN (l.take (i + 1)) = stepN (heldN (l.take i)) l[i] := by
  rw [List.take_add_one, List.getElem?_eq_getElem h]; exact heldN_snoc _ _
theorem heldN_app (l m : List UInt8) : heldN (l ++ m) = m.foldl stepN (heldN l) := by simp [heldN]
theorem fold_le (m : List UInt8) (n : Nat) (h : n ≤ 5) : m.foldl stepN n ≤ 5 := by
  induction m generalizing n with
  | nil => exact h
  | cons a m ih => exact ih _ (stepN_le _ _)
theorem heldN_le (l : List UInt8) : heldN l ≤ 5 := fold_le l 0 (by omega)
theorem step1 (st : Nat) (c : UInt8) : stepN st c = 1 ↔ c.toNat = 64 := by
  unfold stepN; repeat' split
  all_goals omega
theorem step2 (st : Nat) (c : UInt8) : stepN st c = 2 ↔ st = 1 ∧ 49 ≤ c.toNat ∧ c.toNat ≤ 57 := by
  unfold stepN; repeat' split
  all_goals omega
theorem step3 (st : Nat) (c : UInt8) : stepN st c = 3 ↔ st = 2 ∧ c.toNat = 58 := by
  unfold stepN; repeat' split
  all_goals omega
theorem step4 (st : Nat) (c : UInt8) : stepN st c = 4 ↔ st = 3 ∧ 49 ≤ c.toNat ∧ c.toNat ≤ 57 := by
  unfold stepN; repeat' split
  all_goals omega
theorem step5 (st : Nat) (c : UInt8) : stepN st c = 5 ↔ st = 4 ∧ 48 ≤ c.toNat ∧ c.toNat ≤ 57 := by
  unfold stepN; repeat' split
  all_goals omega

theorem snocs (l : List UInt8) : l = [] ∨ ∃ p c, l = p ++ [c] := by
  rcases List.eq_nil_or_concat l with h | ⟨p, c, h⟩
  · exact .inl h
  · exact .inr ⟨p, c, by rw [h, List.concat_eq_append]⟩

/-- the k-th byte from the end is as it must be in what is held -/
theorem held1 (l : List UInt8) : heldN l = 1 ↔ ∃ p a, l = p ++ [a] ∧ a.toNat = 64 := by
  rcases snocs l with rfl | ⟨p, c, rfl⟩
  · simp [heldN]
  · rw [heldN_snoc, step1]
    constructor
    · exact fun h => ⟨p, c, rfl, h⟩
    · rintro ⟨q, d, e, h⟩
      obtain ⟨_, e2⟩ := List.append_inj' e rfl
      simp at e2; subst e2; exact h
theorem held2 (l : List UInt8) : heldN l = 2 ↔ ∃ p a b, l = p ++ [a, b] ∧ a.toNat = 64 ∧ 49 ≤ b.toNat ∧ b.toNat ≤ 57 := by
  rcases snocs l with rfl | ⟨p, c, rfl⟩
  · simp [heldN]
  · rw [heldN_snoc, step2, held1]
    constructor
    · rintro ⟨⟨q, a, rfl, ha⟩, h⟩; exact ⟨q, a, c, by simp, ha, h⟩
    · rintro ⟨q, a, b, e, ha, h⟩
      rw [show q ++ [a, b] = (q ++ [a]) ++ [b] by simp] at e
      obtain ⟨e1, e2⟩ := List.append_inj' e rfl
      simp at e2; subst e2; exact ⟨⟨q, a, e1, ha⟩, h⟩
theorem held3 (l : List UInt8) : heldN l = 3 ↔ ∃ p a b c, l = p ++ [a, b, c] ∧ a.toNat = 64 ∧ (49 ≤ b.toNat ∧ b.toNat ≤ 57) ∧ c.toNat = 58 := by
  rcases snocs l with rfl | ⟨p, z, rfl⟩
  · simp [heldN]
  · rw [heldN_snoc, step3, held2]
    constructor
    · rintro ⟨⟨q, a, b, rfl, ha, hb⟩, h⟩; exact ⟨q, a, b, z, by simp, ha, hb, h⟩
    · rintro ⟨q, a, b, c, e, ha, hb, h⟩
      rw [show q ++ [a, b, c] = (q ++ [a, b]) ++ [c] by simp] at e
      obtain ⟨e1, e2⟩ := List.append_inj' e rfl
      simp at e2; subst e2; exact ⟨⟨q, a, b, e1, ha, hb⟩, h⟩
theorem held4 (l : List UInt8) : heldN l = 4 ↔ ∃ p a b c d, l = p ++ [a, b, c, d] ∧ a.toNat = 64 ∧ (49 ≤ b.toNat ∧ b.toNat ≤ 57) ∧ c.toNat = 58 ∧ (49 ≤ d.toNat ∧ d.toNat ≤ 57) := by
  rcases snocs l with rfl | ⟨p, z, rfl⟩
  · simp [heldN]
  · rw [heldN_snoc, step4, held3]
    constructor
    · rintro ⟨⟨q, a, b, c, rfl, ha, hb, hc⟩, h⟩; exact ⟨q, a, b, c, z, by simp, ha, hb, hc, h⟩
    · rintro ⟨q, a, b, c, d, e, ha, hb, hc, h⟩
      rw [show q ++ [a, b, c, d] = (q ++ [a, b, c]) ++ [d] by simp] at e
      obtain ⟨e1, e2⟩ := List.append_inj' e rfl
      simp at e2; subst e2; exact ⟨⟨q, a, b, c, e1, ha, hb, hc⟩, h⟩
theorem held5 (l : List UInt8) : heldN l = 5 ↔ ∃ p a b c d f, l = p ++ [a, b, c, d, f] ∧ a.toNat = 64 ∧ (49 ≤ b.toNat ∧ b.toNat ≤ 57) ∧ c.toNat = 58 ∧ (49 ≤ d.toNat ∧ d.toNat ≤ 57) ∧ (48 ≤ f.toNat ∧ f.toNat ≤ 57) := by
  rcases snocs l with rfl | ⟨p, z, rfl⟩
  · simp [heldN]
  · rw [heldN_snoc, step5, held4]
    constructor
    · rintro ⟨⟨q, a, b, c, d, rfl, ha, hb, hc, hd⟩, h⟩; exact ⟨q, a, b, c, d, z, by simp, ha, hb, hc, hd, h⟩
    · rintro ⟨q, a, b, c, d, f, e, ha, hb, hc, hd, h⟩
      rw [show q ++ [a, b, c, d, f] = (q ++ [a, b, c, d]) ++ [f] by simp] at e
      obtain ⟨e1, e2⟩ := List.append_inj' e rfl
      simp at e2; subst e2; exact ⟨⟨q, a, b, c, d, e1, ha, hb, hc, hd⟩, h⟩

theorem heldN_len (l : List UInt8) : heldN l ≤ l.length := by
  have h := heldN_le l
  match hn : heldN l, h with
  | 0, _ => omega
  | 1, _ => obtain ⟨p, a, rfl, _⟩ := (held1 l).1 hn; simp
  | 2, _ => obtain ⟨p, a, b, rfl, _⟩ := (held2 l).1 hn; simp
  | 3, _ => obtain ⟨p, a, b, c, rfl, _⟩ := (held3 l).1 hn; simp
  | 4, _ => obtain ⟨p, a, b, c, d, rfl, _⟩ := (held4 l).1 hn; simp
  | 5, _ => obtain ⟨p, a, b, c, d, f, rfl, _⟩ := (held5 l).1 hn; simp

/-- may a text become a name? by what the model asks -/
def begB (s : List UInt8) : Bool :=
  decide (1 ≤ s.length ∧ s.length ≤ 5 ∧ (s.getD 0 0).toNat = 64 ∧ (1 < s.length → 49 ≤ (s.getD 1 0).toNat ∧ (s.getD 1 0).toNat ≤ 57) ∧ (2 < s.length → (s.getD 2 0).toNat = 58)
    ∧ (3 < s.length → 49 ≤ (s.getD 3 0).toNat ∧ (s.getD 3 0).toNat ≤ 57) ∧ (4 < s.length → 48 ≤ (s.getD 4 0).toNat ∧ (s.getD 4 0).toNat ≤ 57))

theorem cut_end (l : List UInt8) (n : Nat) (h : n ≤ l.length) : ∃ p q, l = p ++ q ∧ q.length = n ∧ l.drop (l.length - n) = q :=
  ⟨l.take (l.length - n), l.drop (l.length - n), (List.take_append_drop _ _).symm, by simp; omega, rfl⟩

/-- what is held is the end that may become a name -/
theorem beg_held (l : List UInt8) (n : Nat) (h0 : 1 ≤ n) (h5 : n ≤ 5) (hl : n ≤ l.length) : begB (l.drop (l.length - n)) = true ↔ heldN l = n := by
  obtain ⟨p, q, e, hq, hd⟩ := cut_end l n hl
  rw [hd]
  clear hd hl
  subst e
  match n, q, hq with
  | 1, [a], _ =>
    rw [held1]
    constructor
    · intro h; simp [begB] at h; exact ⟨p, a, rfl, h⟩
    · rintro ⟨p', a', e, h⟩
      obtain ⟨_, e2⟩ := List.append_inj' e rfl
      simp at e2; subst e2; simp [begB]; omega
  | 2, [a, b], _ =>
    rw [held2]
    constructor
    · intro h; simp [begB] at h; exact ⟨p, a, b, rfl, by omega⟩
    · rintro ⟨p', a', b', e, h⟩
      obtain ⟨_, e2⟩ := List.append_inj' e rfl
      simp at e2; obtain ⟨rfl, rfl⟩ := e2; simp [begB]; omega
  | 3, [a, b, c], _ =>
    rw [held3]
    constructor
    · intro h; simp [begB] at h; exact ⟨p, a, b, c, rfl, by omega⟩
    · rintro ⟨p', a', b', c', e, h⟩
      obtain ⟨_, e2⟩ := List.append_inj' e rfl
      simp at e2; obtain ⟨rfl, rfl, rfl⟩ := e2; simp [begB]; omega
  | 4, [a, b, c, d], _ =>
    rw [held4]
    constructor
    · intro h; simp [begB] at h; exact ⟨p, a, b, c, d, rfl, by omega⟩
    · rintro ⟨p', a', b', c', d', e, h⟩
      obtain ⟨_, e2⟩ := List.append_inj' e rfl
      simp at e2; obtain ⟨rfl, rfl, rfl, rfl⟩ := e2; simp [begB]; omega
  | 5, [a, b, c, d, f], _ =>
    rw [held5]
    constructor
    · intro h; simp [begB] at h; exact ⟨p, a, b, c, d, f, rfl, by omega⟩
    · rintro ⟨p', a', b', c', d', f', e, h⟩
      obtain ⟨_, e2⟩ := List.append_inj' e rfl
      simp at e2; obtain ⟨rfl, rfl, rfl, rfl, rfl⟩ := e2; simp [begB]; omega

/-- how many bytes of a text are held, ok or not -/
def hdN (l : List UInt8) : Nat := if okB l = true then heldN l else 0
theorem hd_ok (l : List UInt8) (h : okB l = true) : hdN l = heldN l := if_pos h
theorem hd_no (l : List UInt8) (h : okB l = false) : hdN l = 0 := if_neg (by rw [h]; exact Bool.false_ne_true)
end Go.Proofs.YtfmjhbdbgcgoiaaGreatDoor.Tx

/- Plain facts on texts: names and pieces. No program is named here but for the ends' sides. -/
namespace Go.Proofs.YtfmjhbdbgcgoiaaGreatDoor.Tx
open Go.RowKit
open Go.Proofs.YtfmjhbdbgcgoiaaGreatDoor.EndW (sideZ)
open Go.Proofs.YtfmjhbdbgcgoiaaGreatDoor.Text (txtL fig side_bd txtL_inj)

theorem fig_nat (n : Int) (h0 : 0 ≤ n) (h1 : n ≤ 100) : (fig n).toNat = (48 + n).toNat := by
  unfold fig; simp [Nat.toUInt8]; omega

/-- the name of an end -/
def nmL (e : Int × Int) : List UInt8 := 64 :: (txtL e.1 e.2 ++ [59])
/-- a text begins with the name of an end that is any -/
def IsN (l : List UInt8) (e : Int × Int) : Prop := sideZ e.1 e.2 ≠ 0 ∧ nmL e <+: l

/-- the shapes of a name -/
theorem nm_shape (e : Int × Int) (h : sideZ e.1 e.2 ≠ 0) :
    (∃ a b : UInt8, nmL e = [64, a, 58, b, 59] ∧ txtL e.1 e.2 = [a, 58, b] ∧ 49 ≤ a.toNat ∧ a.toNat ≤ 57 ∧ 49 ≤ b.toNat ∧ b.toNat ≤ 57 ∧ e.2 < 10) ∨
    (∃ a b c : UInt8, nmL e = [64, a, 58, b, c, 59] ∧ txtL e.1 e.2 = [a, 58, b, c] ∧ 49 ≤ a.toNat ∧ a.toNat ≤ 57 ∧ 49 ≤ b.toNat ∧ b.toNat ≤ 57 ∧ 48 ≤ c.toNat ∧ c.toNat ≤ 57 ∧ 10 ≤ e.2) := by
  have hb := side_bd e.1 e.2 h
  by_cases hp : e.2 < 10
  · refine .inl ⟨fig e.1, fig e.2, by simp [nmL, txtL, hp], by simp [txtL, hp], ?_⟩
    rw [fig_nat _ (by omega) (by omega), fig_nat _ (by omega) (by omega)]; omega
  · refine .inr ⟨fig e.1, fig (e.2 / 10), fig (e.2 % 10), by simp [nmL, txtL, hp], by simp [txtL, hp], ?_⟩
    rw [fig_nat _ (by omega) (by omega), fig_nat _ (by omega) (by omega), fig_nat _ (by omega) (by omega)]; omega

theorem nm_len (e : Int × Int) (h : sideZ e.1 e.2 ≠ 0) : (nmL e).length = if e.2 < 10 then 5 else 6 := by
  rcases nm_shape e h with ⟨a, b, e1, _, _, _, _, _, hp⟩ | ⟨a, b, c, e1, _, _, _, _, _, _, _, hp⟩
  · rw [e1, if_pos hp]; rfl
  · rw [e1, if_neg (by omega)]; rfl
theorem nm_pos (e : Int × Int) : 1 ≤ (nmL e).length := by simp [nmL]
theorem nm_inj (e f : Int × Int) (h : sideZ e.1 e.2 ≠ 0) (k : sideZ f.1 f.2 ≠ 0) (q : nmL e = nmL f) : e = f := by
  unfold nmL at q
  simp only [List.cons.injEq, true_and] at q
  obtain ⟨q1, _⟩ := List.append_inj' q rfl
  obtain ⟨a, b⟩ := txtL_inj _ _ _ _ h k q1
  exact Prod.ext a b
theorem nm_pre (e f : Int × Int) (h : sideZ e.1 e.2 ≠ 0) (k : sideZ f.1 f.2 ≠ 0) (q : nmL e <+: nmL f) : e = f := by
  apply nm_inj e f h k
  rcases nm_shape e h with ⟨a, b, e1, _, ha, hb, hc, hd, _⟩ | ⟨a, b, c, e1, _, ha, hb, hc, hd, hx, hy, _⟩ <;>
    rcases nm_shape f k with ⟨a', b', e2, _, ha', hb', hc', hd', _⟩ | ⟨a', b', c', e2, _, ha', hb', hc', hd', hx', hy', _⟩
  · rw [e1, e2] at q ⊢; exact q.eq_of_length rfl
  · rw [e1, e2] at q
    simp only [List.cons_prefix_cons, true_and] at q
    have := q.2.2.1
    have h9 : (59 : UInt8).toNat = 59 := rfl
    rw [← this] at hx' hy'; omega
  · rw [e1, e2] at q; exact absurd q.length_le (by simp)
  · rw [e1, e2] at q ⊢; exact q.eq_of_length rfl
theorem isN_uniq (l : List UInt8) (e f : Int × Int) (h : IsN l e) (k : IsN l f) : e = f := by
  rcases List.prefix_or_prefix_of_prefix h.2 k.2 with q | q
  · exact nm_pre e f h.1 k.1 q
  · exact (nm_pre f e k.1 h.1 q).symm

open Classical in
/-- the end whose name a text begins with -/
noncomputable def nameO (l : List UInt8) : Option (Int × Int) := if h : ∃ e, IsN l e then some h.choose else none
theorem nameO_some (l : List UInt8) (e : Int × Int) : nameO l = some e ↔ IsN l e := by
  unfold nameO
  constructor
  · intro h
    split at h
    · next g => simp at h; subst h; exact g.choose_spec
    · cases h
  · intro h
    rw [dif_pos ⟨e, h⟩]
    exact congrArg some (isN_uniq l _ _ (Exists.choose_spec ⟨e, h⟩) h)
theorem nameO_none (l : List UInt8) : nameO l = none ↔ ∀ e, ¬ IsN l e := by
  unfold nameO
  constructor
  · intro h e he
    rw [dif_pos ⟨e, he⟩] at h; cases h
  · intro h
    rw [dif_neg (fun ⟨e, he⟩ => h e he)]

theorem nameO_congr (l m : List UInt8) (h : ∀ e, IsN l e ↔ IsN m e) : nameO l = nameO m := by
  cases q : nameO m with
  | none => exact (nameO_none l).2 fun e he => (nameO_none m).1 q e ((h e).1 he)
  | some e => exact (nameO_some l e).2 ((h e).2 ((nameO_some m e).1 q))

/-- a beginning of a name is held -/
theorem nm_held (e : Int × Int) (h : sideZ e.1 e.2 ≠ 0) (p c d : List UInt8) (hc : c ≠ []) (hd : d ≠ []) (q : c ++ d = nmL e) : heldN (p ++ c) ≠ 0 := by
  have z1 : ∀ st, stepN st 64 = 1 := fun st => (step1 _ _).2 rfl
  rw [heldN_app]
  generalize heldN p = st
  rcases nm_shape e h with ⟨a, b, e1, _, ha, hb, hb1, hb2, _⟩ | ⟨a, b, c1, e1, _, ha, hb, hb1, hb2, hx, hy, _⟩
  · rw [e1] at q
    have s2 : stepN 1 a = 2 := (step2 _ _).2 ⟨rfl, ha, hb⟩
    have s3 : stepN 2 58 = 3 := (step3 _ _).2 ⟨rfl, rfl⟩
    have s4 : stepN 3 b = 4 := (step4 _ _).2 ⟨rfl, hb1, hb2⟩
    match c, hc with
    | [x], _ => simp at q; simp [q.1, z1]
    | [x, y], _ => simp at q; simp [q.1, q.2.1, z1, s2]
    | [x, y, z], _ => simp at q; simp [q.1, q.2.1, q.2.2.1, z1, s2, s3]
    | [x, y, z, u], _ => simp at q; simp [q.1, q.2.1, q.2.2.1, q.2.2.2.1, z1, s2, s3, s4]
    | x :: y :: z :: u :: v :: t, _ =>
      exfalso
      have := congrArg List.length q
      simp only [List.length_append, List.length_cons, List.length_nil] at this
      exact hd (List.length_eq_zero_iff.1 (by omega))
  · rw [e1] at q
    have s2 : stepN 1 a = 2 := (step2 _ _).2 ⟨rfl, ha, hb⟩
    have s3 : stepN 2 58 = 3 := (step3 _ _).2 ⟨rfl, rfl⟩
    have s4 : stepN 3 b = 4 := (step4 _ _).2 ⟨rfl, hb1, hb2⟩
    have s5 : stepN 4 c1 = 5 := (step5 _ _).2 ⟨rfl, hx, hy⟩
    match c, hc with
    | [x], _ => simp at q; simp [q.1, z1]
    | [x, y], _ => simp at q; simp [q.1, q.2.1, z1, s2]
    | [x, y, z], _ => simp at q; simp [q.1, q.2.1, q.2.2.1, z1, s2, s3]
    | [x, y, z, u], _ => simp at q; simp [q.1, q.2.1, q.2.2.1, q.2.2.2.1, z1, s2, s3, s4]
    | [x, y, z, u, v], _ => simp at q; simp [q.1, q.2.1, q.2.2.1, q.2.2.2.1, q.2.2.2.2.1, z1, s2, s3, s4, s5]
    | x :: y :: z :: u :: v :: t :: r, _ =>
      exfalso
      have := congrArg List.length q
      simp only [List.length_append, List.length_cons, List.length_nil] at this
      exact hd (List.length_eq_zero_iff.1 (by omega))

/-- a name has no second '@' -/
theorem nm_tail (e : Int × Int) (h : sideZ e.1 e.2 ≠ 0) (c d : List UInt8) (x : UInt8) (hc : c ≠ []) (q : c ++ x :: d = nmL e) : x.toNat ≠ 64 := by
  cases c with
  | nil => exact absurd rfl hc
  | cons y c =>
    have hm : x ∈ (nmL e).tail := by rw [← q]; simp
    rcases nm_shape e h with ⟨a, b, e1, _, ha, hb, hb1, hb2, _⟩ | ⟨a, b, c1, e1, _, ha, hb, hb1, hb2, hx, hy, _⟩
    · rw [e1] at hm
      simp at hm
      rcases hm with rfl | rfl | rfl | rfl
      · omega
      · decide
      · omega
      · decide
    · rw [e1] at hm
      simp at hm
      rcases hm with rfl | rfl | rfl | rfl | rfl
      · omega
      · decide
      · omega
      · omega
      · decide
theorem nm_bytes (e : Int × Int) (h : sideZ e.1 e.2 ≠ 0) : ∀ c ∈ nmL e, byteB c = true := by
  intro c hc
  rcases nm_shape e h with ⟨a, b, e1, _, ha, hb, hb1, hb2, _⟩ | ⟨a, b, c1, e1, _, ha, hb, hb1, hb2, hx, hy, _⟩
  · rw [e1] at hc
    simp at hc
    rcases hc with rfl | rfl | rfl | rfl | rfl
    all_goals first | decide | (simp only [byteB, decide_eq_true_eq]; omega)
  · rw [e1] at hc
    simp at hc
    rcases hc with rfl | rfl | rfl | rfl | rfl | rfl
    all_goals first | decide | (simp only [byteB, decide_eq_true_eq]; omega)
/-- behind a name nothing is held -/
theorem nm_none (e : Int × Int) (st : Nat) : (nmL e).foldl stepN st = 0 := by
  have z : ∀ st, stepN st 59 = 0 := fun st => by
    have h9 : (59 : UInt8).toNat = 59 := rfl
    unfold stepN; repeat' split
    all_goals omega
  show (64 :: (txtL e.1 e.2 ++ [59])).foldl stepN st = 0
  rw [List.foldl_cons, List.foldl_append]
  exact z _

/-- no name goes from a text on into one behind it -/
def Nc (a b : List UInt8) : Prop := ∀ e, sideZ e.1 e.2 ≠ 0 → ∀ c d, c ≠ [] → d ≠ [] → c ++ d = nmL e → c <:+ a → d <+: b → False
theorem nc_nil (a : List UInt8) : Nc a [] := fun _ _ _ _ _ hd _ _ k => hd (List.prefix_nil.1 k)
theorem nc_at (a b : List UInt8) (x : UInt8) (hx : x.toNat = 64) : Nc a (x :: b) := by
  intro e h c d hc hd q _ k
  cases d with
  | nil => exact hd rfl
  | cons y d =>
    rw [List.cons_prefix_cons] at k
    obtain ⟨rfl, _⟩ := k
    exact nm_tail e h c d y hc q hx
theorem nc_held (a b : List UInt8) (h0 : heldN a = 0) : Nc a b := by
  rintro e h c d hc hd q ⟨p, rfl⟩ _
  exact nm_held e h p c d hc hd q h0
theorem Nc.suffix {a a' b : List UInt8} (h : Nc a b) (k : a' <:+ a) : Nc a' b :=
  fun e he c d hc hd q hs hp => h e he c d hc hd q (hs.trans k) hp

theorem nameO_app (a b : List UInt8) (h : Nc a b) (ha : a ≠ []) : nameO (a ++ b) = nameO a := by
  refine nameO_congr _ _ fun e => ⟨fun g => ⟨g.1, ?_⟩, fun g => ⟨g.1, g.2.trans (List.prefix_append _ _)⟩⟩
  rcases List.prefix_or_prefix_of_prefix g.2 (List.prefix_append a b) with k | k
  · exact k
  · obtain ⟨d, hd⟩ := k
    by_cases h0 : d = []
    · subst h0; rw [List.append_nil] at hd; rw [hd]; exact List.prefix_refl _
    · exfalso
      obtain ⟨t, ht⟩ := g.2
      rw [← hd, List.append_assoc] at ht
      exact h e g.1 a d ha h0 hd (List.suffix_refl _) ⟨t, List.append_cancel_left ht⟩

/-- a piece -/
structure Pc where
  sz : Nat
  nm : Bool
  ad : Int
  po : Int

/-- the pieces of a text, what is held with them -/
noncomputable def pcs (l : List UInt8) : List Pc :=
  if l = [] then [] else
  match nameO l with
  | some e => ⟨(nmL e).length, true, e.1, e.2⟩ :: pcs (l.drop (nmL e).length)
  | none => ⟨1, false, 0, 0⟩ :: pcs (l.drop 1)
termination_by l.length
decreasing_by
  · have h1 := nm_pos e
    have h2 : 0 < l.length := List.length_pos_iff.2 (by assumption)
    rw [List.length_drop]; omega
  · have h2 : 0 < l.length := List.length_pos_iff.2 (by assumption)
    rw [List.length_drop]; omega

theorem pcs_nil : pcs [] = [] := by rw [pcs]; simp
theorem pcs_some (l : List UInt8) (e : Int × Int) (h : nameO l = some e) : pcs l = ⟨(nmL e).length, true, e.1, e.2⟩ :: pcs (l.drop (nmL e).length) := by
  have hl : l ≠ [] := by
    rintro rfl
    have := ((nameO_some _ _).1 h).2
    rw [List.prefix_nil] at this; simp [nmL] at this
  rw [pcs, if_neg hl, h]
theorem pcs_none (l : List UInt8) (hl : l ≠ []) (h : nameO l = none) : pcs l = ⟨1, false, 0, 0⟩ :: pcs (l.drop 1) := by
  rw [pcs, if_neg hl, h]

theorem pcs_app (a b : List UInt8) (h : Nc a b) : pcs (a ++ b) = pcs a ++ pcs b := by
  by_cases ha : a = []
  · subst ha; rw [pcs_nil]; rfl
  · have hn := nameO_app a b h ha
    cases q : nameO a with
    | none =>
      rw [pcs_none a ha q, pcs_none (a ++ b) (by simp [ha]) (hn.trans q)]
      have h1 : 1 ≤ a.length := List.length_pos_iff.2 ha
      rw [List.drop_append_of_le_length h1, pcs_app (a.drop 1) b (h.suffix (List.drop_suffix _ _))]; rfl
    | some e =>
      have hp := ((nameO_some a e).1 q).2.length_le
      rw [pcs_some a e q, pcs_some (a ++ b) e (hn.trans q)]
      have h1 := nm_pos e
      rw [List.drop_append_of_le_length hp, pcs_app (a.drop (nmL e).length) b (h.suffix (List.drop_suffix _ _))]; rfl
termination_by a.length
decreasing_by
  · rw [List.length_drop]; omega
  · rw [List.length_drop]; omega

/-- how long pieces are together -/
def szs (ps : List Pc) : Nat := (ps.map Pc.sz).sum
theorem szs_pcs (l : List UInt8) : szs (pcs l) = l.length := by
  by_cases ha : l = []
  · subst ha; rw [pcs_nil]; rfl
  · cases q : nameO l with
    | none =>
      have h1 : 1 ≤ l.length := List.length_pos_iff.2 ha
      rw [pcs_none l ha q]
      show 1 + szs (pcs (l.drop 1)) = _
      rw [szs_pcs (l.drop 1), List.length_drop]; omega
    | some e =>
      have hp := ((nameO_some l e).1 q).2.length_le
      have h1 := nm_pos e
      rw [pcs_some l e q]
      show (nmL e).length + szs (pcs (l.drop (nmL e).length)) = _
      rw [szs_pcs (l.drop (nmL e).length), List.length_drop]; omega
termination_by l.length
decreasing_by
  · rw [List.length_drop]; omega
  · rw [List.length_drop]; omega

/-- what is not held, and what is -/
def bd (l : List UInt8) : List UInt8 := l.take (l.length - heldN l)
def hp (l : List UInt8) : List UInt8 := l.drop (l.length - heldN l)
theorem bd_hp (l : List UInt8) : bd l ++ hp l = l := List.take_append_drop _ _
theorem bd_len (l : List UInt8) : (bd l).length = l.length - heldN l := by unfold bd; rw [List.length_take]; omega
theorem hp_len (l : List UInt8) : (hp l).length = heldN l := by
  have := heldN_len l
  unfold hp; rw [List.length_drop]; omega
theorem hp_none (l : List UInt8) (h : heldN l = 0) : hp l = [] := List.length_eq_zero_iff.1 ((hp_len l).trans h)
theorem hp_beg (l : List UInt8) (h : heldN l ≠ 0) : begB (hp l) = true :=
  (beg_held l (heldN l) (by omega) (heldN_le l) (heldN_len l)).2 rfl
theorem hp_head (l : List UInt8) : hp l = [] ∨ ∃ x t, hp l = x :: t ∧ x.toNat = 64 := by
  by_cases h : heldN l = 0
  · exact .inl (hp_none l h)
  · have hb := hp_beg l h
    cases q : hp l with
    | nil => exact .inl rfl
    | cons x t =>
      rw [q] at hb
      simp [begB] at hb
      exact .inr ⟨x, t, rfl, hb.2.1⟩
theorem nc_hp (a l : List UInt8) : Nc a (hp l) := by
  rcases hp_head l with h | ⟨x, t, h, hx⟩
  · rw [h]; exact nc_nil a
  · rw [h]; exact nc_at a t x hx

/-- the pieces of a text, but for what is held -/
noncomputable def pieL (l : List UInt8) : List Pc := if okB l = true then pcs (bd l) else []
theorem pie_ok (l : List UInt8) (h : okB l = true) : pieL l = pcs (bd l) := if_pos h
theorem pie_no (l : List UInt8) (h : okB l = false) : pieL l = [] := if_neg (by rw [h]; exact Bool.false_ne_true)
end Go.Proofs.YtfmjhbdbgcgoiaaGreatDoor.Tx

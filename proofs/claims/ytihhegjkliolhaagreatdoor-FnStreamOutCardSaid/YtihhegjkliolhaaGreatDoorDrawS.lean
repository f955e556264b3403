/- Walks: texts that are drawn from a code, and are of a text's bytes. -/
import Derived.Test.YtihhegjkliolhaaGreatDoorDrawT
import Derived.Test.YtihhegjkliolhaaGreatDoorSpA
namespace Go.Proofs.YtihhegjkliolhaaGreatDoor.Draw
open Go.RowKit Go.Proofs.YtihhegjkliolhaaGreatDoor.Kit Go.Proofs.YtihhegjkliolhaaGreatDoor.Rd Go.Proofs.YtihhegjkliolhaaGreatDoor.Tx
open Go.Proofs.YtihhegjkliolhaaGreatDoor.Text (txt specText txt_len)
open Go.Proofs.YtihhegjkliolhaaGreatDoor.EndW (sideZ)

theorem app_bytes {a b : ByteArray} (ha : ∀ c ∈ a.data.toList, byteB c = true) (hb : ∀ c ∈ b.data.toList, byteB c = true) : ∀ c ∈ (a ++ b).data.toList, byteB c = true := by
  intro c hc
  rw [ByteArray.data_append, Array.toList_append] at hc
  rcases List.mem_append.1 hc with h | h
  · exact ha c h
  · exact hb c h
theorem name_bytes (x y : Int) : ∀ c ∈ (⟨#[64]⟩ ++ txt x y ++ ⟨#[59]⟩ : ByteArray).data.toList, byteB c = true := by
  by_cases h : sideZ x y = 0
  · have e : txt x y = ⟨#[]⟩ := by unfold txt; rw [if_pos h]
    rw [e]; decide
  · rw [SpA.nm_data x y h]; exact nm_bytes (x, y) h
theorem S10_bytes (i : Nat) : ∀ c ∈ (S10.getD i ⟨#[]⟩).data.toList, byteB c = true := by
  have h : ∀ s ∈ S10, ∀ c ∈ s.data.toList, byteB c = true := by decide
  rw [List.getD_eq_getElem?_getD]
  cases q : S10[i]? with
  | none => intro c hc; cases hc
  | some s => exact h s (List.mem_of_getElem? q)

set_option maxRecDepth 8000 in
set_option maxHeartbeats 4000000 in
theorem text_ok (b : Nat) (a : Option Addr) (len cap : Nat) (z : Nat → Int) (p : Nat) (most : Nat) (hm : most ≤ 1000) (w : World) (h : Rd w b a len cap z p) (hp : p ≤ 1000000) :
    Calls Tryz.prog 27 #[.pointer (some ⟨b, 0, none⟩), .int .i64 (most : Nat)] w fun e w' => ∃ s p', e = .returned (.string s) ∧ s.size ≤ most ∧ (∀ c ∈ s.data.toList, byteB c = true) ∧ p' ≤ p + 100 ∧ Rd w' b a len cap z p' ∧ Aside b w w' := by
  go_enter Tryz.func27, Tryz.ntmps27
  go_wp2_with fail
  refine (pick_any b a len cap z p _ _ h (by omega) (by omega)).mono ?_
  rintro e w1 ⟨v, rfl, hv0, hv1, r1, k1⟩
  obtain ⟨m, rfl⟩ := Int.eq_ofNat_of_zero_le hv0
  have hm7 : m ≤ 6 := by omega
  go_wp2
  go_loopw [5, 6] (fun s i wr => ∃ (k : Nat) (S : ByteArray) (p' : Nat), k ≤ m ∧ i = .int .i64 k ∧ s = .string S ∧ S.size ≤ most ∧ (∀ c ∈ S.data.toList, byteB c = true) ∧ p' + 5 * k ≤ p + 1 + 5 * m ∧ Rd wr b a len cap z p' ∧ Aside b w wr) (fun s i wr => (intOf i).toNat)
  case atStart => exact ⟨m, ⟨#[]⟩, p + 1, Nat.le_refl _, rfl, rfl, Nat.zero_le _, (fun c hc => by cases hc), Nat.le_refl _, r1, Aside.ofBut k1⟩
  case round =>
    obtain ⟨k, S, p', hk, rfl, rfl, hS, hSb, hp', r, sd⟩ := hrel
    by_cases h0 : 0 < k
    · have h0' : (0 : Int) < k := by omega
      have hbl : b < wr.heap.size := blk r.c0
      have r2 := r.below ((Below.refl _ wr).alloc (Nat.le_refl _) (.cells (S10.map Value.string).toArray 9))
      have s2 := sd.alloc (.cells (S10.map Value.string).toArray 9)
      have hl := list_cells wr 9 S10
      go_wp2_with fail
      refine (ofs_any b a len cap z p' wr.heap.size 10 (fun i => S10.getD i ⟨#[]⟩) _ r2 (by omega) (by omega) (by omega) hl).mono ?_
      rintro e w3 ⟨j, _, rfl, r3, k3⟩
      have s3 := s2.but k3
      have hX := S10_short j
      have hXb := S10_bytes j
      generalize S10.getD j ⟨#[]⟩ = X at hX hXb
      have HSB := (show Hid (∀ c ∈ S.data.toList, byteB c = true) from hSb)
      have HXB := (show Hid (∀ c ∈ X.data.toList, byteB c = true) from hXb)
      clear hSb hXb
      clear r2 s2 hl k3
      go_wp2_with fail
      refine (pick_any b a len cap z (p' + 1) _ _ r3 (by omega) (by omega)).mono ?_
      rintro e w4 ⟨v4, rfl, q0, q1, r4, k4⟩
      have s4 := s3.but k4
      clear k4 r3 s3
      by_cases h3 : v4 < 3
      · go_wp2_with fail
        refine (l71_any b a len cap z (p' + 1 + 1) _ r4 (by omega)).mono ?_
        rintro e w5 ⟨x, y, p5, rfl, hxy, hp5, r5, k5⟩
        have s5 := s4.trans k5
        clear k5 r4 s4
        go_wp2_with fail
        refine (specText _ _ _).mono ?_
        rintro e w6 ⟨rfl, k6⟩
        have r6 := r5.below k6
        have s6 := s5.trans (Aside.ofBelow k6)
        have hz := txt_four x y
        have hnb := name_bytes x y
        clear k6 r5 s5
        generalize txt x y = T at hz hnb
        have HNB := (show Hid (∀ c ∈ (⟨#[64]⟩ ++ T ++ ⟨#[59]⟩ : ByteArray).data.toList, byteB c = true) from hnb)
        clear hnb
        go_wp2
        all_goals
          go_roundw
          case rel =>
            refine ⟨k - 1, _, _, by omega, by go_num, rfl, ?_, ?_, ?_, r6, s6⟩
            · first | exact hS | (have e64 : (⟨#[64]⟩ : ByteArray).size = 1 := rfl; have e59 : (⟨#[59]⟩ : ByteArray).size = 1 := rfl; simp only [ByteArray.size_append]; omega)
            · first | exact HSB.out | exact app_bytes HSB.out HNB.out | exact app_bytes HSB.out HXB.out
            · omega
          case measure => simp [intOf]; omega
      · have h3' : 3 ≤ v4 := by omega
        go_wp2
        all_goals
          go_roundw
          case rel =>
            refine ⟨k - 1, _, _, by omega, by go_num, rfl, ?_, ?_, ?_, r4, s4⟩
            · first | exact hS | (simp only [ByteArray.size_append]; omega)
            · first | exact HSB.out | exact app_bytes HSB.out HNB.out | exact app_bytes HSB.out HXB.out
            · omega
          case measure => simp [intOf]; omega
    · have h0' : (k : Int) ≤ 0 := by omega
      go_wp2
      go_ret
      exact ⟨S, p', rfl, hS, hSb, by omega, r, sd⟩

end Go.Proofs.YtihhegjkliolhaaGreatDoor.Draw

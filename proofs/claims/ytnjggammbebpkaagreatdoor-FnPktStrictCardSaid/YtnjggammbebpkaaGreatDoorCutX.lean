/- Walks: a text is cut at its blanks, by the model: the loop. -/
import Derived.Test.YtnjggammbebpkaaGreatDoorCutW
import Derived.Deep.Cut
import Derived.Test.YtnjggammbebpkaaGreatDoorSt8
namespace Go.Proofs.YtnjggammbebpkaaGreatDoor.CutW
open Go.RowKit Go.Shelf Go.Proofs.YtnjggammbebpkaaGreatDoor.Kit Go.Proofs.YtnjggammbebpkaaGreatDoor.App
open Go.Proofs.YtnjggammbebpkaaGreatDoor.Itoa (isU8 oneS isU8_int oneS_int conv1)
open Go.Proofs.YtnjggammbebpkaaGreatDoor.Tx (lenL)
set_option linter.unusedVariables false
set_option linter.unusedSimpArgs false

theorem take_next (s : ByteArray) (k : Nat) (h : k < s.size) : s.data.toList.take (k + 1) = s.data.toList.take k ++ [s[k]'h] := by
  rw [List.take_add_one, List.getElem?_eq_getElem (by rw [lenL]; exact h)]; rfl

theorem last_size (ws : List ByteArray) (n : Nat) (h : ∀ x ∈ ws, x.size ≤ n) : (ws.getLastD ⟨#[]⟩).size ≤ n := by
  cases hw : ws with
  | nil => exact Nat.zero_le _
  | cons a l =>
    have hm : (a :: l).getLastD ⟨#[]⟩ ∈ ws := by
      rw [hw, List.getLastD_eq_getLast?, List.getLast?_eq_some_getLast (by simp)]
      exact List.getLast_mem _
    exact h _ hm
theorem byte_back (c : UInt8) : ((c.toNat : Int).toNat.toUInt8) = c := by simp

set_option maxRecDepth 8000 in
set_option maxHeartbeats 8000000 in
theorem cut_any (s : ByteArray) (hs : s.size ≤ 1000) (w : World) :
    Calls Tryz.prog 28 #[.string s, .int .u8 32] w fun e w' => ∃ v, e = .returned v ∧ w'.ownsRow w.heap.size 9 1 v (cutF s.data.toList).length ((cutF s.data.toList).map Value.string) ∧ Below w.heap.size w w' := by
  have hlen := lenL s
  obtain ⟨i0, hi, hi2⟩ := Option.map_eq_some_iff.1 (show (Tryz.prog.info? 9).map (fun i => (i.zero, i.size, i.bytes)) = some (some (.string ByteArray.empty), 1, 16) by kernel_rfl)
  simp only [Prod.mk.injEq] at hi2
  obtain ⟨hz0, hz1, hz2⟩ := hi2
  have hs' : (s.size : Int) ≤ 1000 := by omega
  go_enter Tryz.func28, Tryz.ntmps28
  go_wp2
  go_loopw [5, 6] (fun v i wr => ∃ k : Nat, k ≤ s.size ∧ i = .int .i64 k ∧ wr.ownsRow w.heap.size 9 1 v (cutF (s.data.toList.take k)).length ((cutF (s.data.toList.take k)).map Value.string) ∧ Below w.heap.size w wr) (fun v i wr => s.size - (intOf i).toNat)
  case atStart => exact ⟨0, Nat.zero_le _, rfl, World.ownsRow_lit (base := w.heap.size) (e := 9) (size := 1) w #[.string ⟨#[]⟩] 1 (Nat.le_refl _) (by decide) rfl, (Below.refl _ _).alloc (Nat.le_refl _) _⟩
  case round =>
    obtain ⟨k, hk, rfl, hrow, hbel⟩ := hrel
    by_cases hlt : k < s.size
    · have hlt' : (k : Int) < s.size := by omega
      have hwl := cutF_len (s.data.toList.take k)
      have hws := cutF_size (s.data.toList.take k)
      have hnext : Hid (cutF (s.data.toList.take (k + 1)) = stepW (cutF (s.data.toList.take k)) (s[k]'hlt)) := by
        show cutF _ = _
        rw [take_next s k hlt, cutF_snoc]
      have htl : (s.data.toList.take k).length ≤ 1000 := by rw [List.length_take]; omega
      generalize cutF (s.data.toList.take k) = ws at *
      have hc : (s[k]'hlt).toNat < 256 := UInt8.toNat_lt _
      have hbs := hbel.size
      by_cases h32 : s[k]'hlt = 32
      · have hb : (((s[k]'hlt).toNat : Int) == 32) = true := by rw [h32]; rfl
        have hst : Hid (cutF (s.data.toList.take (k + 1)) = ws ++ [⟨#[]⟩]) := by
          show _ = _
          rw [hnext.out]; unfold stepW; rw [if_pos h32]
        have hal : ∀ j u, [Value.string ⟨#[]⟩][j]? = some u → (wr.alloc (.cells #[.string ⟨#[]⟩] 9)).cell? ((⟨wr.heap.size, 0, none⟩ : Addr).add j) = some u := by
          intro j u hj
          match j with
          | 0 => simp at hj; subst hj; simp [Addr.add]
          | j + 1 => simp at hj
        clear hnext h32 hws
        go_wp2_with (at_builtin; refine wpList_append_own_at _ rfl _ _ 39 rfl w.heap.size 9 i0 (.string ByteArray.empty) 1 16 Tryz.underlying39 hi hz0 hz1 hz2 rfl (by decide) _ _ _ rfl (hrow.alloc _) ⟨wr.heap.size, 0, none⟩ 1 1 [.string ⟨#[]⟩] rfl rfl hal (by simp [Value.oneCell']) (by unfold maxLen; omega) (by omega) (by simp; omega) ?_; intro v' w2 hown hgrow _ hwh)
        have hb2 := (hbel.alloc (o := .cells #[.string ⟨#[]⟩] 9) hbs).grown hgrow (by simp; omega) (fun j ej => (hrow.lt j ej).1)
        go_roundw
        case rel =>
          refine ⟨k + 1, by omega, by go_num, ?_, hb2⟩
          rw [hst.out, List.length_append, List.map_append]; exact hown
        case measure => simp [intOf]; omega
      · have hb : (((s[k]'hlt).toNat : Int) == 32) = false := by
          rw [beq_eq_false_iff_ne]
          intro e
          apply h32
          apply UInt8.toNat_inj.1
          show _ = 32
          omega
        have hst : Hid (cutF (s.data.toList.take (k + 1)) = ws.dropLast ++ [ws.getLastD ⟨#[]⟩ ++ ⟨#[s[k]'hlt]⟩]) := by
          show _ = _
          rw [hnext.out]; unfold stepW; rw [if_neg h32]
        clear hnext h32
        rcases hrow.2 with ⟨_, h0⟩ | ⟨g, cap, cur, rfl, hbg, hg, hnc, hcm, hcs, htk⟩
        · omega
        · have HROW := (show Hid (wr.ownsRow w.heap.size 9 1 (.slice (some ⟨g, 0, none⟩) ws.length cap) ws.length (ws.map Value.string)) from hrow)
          have hlast := row_last hrow (by omega)
          have hgw : g < wr.heap.size := (Array.getElem?_eq_some_iff.1 hg).1
          have hfz : wr.frozen? ⟨g, ws.length - 1, none⟩ = false := by unfold World.frozen?; rw [hg]; simp
          have hLs : (ws.getLastD ⟨#[]⟩).size ≤ 1000 := Nat.le_trans (last_size ws _ hws) htl
          have HSET := (show Hid ((ws.map Value.string).set (ws.length - 1) (.string (ws.getLastD ⟨#[]⟩ ++ ⟨#[s[k]'hlt]⟩)) = (ws.dropLast ++ [ws.getLastD ⟨#[]⟩ ++ ⟨#[s[k]'hlt]⟩]).map Value.string) from set_last ws _ (by omega))
          have HLEN := (show Hid ((ws.dropLast ++ [ws.getLastD ⟨#[]⟩ ++ ⟨#[s[k]'hlt]⟩]).length = ws.length) from by rw [List.length_append, List.length_dropLast]; show ws.length - 1 + 1 = ws.length; omega)
          obtain ⟨m, hm⟩ : ∃ m, ws.length - 1 = m := ⟨_, rfl⟩
          have hwm : (ws.length : Int) - 1 = (m : Int) := by omega
          have hm1 : (m : Int) < ws.length := by omega
          have hm0 : (0 : Int) ≤ (m : Int) := by omega
          have hmn : m < ws.length := by omega
          have hwm3 : IntKind.i64.wrap (m : Int) = (m : Int) := by simp [IntKind.wrap, IntKind.bits, IntKind.signed]; omega
          have hwm4 : wrap64 (m : Int) = (m : Int) := by unfold wrap64; omega
          have HB := (show Hid (Below w.heap.size w wr) from hbel)
          rw [hm] at hlast hfz HSET
          generalize ws.getLastD ⟨#[]⟩ = Z at *
          have hcv := conv1
          have hu := isU8_int
          have ho := oneS_int
          clear hrow hcs htk hws htl hg hbel
          go_upto_region 7 with fail
          go_region
          all_goals
            go_wp2
            go_roundw
            case rel =>
              refine ⟨k + 1, by omega, by go_num, ?_, ?_⟩
              · rw [hst.out, HLEN.out, ← HSET.out]
                exact (row_set HROW.out m _).alloc _
              · exact ((HB.out.setCell (p := ⟨g, m, none⟩) hbg _).alloc (by simp [World.setCell]; exact hbs) _).drew
            case measure => simp [intOf]; omega
    · have hge : (s.size : Int) ≤ k := by omega
      have e : s.data.toList.take k = s.data.toList := List.take_of_length_le (by omega)
      rw [e] at hrow
      go_wp2
      go_ret
      exact ⟨_, rfl, hrow, hbel⟩
end Go.Proofs.YtnjggammbebpkaaGreatDoor.CutW

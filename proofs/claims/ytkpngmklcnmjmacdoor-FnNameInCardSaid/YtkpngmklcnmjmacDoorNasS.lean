/- Walks: TextNames of the model. -/
import Derived.Test.YtkpngmklcnmjmacDoorLzP
import Derived.Test.YtkpngmklcnmjmacDoorNas
namespace Go.Proofs.YtkpngmklcnmjmacDoor.Nas
open Go.RowKit Go.Shelf Go.Proofs.YtkpngmklcnmjmacDoor.Kit Go.Proofs.YtkpngmklcnmjmacDoor.Tx Go.Proofs.YtkpngmklcnmjmacDoor.Nm Go.Proofs.YtkpngmklcnmjmacDoor.App Go.Proofs.YtkpngmklcnmjmacDoor.It Go.Proofs.YtkpngmklcnmjmacDoor.Pcs Go.Proofs.YtkpngmklcnmjmacDoor.Lz Go.Proofs.YtkpngmklcnmjmacDoor.LzP
attribute [local go_sem] Oper.semAt_some
set_option linter.unusedSimpArgs false
set_option linter.unusedVariables false

theorem at4_grown {W W' : World} {row : Option Nat} {g o : Nat} {p : Pc} (h : At4 W g o p) (hg : W.grownBy W' row) (hne : some g ≠ row) : At4 W' g o p := by
  have e : ∀ j, W'.cell? ⟨g, j, none⟩ = W.cell? ⟨g, j, none⟩ := fun j => World.cell?_of_block (hg.block g (blk h.1) hne)
  exact ⟨(e _).trans h.1, (e _).trans h.2.1, (e _).trans h.2.2.1, (e _).trans h.2.2.2⟩

theorem take_one (ps : List Pc) (k : Nat) (h : k < ps.length) : ps.take (k + 1) = ps.take k ++ [ps[k]] := by
  rw [List.take_add_one, List.getElem?_eq_getElem h]; rfl

set_option maxRecDepth 8000 in
set_option maxHeartbeats 4000000 in
theorem snames_in (n : Nat) (hn : 7 ≤ n) (s : ByteArray) (hsz : s.size ≤ 1073741824) (w : World) :
    CallsIn Fence.wide n Tryd.prog 19 #[.string s] w fun e W' =>
      ∃ v, e = .returned v ∧ W'.ownsRow w.heap.size 25 2 v (ends (pieL s.data.toList)).length (cellsE (ends (pieL s.data.toList))) ∧ Below w.heap.size w W' := by
  obtain ⟨i0, hi, hz0, hz1, hz2⟩ := info_parts infoE
  obtain ⟨ps, hps⟩ : ∃ ps, pieL s.data.toList = ps := ⟨_, rfl⟩
  have hpl : ps.length ≤ 40 := by rw [← hps]; exact len_pie0 _
  rw [hps]
  refine callsIn_of_wp Tryd.func19 rfl trivial ?_ rfl
  simp only [Tryd.ntmps19, List.size_toArray, List.length_cons, List.length_nil, Nat.reduceAdd, Nat.reduceSub, Array.replicate_succ, Array.replicate_zero, List.push_toArray, List.append_toArray, List.nil_append, List.cons_append]
  gi_wp2_with fail
  refine ⟨trivial, (fun h => by cases h), ?_⟩
  refine (callsIn_wide.2 (spieces_any s hsz _)).mono ?_
  rintro e w2 ⟨vl, rfl, hrl, k2⟩
  rw [hps] at hrl
  have hbl := fun g => hrl.lt g
  have hl := isP_of_row hrl
  have bA : Below w.heap.size w (w.alloc (.cells #[] 25)) := (Below.refl _ w).alloc (Nat.le_refl _) _
  have r2 := row_below (World.ownsRow_made (base := w.heap.size) (e := 25) (size := 2) w #[] 0 (Nat.le_refl _) (Nat.zero_le _) rfl) k2
  have bel2 := bA.trans (k2.mono (by simp))
  clear k2 hrl
  rcases hl with ⟨rfl, rfl⟩ | ⟨g, o, c, rfl, _, _, hat⟩
  · gi_wp2
    refine wpIn_loop_rounds 1 ?_
    rw [roundsIn_succ]
    gi_wp2
    go_ret
    exact ⟨_, rfl, r2, bel2⟩
  · have hg0 : w.heap.size + 1 ≤ g ∧ g < w2.heap.size := by have := hbl g rfl; simp at this; omega
    clear hbl
    gi_wp2
    gi_loopw [3, 5] (fun v i wr => ∃ k : Nat, k ≤ ps.length ∧ i = .int .i64 k ∧ wr.ownsRow w.heap.size 25 2 v (ends (ps.take k)).length (cellsE (ends (ps.take k))) ∧ v.ownBlock ≠ some g ∧ g < wr.heap.size ∧ (∀ (i : Nat) (p : Pc), ps[i]? = some p → At4 wr g (o + i * 4) p) ∧ Below w.heap.size w wr) (fun v i wr => ps.length - (intOf i).toNat)
    case atStart =>
      refine ⟨0, Nat.zero_le _, rfl, r2, ?_, hg0.2, hat, bel2⟩
      intro he
      have he' : w.heap.size = g := by simpa [Value.ownBlock] using he
      omega
    case round =>
      obtain ⟨k, hk, rfl, hrow, hno, hgl, hat', hbel⟩ := hrel
      by_cases hlt : k < ps.length
      · have hlt' : (k : Int) < (ps.length : Int) := by omega
        obtain ⟨x0, x1, x2, x3⟩ := hat' k _ (List.getElem?_eq_getElem hlt)
        have htk := take_one ps k hlt
        have hel := ends_le (ps.take k)
        have hel2 : (ps.take k).length ≤ 40 := by rw [List.length_take]; omega
        have hsz0 := hbel.size
        generalize ps[k] = P at x0 x1 x2 x3 htk
        obtain ⟨sz, nm, ad, po⟩ := P
        simp only at x0 x1 x2 x3
        have HT : Hid (ps.take (k + 1) = ps.take k ++ [⟨sz, nm, ad, po⟩]) := htk
        have HA : Hid (∀ (i : Nat) (p : Pc), ps[i]? = some p → At4 _ g (o + i * 4) p) := hat'
        clear hat hat' htk
        cases nm
        · gi_wp2
          go_roundw
          case rel => exact ⟨k + 1, by omega, by go_num, by rw [HT.out, ends_no _ _ rfl]; exact hrow, hno, hgl, HA.out, hbel⟩
          case measure => simp [intOf]; omega
        · gi_wp2_with (gi_at_builtin; refine wpListIn_append_own2 _ rfl _ _ 39 rfl w.heap.size 25 i0 (.agg #[.int .i64 0, .int .i64 0]) 2 16 Tryd.underlying39 hi hz0 hz1 hz2 rfl (by decide) _ _ _ rfl (hrow.alloc _) ⟨wr.heap.size, 0, none⟩ 1 1 [.int .i64 ad, .int .i64 po] rfl rfl (App.cell_two_new _ _ _ _) (by simp [Value.oneCell']) (by unfold maxLen; omega) (by omega) (by simp; omega) ?_; intro v' w1 hown' hgrow hwh; obtain ⟨g', cap', rfl⟩ := ownsRow_succ hown')
          have hB2 := (hbel.alloc (o := .cells #[.int .i64 ad, .int .i64 po] 25) hbel.size).grown hgrow (by simp; omega) (fun j ej => (hrow.lt j ej).1)
          have hs1 := hgrow.size
          simp at hs1
          go_roundw
          case rel =>
            refine ⟨k + 1, by omega, by go_num, ?_, ?_, by omega, ?_, hB2⟩
            · rw [HT.out, ends_yes _ _ rfl, cellsE_snoc, List.length_append]
              exact hown'
            · intro he
              rcases hwh g he with q | q
              · exact hno q
              · simp at q; omega
            · intro i p hp
              exact at4_grown ((HA.out i p hp).below ((Below.refl _ _).alloc (Nat.le_refl _) _)) hgrow (fun e => hno e.symm)
          case measure => simp [intOf]; omega
      · have hge : (ps.length : Int) ≤ (k : Int) := by omega
        have e : ps.take k = ps := List.take_of_length_le (by omega)
        rw [e] at hrow
        gi_wp2
        go_ret
        exact ⟨_, rfl, hrow, hbel⟩

/-- TextNames of the model answers the ends that the pieces name, in a row of its own -/
theorem snames_any (s : ByteArray) (hsz : s.size ≤ 1073741824) (w : World) :
    Calls Tryd.prog 19 #[.string s] w fun e W' =>
      ∃ v, e = .returned v ∧ W'.ownsRow w.heap.size 25 2 v (ends (pieL s.data.toList)).length (cellsE (ends (pieL s.data.toList))) ∧ Below w.heap.size w W' :=
  (callsIn_wide (n := 9)).1 (snames_in 9 (by omega) s hsz w)
end Go.Proofs.YtkpngmklcnmjmacDoor.Nas

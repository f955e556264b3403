/- Walks: as what a piece goes out, and comes in, by the model. -/
import Derived.Test.YtihhegjkliolhaaGreatDoorMo
import Derived.Test.YtihhegjkliolhaaGreatDoorMr
import Derived.Test.YtihhegjkliolhaaGreatDoorOp
import Derived.Test.YtihhegjkliolhaaGreatDoorLzP
import Derived.Test.YtihhegjkliolhaaGreatDoorMpTs
namespace Go.Proofs.YtihhegjkliolhaaGreatDoor.SpA
open Go.RowKit Go.Proofs.YtihhegjkliolhaaGreatDoor.Kit Go.Proofs.YtihhegjkliolhaaGreatDoor.Mp Go.Proofs.YtihhegjkliolhaaGreatDoor.Mm Go.Proofs.YtihhegjkliolhaaGreatDoor.Ms Go.Proofs.YtihhegjkliolhaaGreatDoor.Tx Go.Proofs.YtihhegjkliolhaaGreatDoor.Nm Go.Proofs.YtihhegjkliolhaaGreatDoor.App
open Go.Proofs.YtihhegjkliolhaaGreatDoor.EndW (endV sideZ isB spec1)
open Go.Proofs.YtihhegjkliolhaaGreatDoor.EndW (spec3)
open Go.Proofs.YtihhegjkliolhaaGreatDoor.Text (txt specText)
set_option linter.unusedSimpArgs false
set_option linter.unusedVariables false

theorem nm_data (x y : Int) (h : sideZ x y ≠ 0) : (⟨#[64]⟩ ++ txt x y ++ ⟨#[59]⟩ : ByteArray).data.toList = nmL (x, y) := by
  have e := Text.txt_list x y h
  rw [ByteArray.toList_eq] at e
  simp [ByteArray.data_append, nmL, e]
theorem isB3 (x y : Int) : isB 3 x y = decide (sideZ x y = 3) := by
  unfold isB; rw [Bool.eq_iff_iff]; simp
theorem txt_four (x y : Int) : (txt x y).size ≤ 4 := by
  by_cases h : sideZ x y = 0
  · unfold txt; rw [if_pos h]; exact Nat.le_of_ble_eq_true rfl
  · rw [Text.txt_len x y h]; split <;> omega

set_option maxRecDepth 8000 in
set_option maxHeartbeats 4000000 in
theorem sout_piece (W : World) (base : Nat) (hB : base ≤ W.heap.size) (v : Value) (es : List (Int × Int)) (hg : GoodE es) (hrow : OwnP W base v es) (P : Pc) (S : ByteArray) :
    Calls Tryz.prog 56 #[v, pcV P, .string S] W fun r W' => ∃ v' T, r = .returned (.tuple #[v', .string T]) ∧ OwnP W' base v' (goO es P S.data.toList).1 ∧ T.data.toList = (goO es P S.data.toList).2 ∧ Below base W W' ∧ Gr W W' v v' := by
  obtain ⟨sz, nm, ad, po⟩ := P
  have bA : Below W.heap.size W (W.alloc (.cells #[.int .i64 (sz : Nat), .bool nm, .int .i64 ad, .int .i64 po] 82)) := (Below.refl _ _).alloc (Nat.le_refl _) _
  cases nm
  · have hgo : goO es ⟨sz, false, ad, po⟩ S.data.toList = (es, S.data.toList) := by unfold goO; rw [if_neg (by rintro ⟨e, _⟩; cases e)]
    rw [hgo]
    go_enter Tryz.func56, Tryz.ntmps56
    go_wp2
    refine bodyPost_ret (v := .tuple #[v, .string S]) (by simp [results, Tryz.results56, go_sem]) rfl ?_
    exact ⟨_, _, rfl, hrow.below bA, rfl, bA.mono hB, Gr.of bA v⟩
  · cases hi : inB (ad, po)
    · have hgo : goO es ⟨sz, true, ad, po⟩ S.data.toList = (es, S.data.toList) := by unfold goO; rw [if_neg (by rintro ⟨_, e, _⟩; simp only at e; rw [hi] at e; cases e)]
      rw [hgo]
      go_enter Tryz.func56, Tryz.ntmps56
      go_wp2_with fail
      refine (spec1 ad po _).mono ?_
      rintro r w1 ⟨rfl, k1⟩
      rw [show isB 1 ad po = inB (ad, po) from isB_inB (ad, po), hi]
      have b1 := bA.trans (k1.mono bA.size)
      go_wp2
      refine bodyPost_ret (v := .tuple #[v, .string S]) (by simp [results, Tryz.results56, go_sem]) rfl ?_
      exact ⟨_, _, rfl, hrow.below b1, rfl, b1.mono hB, Gr.of b1 v⟩
    · have hgo : goO es ⟨sz, true, ad, po⟩ S.data.toList = if (outE es (ad, po)).2.2 = true then ((outE es (ad, po)).1, nmL (9, (outE es (ad, po)).2.1)) else (es, S.data.toList) := by
        unfold goO; simp only [hi, true_and]
      rw [hgo]
      clear hgo
      have hop := outE_port es (ad, po) hg
      obtain ⟨q, hq⟩ : ∃ q, outE es (ad, po) = q := ⟨_, rfl⟩
      have HQ : Hid (outE es (ad, po) = q) := hq
      have hpre : q.2.2 = false → q.1 = es := by
        rw [← hq]
        intro hf
        by_cases hm : (ad, po) ∈ es
        · rw [outE_has es _ hm]
        · by_cases hl : es.length < 8
          · rw [outE_new es _ hm hl] at hf; cases hf
          · rw [outE_full es _ hm (by omega)]
      rw [hq] at hop ⊢
      clear hq
      obtain ⟨es2, pt, ok⟩ := q
      simp only at hop hpre ⊢
      go_enter Tryz.func56, Tryz.ntmps56
      go_wp2_with fail
      refine (spec1 ad po _).mono ?_
      rintro r w1 ⟨rfl, k1⟩
      rw [show isB 1 ad po = inB (ad, po) from isB_inB (ad, po), hi]
      have z1 := k1.size
      simp at z1
      have b1 := bA.trans (k1.mono bA.size)
      have c1 := keepc k1 W.heap.size (by simp)
      have hrow1 := hrow.below b1
      go_wp2_with fail
      refine (lout_P _ base (by omega) v es hg hrow1 (ad, po)).mono ?_
      rintro r w2 ⟨v2, rfl, hrow2, k2, kgr, kf⟩
      rw [HQ.out] at hrow2 kf
      rw [HQ.out]
      have b2 := (b1.mono hB).trans k2
      simp only at hrow2 kf
      cases ok
      · have he : es2 = es := hpre rfl
        have kf2 := kf rfl
        have hrowv : OwnP w2 base v es := hrow1.below kf2
        go_wp2
        refine bodyPost_ret (v := .tuple #[v, .string S]) (by simp [results, Tryz.results56, go_sem]) rfl ?_
        exact ⟨_, _, rfl, by simpa using hrowv, by simp, b2, Gr.of (b1.trans (kf2.mono b1.size)) v⟩
      · obtain ⟨p1, p2, _⟩ := hop rfl
        have hsd : sideZ 9 pt ≠ 0 := by
          unfold sideZ; simp; omega
        have hz := txt_four 9 pt
        go_wp2_with fail
        refine (specText 9 pt _).mono ?_
        rintro r w3 ⟨rfl, k3⟩
        have hnd := nm_data 9 pt hsd
        generalize txt 9 pt = X at hz hnd
        go_wp2
        refine bodyPost_ret (v := .tuple #[v2, .string (⟨#[64]⟩ ++ X ++ ⟨#[59]⟩)]) (by simp [results, Tryz.results56, go_sem]) rfl ?_
        refine ⟨_, _, rfl, by simpa using hrow2.below k3, by simpa using hnd, b2.trans (k3.mono (Nat.le_trans hB b2.size)), ⟨grown_trans (grown_trans (grown_of b1 _) kgr.1) (grown_of k3 _), ?_⟩⟩
        rcases kgr.2 with q | ⟨g, q, hq⟩
        · exact .inl q
        · exact .inr ⟨g, q, by have := b1.size; omega⟩

theorem isP_grown {W W' : World} {row : Option Nat} {v : Value} {ps : List Pc} (h : Lz.IsP W v ps) (k : W.grownBy W' row) (hv : ∀ g o n c, v = .slice (some ⟨g, o, none⟩) n c → row ≠ some g) : Lz.IsP W' v ps := by
  rcases h with h | ⟨g, o, cap, rfl, h2, h3, h4⟩
  · exact .inl h
  · refine .inr ⟨g, o, cap, rfl, h2, h3, fun i p hp => ?_⟩
    have hq := h4 i p hp
    have hlt : g < W.heap.size := blk hq.1
    have e : ∀ j, W'.cell? ⟨g, j, none⟩ = W.cell? ⟨g, j, none⟩ := fun j => World.cell?_of_block (k.block g hlt (fun e => hv g o _ _ rfl e.symm))
    exact ⟨(e _).trans hq.1, (e _).trans hq.2.1, (e _).trans hq.2.2.1, (e _).trans hq.2.2.2⟩
theorem lpieces_any (s : ByteArray) (hsz : s.size ≤ 1073741824) (w : World) :
    Calls Tryz.prog 55 #[.string s] w fun e W' => ∃ v, e = .returned v ∧ W'.ownsRow w.heap.size 82 4 v (pcs (bd s.data.toList)).length (Pcs.cellsP (pcs (bd s.data.toList))) ∧ Below w.heap.size w W' :=
  (callsIn_wide (n := 5)).1 (Pcs.lpieces_in 5 (by omega) s hsz w)
theorem szs_take (ps : List Pc) (k : Nat) (p : Pc) (h : ps[k]? = some p) : szs (ps.take (k + 1)) = szs (ps.take k) + p.sz := by
  rw [List.take_add_one, h]; simp [szs]
theorem szs_take_le (ps : List Pc) (k : Nat) : szs (ps.take k) ≤ szs ps := by
  have : szs (ps.take k ++ ps.drop k) = szs (ps.take k) + szs (ps.drop k) := by unfold szs; rw [List.map_append, List.sum_append]
  rw [List.take_append_drop] at this
  omega
set_option maxRecDepth 8000 in
set_option maxHeartbeats 4000000 in
theorem sin_piece (W : World) (v : Value) (es : List (Int × Int)) (hg : GoodE es) (hm : IsM W v (prs es)) (P : Pc) (S : ByteArray) :
    Calls Tryz.prog 57 #[v, pcV P, .string S] W fun r W' => ∃ T, r = .returned (.string T) ∧ T.data.toList = goI es P S.data.toList ∧ Below W.heap.size W W' := by
  obtain ⟨sz, nm, ad, po⟩ := P
  have bA : Below W.heap.size W (W.alloc (.cells #[.int .i64 (sz : Nat), .bool nm, .int .i64 ad, .int .i64 po] 82)) := (Below.refl _ _).alloc (Nat.le_refl _) _
  cases nm
  · have hgo : goI es ⟨sz, false, ad, po⟩ S.data.toList = S.data.toList := by unfold goI; rw [if_neg (by rintro ⟨e, _⟩; cases e)]
    rw [hgo]
    go_enter Tryz.func57, Tryz.ntmps57
    go_wp2
    go_ret
    exact ⟨_, rfl, rfl, bA⟩
  · by_cases hs : sideZ ad po = 3
    · have hdd : isB 3 ad po = true := by rw [isB3]; simp [hs]
      have hgo : goI es ⟨sz, true, ad, po⟩ S.data.toList = if (inE es po).2 = true then nmL (inE es po).1 else S.data.toList := by
        unfold goI; simp only [hs, true_and]
      rw [hgo]
      clear hgo
      have hbd : 10 ≤ po ∧ po ≤ 17 := by
        unfold sideZ at hs
        split at hs
        · omega
        · split at hs
          · omega
          · split at hs <;> omega
      have hin : (inE es po).2 = true → sideZ (inE es po).1.1 (inE es po).1.2 ≠ 0 := by
        intro ht
        rcases inE_cases es po with ⟨i, e, _, he, hq⟩ | ⟨_, hq⟩
        · rw [hq]
          have := hg.ins e (List.mem_of_getElem? he)
          simp only [inB, decide_eq_true_eq] at this
          simp only; omega
        · rw [hq] at ht; cases ht
      obtain ⟨q, hq⟩ : ∃ q, inE es po = q := ⟨_, rfl⟩
      have HQ : Hid (inE es po = q) := hq
      rw [hq] at hin ⊢
      clear hq
      obtain ⟨⟨ea, ep⟩, ok⟩ := q
      simp only at hin ⊢
      go_enter Tryz.func57, Tryz.ntmps57
      go_wp2_with fail
      refine (spec3 ad po _).mono ?_
      rintro r w1 ⟨rfl, k1⟩
      rw [hdd]
      have z1 := k1.size
      simp at z1
      have b1 := bA.trans (k1.mono bA.size)
      have c1 := keepc k1 W.heap.size (by simp)
      go_wp2_with fail
      refine (lin_any _ v es hg.len (hm.below b1) po (by omega) (by omega)).mono ?_
      rintro r w2 ⟨rfl, k2⟩
      rw [HQ.out]
      have b2 := b1.trans (k2.mono b1.size)
      cases ok
      · go_wp2
        go_ret
        exact ⟨_, rfl, by simp, b2.alloc b2.size _⟩
      · have hnz : sideZ ea ep ≠ 0 := hin rfl
        have hz := txt_four ea ep
        go_wp2_with fail
        refine (specText ea ep _).mono ?_
        rintro r w3 ⟨rfl, k3⟩
        have hnd := nm_data ea ep hnz
        have b3 := (b2.alloc (o := .cells #[.int .i64 ea, .int .i64 ep] 77) b2.size).trans (k3.mono (by have := b2.size; simp; omega))
        generalize txt ea ep = X at hz hnd
        go_wp2
        go_ret
        exact ⟨_, rfl, by simpa using hnd, b3⟩
    · have hdd : isB 3 ad po = false := by rw [isB3]; simp [hs]
      have hgo : goI es ⟨sz, true, ad, po⟩ S.data.toList = S.data.toList := by unfold goI; rw [if_neg (by rintro ⟨_, e, _⟩; exact hs e)]
      rw [hgo]
      go_enter Tryz.func57, Tryz.ntmps57
      go_wp2_with fail
      refine (spec3 ad po _).mono ?_
      rintro r w1 ⟨rfl, k1⟩
      rw [hdd]
      have b1 := bA.trans (k1.mono bA.size)
      go_wp2
      go_ret
      exact ⟨_, rfl, rfl, b1⟩

end Go.Proofs.YtihhegjkliolhaaGreatDoor.SpA

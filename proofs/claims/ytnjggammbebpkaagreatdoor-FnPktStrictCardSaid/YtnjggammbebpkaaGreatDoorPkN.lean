/- Walks: a packet is read from its text, by the model: the whole. -/
import Derived.Test.YtnjggammbebpkaaGreatDoorPkM
import Derived.Test.YtnjggammbebpkaaGreatDoorPkQ
namespace Go.Proofs.YtnjggammbebpkaaGreatDoor.PkR
open Go.RowKit Go.Shelf Go.Proofs.YtnjggammbebpkaaGreatDoor.Kit Go.Proofs.YtnjggammbebpkaaGreatDoor.Pk
open Go.Proofs.YtnjggammbebpkaaGreatDoor.EndW (sideZ endV l6in_any inB)
open Go.Proofs.YtnjggammbebpkaaGreatDoor.Read (sread_any)
open Go.Proofs.YtnjggammbebpkaaGreatDoor.CutW (cutF cut_any cutF_size cutF_len)
set_option linter.unusedVariables false
set_option linter.unusedSimpArgs false

set_option maxHeartbeats 1000000 in
theorem sread_great (s : ByteArray) (w : World) (hs : (70 : Int) < s.size) :
    Calls Tryz.prog 12 #[.string s] w fun e w' => e = .returned (.tuple #[pktV 0 0 0 0 0 0 ⟨#[]⟩, .bool false]) ∧ Below w.heap.size w w' := by
  go_enter Tryz.func12, Tryz.ntmps12
  go_wp2
  refine bodyPost_ret (v := .tuple #[pktV 0 0 0 0 0 0 ⟨#[]⟩, .bool false]) ?_ rfl ?_
  · simp [results, Tryz.results12, go_sem]
  · refine ⟨rfl, ?_⟩
    first
    | exact (Below.refl _ _).alloc (Nat.le_refl _) _
    | (repeat (first | (with_reducible refine Below.drew ?_) | (with_reducible refine Below.setCell ?_ (by simp) _))
       exact (Below.refl _ _).alloc (Nat.le_refl _) _)

set_option maxRecDepth 8000 in
set_option maxHeartbeats 8000000 in
theorem sread_four (s y0 y1 y2 y3 : ByteArray) (hs : (s.size : Int) ≤ 70) (hw : cutF s.data.toList = [y0, y1, y2, y3]) (w : World) :
    Calls Tryz.prog 12 #[.string s] w fun e w' => ∃ k a b c d n t B, e = .returned (.tuple #[pktV k a b c d n t, .bool B]) ∧ Below w.heap.size w w' ∧ PTold s k a b c d n t B := by
  have bel0 : Below w.heap.size w (w.alloc (.cells #[.int .i64 0, .int .i64 0, .int .i64 0, .int .i64 0, .int .i64 0, .int .i64 0, .string ⟨#[]⟩] 26)) := (Below.refl _ _).alloc (Nat.le_refl _) _
  have hn : inB 4 4 5 = true := rfl
  have hsz := cutF_size s.data.toList
  rw [hw] at hsz
  have hsl : s.data.toList.length = s.size := rfl
  have s0 : y0.size ≤ 70 := by have := hsz y0 (by simp); omega
  have s1 : y1.size ≤ 70 := by have := hsz y1 (by simp); omega
  have s2 : y2.size ≤ 70 := by have := hsz y2 (by simp); omega
  have s3 : y3.size ≤ 70 := by have := hsz y3 (by simp); omega
  have HC := cut_any s (by omega) (w.alloc (.cells #[.int .i64 0, .int .i64 0, .int .i64 0, .int .i64 0, .int .i64 0, .int .i64 0, .string ⟨#[]⟩] 26))
  rw [hw] at HC
  clear hsz hsl
  go_enter Tryz.func12, Tryz.ntmps12
  go_wp2_with fail
  refine HC.mono ?_
  rintro e w1 ⟨v, rfl, hown, k1⟩
  clear HC
  have z1 := k1.size
  simp at z1
  rcases hown.2 with ⟨_, h0⟩ | ⟨g, cap, cur, rfl, hbg, hg, hnc, hcm, hcs, htk⟩
  · simp at h0
  · simp at hbg
    have c0 : w1.cell? ⟨g, 0, none⟩ = some (.string y0) := (hown.cellAt 0 (by simp)).trans rfl
    have c1 : w1.cell? ⟨g, 1, none⟩ = some (.string y1) := (hown.cellAt 1 (by simp)).trans rfl
    have c2 : w1.cell? ⟨g, 2, none⟩ = some (.string y2) := (hown.cellAt 2 (by simp)).trans rfl
    have c3 : w1.cell? ⟨g, 3, none⟩ = some (.string y3) := (hown.cellAt 3 (by simp)).trans rfl
    have hgw : g < w1.heap.size := (Array.getElem?_eq_some_iff.1 hg).1
    have r1 := keepc k1 w.heap.size (by simp)
    have f1 := keepf k1 w.heap.size (by simp)
    have bel1 := bel0.trans (k1.mono (by simp))
    have hnc' : (4 : Int) ≤ cap := by have : [y0, y1, y2, y3].length ≤ cap := hnc; simp at this; omega
    clear hown hg hnc hcs htk k1 bel0
    go_wp2_with (first | (go_at_call 29; refine (l6in_any _ _ _ _).mono ?_; rintro e w9 ⟨rfl, hq9⟩; obtain rfl : w1 = w9 := hq9.symm))
    refine (sdec_any _ _).mono ?_
    rintro e wq ⟨m, rfl, hq1, hdec⟩
    obtain rfl : w1 = wq := hq1.symm
    have HDEC := (show Hid (DecIs y3 m) from hdec)
    clear hdec
    have eP := (Below.refl w1.heap.size w1).alloc (Nat.le_refl _) (.cells #[.int .i64 2, .int .i64 0, .int .i64 0, .int .i64 0, .int .i64 0, .int .i64 m, .string ⟨#[]⟩] 26)
    have bel2 := bel1.alloc (by omega) (.cells #[.int .i64 2, .int .i64 0, .int .i64 0, .int .i64 0, .int .i64 0, .int .i64 m, .string ⟨#[]⟩] 26)
    have lgw : w.heap.size < w1.heap.size := by omega
    go_wp2_with fail
    refine (sread_any _ _).mono ?_
    rintro e w2 ⟨a, b, t1, rfl, k2, T1⟩
    have HT1 := (show Hid (Read.Told y1 a b t1) from T1)
    have z2 := k2.size
    simp at z2
    have r2 := fun j => (keepc k2 w.heap.size (by simp; omega) j).trans ((keepc eP w.heap.size lgw j).trans (r1 j))
    have f2 := fun j => (keepf k2 w.heap.size (by simp; omega) j).trans ((keepf eP w.heap.size lgw j).trans (f1 j))
    have G2 := fun j => (keepc k2 g (by simp; omega) j).trans (keepc eP g hgw j)
    have P2 := keepc k2 w1.heap.size (by simp)
    have pf2 := keepf k2 w1.heap.size (by simp)
    have bel3 := bel2.trans (k2.mono (by simp; omega))
    have b2 := (G2 2).trans c2
    skip
    have C0 : w2.cell? ⟨w1.heap.size, 0, none⟩ = some (.int .i64 2) := by rw [P2]; simp
    have C1 : w2.cell? ⟨w1.heap.size, 1, none⟩ = some (.int .i64 0) := by rw [P2]; simp
    have C2 : w2.cell? ⟨w1.heap.size, 2, none⟩ = some (.int .i64 0) := by rw [P2]; simp
    have C3 : w2.cell? ⟨w1.heap.size, 3, none⟩ = some (.int .i64 0) := by rw [P2]; simp
    have C4 : w2.cell? ⟨w1.heap.size, 4, none⟩ = some (.int .i64 0) := by rw [P2]; simp
    have C5 : w2.cell? ⟨w1.heap.size, 5, none⟩ = some (.int .i64 m) := by rw [P2]; simp
    have C6 : w2.cell? ⟨w1.heap.size, 6, none⟩ = some (.string ⟨#[]⟩) := by rw [P2]; simp
    have F2 : ∀ j, w2.frozen? ⟨w1.heap.size, j, none⟩ = false := fun j => by rw [pf2]; simp
    have hne : w1.heap.size ≠ g := by omega
    have hne2 : w1.heap.size ≠ w.heap.size := by omega
    clear T1 k2 P2 pf2 G2 eP r1 f1 bel1 bel2 c0 c1 c2 c3 
    go_wp2_with fail
    refine (sread_any _ _).mono ?_
    rintro e w3_ ⟨c, d, t2, rfl, k3, T2⟩
    have HT2 := (show Hid (Read.Told y2 c d t2) from T2)
    have z3 := k3.size
    simp [World.setCell] at z3
    have hz3 : w2.heap.size ≤ w3_.heap.size := by omega
    have r3 : ∀ j, w3_.cell? ⟨w.heap.size, j, none⟩ = w2.cell? ⟨w.heap.size, j, none⟩ := fun j => by
      rw [keepc k3 w.heap.size (by simp [World.setCell]; omega) j, cell_set (by exact hne2), cell_set (by exact hne2)]
    have f3 : ∀ j, w3_.frozen? ⟨w.heap.size, j, none⟩ = w2.frozen? ⟨w.heap.size, j, none⟩ := fun j => by
      rw [keepf k3 w.heap.size (by simp [World.setCell]; omega) j]; simp
    have r4 := fun j => (r3 j).trans (r2 j)
    have f4 := fun j => (f3 j).trans (f2 j)
    have G3 : ∀ j, w3_.cell? ⟨g, j, none⟩ = w2.cell? ⟨g, j, none⟩ := fun j => by
      rw [keepc k3 g (by simp [World.setCell]; omega) j, cell_set (by exact hne), cell_set (by exact hne)]
    have P3 := keepc k3 w1.heap.size (by simp [World.setCell]; omega)
    have F3 : ∀ j, w3_.frozen? ⟨w1.heap.size, j, none⟩ = false := fun j => by rw [keepf k3 w1.heap.size (by simp [World.setCell]; omega) j]; simp [F2]
    have D0 : w3_.cell? ⟨w1.heap.size, 0, none⟩ = some (.int .i64 2) := by rw [P3]; simp [go_sem, C0, C1, C2]
    have D1 : w3_.cell? ⟨w1.heap.size, 1, none⟩ = some (.int .i64 a) := by rw [P3]; simp [go_sem, C0, C1, C2]
    have D2 : w3_.cell? ⟨w1.heap.size, 2, none⟩ = some (.int .i64 b) := by rw [P3]; simp [go_sem, C0, C1, C2]
    have D3 : w3_.cell? ⟨w1.heap.size, 3, none⟩ = some (.int .i64 0) := by rw [P3]; simp [go_sem, C1, C2, C3]
    have D4 : w3_.cell? ⟨w1.heap.size, 4, none⟩ = some (.int .i64 0) := by rw [P3]; simp [go_sem, C1, C2, C4]
    have D5 : w3_.cell? ⟨w1.heap.size, 5, none⟩ = some (.int .i64 m) := by rw [P3]; simp [go_sem, C1, C2, C5]
    have D6 : w3_.cell? ⟨w1.heap.size, 6, none⟩ = some (.string ⟨#[]⟩) := by rw [P3]; simp [go_sem, C1, C2, C6]
    skip
    have bel4 := ((bel3.setCell (p := ⟨w1.heap.size, 1, none⟩) (by show w.heap.size ≤ w1.heap.size; omega) (.int .i64 a)).setCell (p := ⟨w1.heap.size, 2, none⟩) (by show w.heap.size ≤ w1.heap.size; omega) (.int .i64 b)).trans (k3.mono (by simp [World.setCell]; omega))
    have HB4 := (show Hid (Below w.heap.size w w3_) from bel4)
    have lw3 : w.heap.size < w3_.heap.size := by omega
    have lp3 : w1.heap.size < w3_.heap.size := by omega
    obtain ⟨S, hS⟩ : ∃ S, pktS 2 a b c d m ⟨#[]⟩ = S := ⟨_, rfl⟩
    have hTT : (⟨#[]⟩ : ByteArray).size ≤ maxLen := Nat.zero_le _
    have HSAY := (show Hid (∀ k2 a2 b2 c2 d2 n2 q2, pktB k2 a2 b2 c2 d2 n2 q2 = true → s.data.toList = pktL k2 a2 b2 c2 d2 n2 q2 → S = s) from fun k2 a2 b2 c2 d2 n2 q2 hB e => by
      obtain ⟨rfl, rfl, rfl, rfl, rfl, hk⟩ := words_say s _ _ _ _ _ hw HT1.out HT2.out HDEC.out hB e
      rcases hk with ⟨rfl, hr⟩ | ⟨rfl, hr, rfl⟩
      · cases hr
      · rw [← hS]; apply Spl.ext_list; unfold pktS; rw [if_pos hB]; exact e.symm)
    have HYES := (show Hid (S = s → PTold s 2 a b c d m ⟨#[]⟩ true) from fun e => by
      cases hB : pktB 2 a b c d m ⟨#[]⟩
      · exfalso
        have : s = ⟨#[]⟩ := by rw [← e, ← hS]; unfold pktS; rw [hB]; rfl
        rw [this, cut_nil] at hw
        simp at hw
      · refine .inl ⟨rfl, hB, ?_⟩
        rw [← e, ← hS]; unfold pktS; rw [if_pos hB])
    have hemp : S = s → s.toList.isEmpty = false := fun e => by
      cases hB : pktB 2 a b c d m ⟨#[]⟩
      · exfalso
        have : s = ⟨#[]⟩ := by rw [← e, ← hS]; unfold pktS; rw [hB]; rfl
        rw [this, cut_nil] at hw
        simp at hw
      · rw [← e, ← hS, pktS_list hB]; exact pktL_ne _ _ _ _ _ _ _
    have HT := spktText_is 2 a b c d m ⟨#[]⟩ S hTT hS
    clear T2 k3 P3 r2 f2 r3 f3 G3 bel3 bel4 HT1 HT2 HDEC hS hTT C0 C1 C2 C3 C4 C5 C6 F2 b2 hne hne2
    go_wp2_with fail
    refine (HT _).mono ?_
    rintro e w4 ⟨rfl, k4⟩
    have z4 := k4.size
    simp [World.setCell] at z4
    have r5 : ∀ j, w4.cell? ⟨w.heap.size, j, none⟩ = (w.alloc (.cells #[.int .i64 0, .int .i64 0, .int .i64 0, .int .i64 0, .int .i64 0, .int .i64 0, .string ⟨#[]⟩] 26)).cell? ⟨w.heap.size, j, none⟩ := fun j => by
      rw [keepc k4 w.heap.size (by simp [World.setCell]; omega) j, cell_set (by show w1.heap.size ≠ w.heap.size; omega), cell_set (by show w1.heap.size ≠ w.heap.size; omega)]; exact r4 j
    have f5 : ∀ j, w4.frozen? ⟨w.heap.size, j, none⟩ = (w.alloc (.cells #[.int .i64 0, .int .i64 0, .int .i64 0, .int .i64 0, .int .i64 0, .int .i64 0, .string ⟨#[]⟩] 26)).frozen? ⟨w.heap.size, j, none⟩ := fun j => by
      rw [keepf k4 w.heap.size (by simp [World.setCell]; omega) j]; simp [f4]
    have P4 := keepc k4 w1.heap.size (by simp [World.setCell]; omega)
    have E0 : w4.cell? ⟨w1.heap.size, 0, none⟩ = some (.int .i64 2) := by rw [P4]; simp [go_sem, D0, D1, D2, D3, D4, D5, D6]
    have E1 : w4.cell? ⟨w1.heap.size, 1, none⟩ = some (.int .i64 a) := by rw [P4]; simp [go_sem, D0, D1, D2, D3, D4, D5, D6]
    have E2 : w4.cell? ⟨w1.heap.size, 2, none⟩ = some (.int .i64 b) := by rw [P4]; simp [go_sem, D0, D1, D2, D3, D4, D5, D6]
    have E3 : w4.cell? ⟨w1.heap.size, 3, none⟩ = some (.int .i64 c) := by rw [P4]; simp [go_sem, D0, D1, D2, D3, D4, D5, D6]
    have E4 : w4.cell? ⟨w1.heap.size, 4, none⟩ = some (.int .i64 d) := by rw [P4]; simp [go_sem, D0, D1, D2, D3, D4, D5, D6]
    have E5 : w4.cell? ⟨w1.heap.size, 5, none⟩ = some (.int .i64 m) := by rw [P4]; simp [go_sem, D0, D1, D2, D3, D4, D5, D6]
    have E6 : w4.cell? ⟨w1.heap.size, 6, none⟩ = some (.string ⟨#[]⟩) := by rw [P4]; simp [go_sem, D0, D1, D2, D3, D4, D5, D6]
    have lw4 : w.heap.size < w4.heap.size := by omega
    clear P4 D0 D1 D2 D3 D4 D5 D6 r4 f4 F3
    have HB5 := (show Hid (Below w.heap.size w w4) from ((HB4.out.setCell (p := ⟨w1.heap.size, 3, none⟩) (by show w.heap.size ≤ w1.heap.size; omega) (.int .i64 c)).setCell (p := ⟨w1.heap.size, 4, none⟩) (by show w.heap.size ≤ w1.heap.size; omega) (.int .i64 d)).trans (k4.mono (by simp [World.setCell]; omega)))
    clear HT k4
    by_cases hq : S = s
    · have HP := (show Hid (PTold s 2 a b c d m ⟨#[]⟩ true) from HYES.out hq)
      have he := hemp hq
      subst hq
      clear HYES HSAY hemp
      go_wp2
      refine bodyPost_ret (v := .tuple #[pktV 2 a b c d m ⟨#[]⟩, .bool true]) ?_ rfl ?_
      · simp [results, Tryz.results12, go_sem, r5]
      · refine ⟨_, _, _, _, _, _, _, true, rfl, ?_, HP.out⟩
        repeat (first | (with_reducible refine Below.drew ?_) | (with_reducible refine Below.setCell ?_ (by simp) _))
        exact HB5.out
    · have HP := (show Hid (PTold s 0 0 0 0 0 0 ⟨#[]⟩ false) from told_none (fun k2 a2 b2 c2 d2 n2 q2 hB e => hq (HSAY.out k2 a2 b2 c2 d2 n2 q2 hB e)))
      have hb : (S.toList == s.toList) = false := by
        rw [beq_eq_false_iff_ne]
        intro e
        apply hq
        apply Spl.ext_list
        rw [ByteArray.toList_eq, ByteArray.toList_eq] at e
        exact e
      clear HYES HSAY hemp hq
      go_wp2
      refine bodyPost_ret (v := .tuple #[pktV 0 0 0 0 0 0 ⟨#[]⟩, .bool false]) ?_ rfl ?_
      · simp [results, Tryz.results12, go_sem, r5]
      · refine ⟨_, _, _, _, _, _, _, false, rfl, ?_, HP.out⟩
        repeat (first | (with_reducible refine Below.drew ?_) | (with_reducible refine Below.setCell ?_ (by simp) _))
        exact HB5.out

set_option maxRecDepth 8000 in
set_option maxHeartbeats 8000000 in
theorem sread_five (s y0 y1 y2 y3 y4 : ByteArray) (hs : (s.size : Int) ≤ 70) (hw : cutF s.data.toList = [y0, y1, y2, y3, y4]) (w : World) :
    Calls Tryz.prog 12 #[.string s] w fun e w' => ∃ k a b c d n t B, e = .returned (.tuple #[pktV k a b c d n t, .bool B]) ∧ Below w.heap.size w w' ∧ PTold s k a b c d n t B := by
  have bel0 : Below w.heap.size w (w.alloc (.cells #[.int .i64 0, .int .i64 0, .int .i64 0, .int .i64 0, .int .i64 0, .int .i64 0, .string ⟨#[]⟩] 26)) := (Below.refl _ _).alloc (Nat.le_refl _) _
  have hn : inB 5 4 5 = true := rfl
  have hsz := cutF_size s.data.toList
  rw [hw] at hsz
  have hsl : s.data.toList.length = s.size := rfl
  have s0 : y0.size ≤ 70 := by have := hsz y0 (by simp); omega
  have s1 : y1.size ≤ 70 := by have := hsz y1 (by simp); omega
  have s2 : y2.size ≤ 70 := by have := hsz y2 (by simp); omega
  have s3 : y3.size ≤ 70 := by have := hsz y3 (by simp); omega
  have s4 : y4.size ≤ 70 := by have := hsz y4 (by simp); omega
  have HC := cut_any s (by omega) (w.alloc (.cells #[.int .i64 0, .int .i64 0, .int .i64 0, .int .i64 0, .int .i64 0, .int .i64 0, .string ⟨#[]⟩] 26))
  rw [hw] at HC
  clear hsz hsl
  go_enter Tryz.func12, Tryz.ntmps12
  go_wp2_with fail
  refine HC.mono ?_
  rintro e w1 ⟨v, rfl, hown, k1⟩
  clear HC
  have z1 := k1.size
  simp at z1
  rcases hown.2 with ⟨_, h0⟩ | ⟨g, cap, cur, rfl, hbg, hg, hnc, hcm, hcs, htk⟩
  · simp at h0
  · simp at hbg
    have c0 : w1.cell? ⟨g, 0, none⟩ = some (.string y0) := (hown.cellAt 0 (by simp)).trans rfl
    have c1 : w1.cell? ⟨g, 1, none⟩ = some (.string y1) := (hown.cellAt 1 (by simp)).trans rfl
    have c2 : w1.cell? ⟨g, 2, none⟩ = some (.string y2) := (hown.cellAt 2 (by simp)).trans rfl
    have c3 : w1.cell? ⟨g, 3, none⟩ = some (.string y3) := (hown.cellAt 3 (by simp)).trans rfl
    have c4 : w1.cell? ⟨g, 4, none⟩ = some (.string y4) := (hown.cellAt 4 (by simp)).trans rfl
    have hgw : g < w1.heap.size := (Array.getElem?_eq_some_iff.1 hg).1
    have r1 := keepc k1 w.heap.size (by simp)
    have f1 := keepf k1 w.heap.size (by simp)
    have bel1 := bel0.trans (k1.mono (by simp))
    have hnc' : (5 : Int) ≤ cap := by have : [y0, y1, y2, y3, y4].length ≤ cap := hnc; simp at this; omega
    clear hown hg hnc hcs htk k1 bel0
    go_wp2_with (first | (go_at_call 29; refine (l6in_any _ _ _ _).mono ?_; rintro e w9 ⟨rfl, hq9⟩; obtain rfl : w1 = w9 := hq9.symm))
    refine (sdec_any _ _).mono ?_
    rintro e wq ⟨m, rfl, hq1, hdec⟩
    obtain rfl : w1 = wq := hq1.symm
    have HDEC := (show Hid (DecIs y3 m) from hdec)
    clear hdec
    have eP := (Below.refl w1.heap.size w1).alloc (Nat.le_refl _) (.cells #[.int .i64 2, .int .i64 0, .int .i64 0, .int .i64 0, .int .i64 0, .int .i64 m, .string ⟨#[]⟩] 26)
    have bel2 := bel1.alloc (by omega) (.cells #[.int .i64 2, .int .i64 0, .int .i64 0, .int .i64 0, .int .i64 0, .int .i64 m, .string ⟨#[]⟩] 26)
    have lgw : w.heap.size < w1.heap.size := by omega
    go_wp2_with fail
    refine (sread_any _ _).mono ?_
    rintro e w2 ⟨a, b, t1, rfl, k2, T1⟩
    have HT1 := (show Hid (Read.Told y1 a b t1) from T1)
    have z2 := k2.size
    simp at z2
    have r2 := fun j => (keepc k2 w.heap.size (by simp; omega) j).trans ((keepc eP w.heap.size lgw j).trans (r1 j))
    have f2 := fun j => (keepf k2 w.heap.size (by simp; omega) j).trans ((keepf eP w.heap.size lgw j).trans (f1 j))
    have G2 := fun j => (keepc k2 g (by simp; omega) j).trans (keepc eP g hgw j)
    have P2 := keepc k2 w1.heap.size (by simp)
    have pf2 := keepf k2 w1.heap.size (by simp)
    have bel3 := bel2.trans (k2.mono (by simp; omega))
    have b2 := (G2 2).trans c2
    have b4 := (G2 4).trans c4
    have C0 : w2.cell? ⟨w1.heap.size, 0, none⟩ = some (.int .i64 2) := by rw [P2]; simp
    have C1 : w2.cell? ⟨w1.heap.size, 1, none⟩ = some (.int .i64 0) := by rw [P2]; simp
    have C2 : w2.cell? ⟨w1.heap.size, 2, none⟩ = some (.int .i64 0) := by rw [P2]; simp
    have C3 : w2.cell? ⟨w1.heap.size, 3, none⟩ = some (.int .i64 0) := by rw [P2]; simp
    have C4 : w2.cell? ⟨w1.heap.size, 4, none⟩ = some (.int .i64 0) := by rw [P2]; simp
    have C5 : w2.cell? ⟨w1.heap.size, 5, none⟩ = some (.int .i64 m) := by rw [P2]; simp
    have C6 : w2.cell? ⟨w1.heap.size, 6, none⟩ = some (.string ⟨#[]⟩) := by rw [P2]; simp
    have F2 : ∀ j, w2.frozen? ⟨w1.heap.size, j, none⟩ = false := fun j => by rw [pf2]; simp
    have hne : w1.heap.size ≠ g := by omega
    have hne2 : w1.heap.size ≠ w.heap.size := by omega
    clear T1 k2 P2 pf2 G2 eP r1 f1 bel1 bel2 c0 c1 c2 c3 c4
    go_wp2_with fail
    refine (sread_any _ _).mono ?_
    rintro e w3_ ⟨c, d, t2, rfl, k3, T2⟩
    have HT2 := (show Hid (Read.Told y2 c d t2) from T2)
    have z3 := k3.size
    simp [World.setCell] at z3
    have hz3 : w2.heap.size ≤ w3_.heap.size := by omega
    have r3 : ∀ j, w3_.cell? ⟨w.heap.size, j, none⟩ = w2.cell? ⟨w.heap.size, j, none⟩ := fun j => by
      rw [keepc k3 w.heap.size (by simp [World.setCell]; omega) j, cell_set (by exact hne2), cell_set (by exact hne2)]
    have f3 : ∀ j, w3_.frozen? ⟨w.heap.size, j, none⟩ = w2.frozen? ⟨w.heap.size, j, none⟩ := fun j => by
      rw [keepf k3 w.heap.size (by simp [World.setCell]; omega) j]; simp
    have r4 := fun j => (r3 j).trans (r2 j)
    have f4 := fun j => (f3 j).trans (f2 j)
    have G3 : ∀ j, w3_.cell? ⟨g, j, none⟩ = w2.cell? ⟨g, j, none⟩ := fun j => by
      rw [keepc k3 g (by simp [World.setCell]; omega) j, cell_set (by exact hne), cell_set (by exact hne)]
    have P3 := keepc k3 w1.heap.size (by simp [World.setCell]; omega)
    have F3 : ∀ j, w3_.frozen? ⟨w1.heap.size, j, none⟩ = false := fun j => by rw [keepf k3 w1.heap.size (by simp [World.setCell]; omega) j]; simp [F2]
    have D0 : w3_.cell? ⟨w1.heap.size, 0, none⟩ = some (.int .i64 2) := by rw [P3]; simp [go_sem, C0, C1, C2]
    have D1 : w3_.cell? ⟨w1.heap.size, 1, none⟩ = some (.int .i64 a) := by rw [P3]; simp [go_sem, C0, C1, C2]
    have D2 : w3_.cell? ⟨w1.heap.size, 2, none⟩ = some (.int .i64 b) := by rw [P3]; simp [go_sem, C0, C1, C2]
    have D3 : w3_.cell? ⟨w1.heap.size, 3, none⟩ = some (.int .i64 0) := by rw [P3]; simp [go_sem, C1, C2, C3]
    have D4 : w3_.cell? ⟨w1.heap.size, 4, none⟩ = some (.int .i64 0) := by rw [P3]; simp [go_sem, C1, C2, C4]
    have D5 : w3_.cell? ⟨w1.heap.size, 5, none⟩ = some (.int .i64 m) := by rw [P3]; simp [go_sem, C1, C2, C5]
    have D6 : w3_.cell? ⟨w1.heap.size, 6, none⟩ = some (.string ⟨#[]⟩) := by rw [P3]; simp [go_sem, C1, C2, C6]
    have d4 := (G3 4).trans b4
    have bel4 := ((bel3.setCell (p := ⟨w1.heap.size, 1, none⟩) (by show w.heap.size ≤ w1.heap.size; omega) (.int .i64 a)).setCell (p := ⟨w1.heap.size, 2, none⟩) (by show w.heap.size ≤ w1.heap.size; omega) (.int .i64 b)).trans (k3.mono (by simp [World.setCell]; omega))
    have HB4 := (show Hid (Below w.heap.size w w3_) from bel4)
    have lw3 : w.heap.size < w3_.heap.size := by omega
    have lp3 : w1.heap.size < w3_.heap.size := by omega
    obtain ⟨S, hS⟩ : ∃ S, pktS 1 a b c d m y4 = S := ⟨_, rfl⟩
    have hTT : (y4 : ByteArray).size ≤ maxLen := by unfold maxLen; omega
    have HSAY := (show Hid (∀ k2 a2 b2 c2 d2 n2 q2, pktB k2 a2 b2 c2 d2 n2 q2 = true → s.data.toList = pktL k2 a2 b2 c2 d2 n2 q2 → S = s) from fun k2 a2 b2 c2 d2 n2 q2 hB e => by
      obtain ⟨rfl, rfl, rfl, rfl, rfl, hk⟩ := words_say s _ _ _ _ _ hw HT1.out HT2.out HDEC.out hB e
      rcases hk with ⟨rfl, hr⟩ | ⟨rfl, hr, rfl⟩
      · obtain rfl : y4 = q2 := by injection hr
        rw [← hS]; apply Spl.ext_list; unfold pktS; rw [if_pos hB]; exact e.symm
      · cases hr)
    have HYES := (show Hid (S = s → PTold s 1 a b c d m y4 true) from fun e => by
      cases hB : pktB 1 a b c d m y4
      · exfalso
        have : s = ⟨#[]⟩ := by rw [← e, ← hS]; unfold pktS; rw [hB]; rfl
        rw [this, cut_nil] at hw
        simp at hw
      · refine .inl ⟨rfl, hB, ?_⟩
        rw [← e, ← hS]; unfold pktS; rw [if_pos hB])
    have hemp : S = s → s.toList.isEmpty = false := fun e => by
      cases hB : pktB 1 a b c d m y4
      · exfalso
        have : s = ⟨#[]⟩ := by rw [← e, ← hS]; unfold pktS; rw [hB]; rfl
        rw [this, cut_nil] at hw
        simp at hw
      · rw [← e, ← hS, pktS_list hB]; exact pktL_ne _ _ _ _ _ _ _
    have HT := spktText_is 1 a b c d m y4 S hTT hS
    clear T2 k3 P3 r2 f2 r3 f3 G3 bel3 bel4 HT1 HT2 HDEC hS hTT C0 C1 C2 C3 C4 C5 C6 F2 b2 hne hne2
    go_wp2_with fail
    refine (HT _).mono ?_
    rintro e w4 ⟨rfl, k4⟩
    have z4 := k4.size
    simp [World.setCell] at z4
    have r5 : ∀ j, w4.cell? ⟨w.heap.size, j, none⟩ = (w.alloc (.cells #[.int .i64 0, .int .i64 0, .int .i64 0, .int .i64 0, .int .i64 0, .int .i64 0, .string ⟨#[]⟩] 26)).cell? ⟨w.heap.size, j, none⟩ := fun j => by
      rw [keepc k4 w.heap.size (by simp [World.setCell]; omega) j, cell_set (by show w1.heap.size ≠ w.heap.size; omega), cell_set (by show w1.heap.size ≠ w.heap.size; omega), cell_set (by show w1.heap.size ≠ w.heap.size; omega), cell_set (by show w1.heap.size ≠ w.heap.size; omega)]; exact r4 j
    have f5 : ∀ j, w4.frozen? ⟨w.heap.size, j, none⟩ = (w.alloc (.cells #[.int .i64 0, .int .i64 0, .int .i64 0, .int .i64 0, .int .i64 0, .int .i64 0, .string ⟨#[]⟩] 26)).frozen? ⟨w.heap.size, j, none⟩ := fun j => by
      rw [keepf k4 w.heap.size (by simp [World.setCell]; omega) j]; simp [f4]
    have P4 := keepc k4 w1.heap.size (by simp [World.setCell]; omega)
    have E0 : w4.cell? ⟨w1.heap.size, 0, none⟩ = some (.int .i64 1) := by rw [P4]; simp [go_sem, D0, D1, D2, D3, D4, D5, D6]
    have E1 : w4.cell? ⟨w1.heap.size, 1, none⟩ = some (.int .i64 a) := by rw [P4]; simp [go_sem, D0, D1, D2, D3, D4, D5, D6]
    have E2 : w4.cell? ⟨w1.heap.size, 2, none⟩ = some (.int .i64 b) := by rw [P4]; simp [go_sem, D0, D1, D2, D3, D4, D5, D6]
    have E3 : w4.cell? ⟨w1.heap.size, 3, none⟩ = some (.int .i64 c) := by rw [P4]; simp [go_sem, D0, D1, D2, D3, D4, D5, D6]
    have E4 : w4.cell? ⟨w1.heap.size, 4, none⟩ = some (.int .i64 d) := by rw [P4]; simp [go_sem, D0, D1, D2, D3, D4, D5, D6]
    have E5 : w4.cell? ⟨w1.heap.size, 5, none⟩ = some (.int .i64 m) := by rw [P4]; simp [go_sem, D0, D1, D2, D3, D4, D5, D6]
    have E6 : w4.cell? ⟨w1.heap.size, 6, none⟩ = some (.string y4) := by rw [P4]; simp [go_sem, D0, D1, D2, D3, D4, D5, D6]
    have lw4 : w.heap.size < w4.heap.size := by omega
    clear P4 D0 D1 D2 D3 D4 D5 D6 r4 f4 F3 d4 b4
    have HB5 := (show Hid (Below w.heap.size w w4) from ((((HB4.out.setCell (p := ⟨w1.heap.size, 3, none⟩) (by show w.heap.size ≤ w1.heap.size; omega) (.int .i64 c)).setCell (p := ⟨w1.heap.size, 4, none⟩) (by show w.heap.size ≤ w1.heap.size; omega) (.int .i64 d)).setCell (p := ⟨w1.heap.size, 0, none⟩) (by show w.heap.size ≤ w1.heap.size; omega) (.int .i64 1)).setCell (p := ⟨w1.heap.size, 6, none⟩) (by show w.heap.size ≤ w1.heap.size; omega) (.string y4)).trans (k4.mono (by simp [World.setCell]; omega)))
    clear HT k4
    by_cases hq : S = s
    · have HP := (show Hid (PTold s 1 a b c d m y4 true) from HYES.out hq)
      have he := hemp hq
      subst hq
      clear HYES HSAY hemp
      go_wp2
      refine bodyPost_ret (v := .tuple #[pktV 1 a b c d m y4, .bool true]) ?_ rfl ?_
      · simp [results, Tryz.results12, go_sem, r5]
      · refine ⟨_, _, _, _, _, _, _, true, rfl, ?_, HP.out⟩
        repeat (first | (with_reducible refine Below.drew ?_) | (with_reducible refine Below.setCell ?_ (by simp) _))
        exact HB5.out
    · have HP := (show Hid (PTold s 0 0 0 0 0 0 ⟨#[]⟩ false) from told_none (fun k2 a2 b2 c2 d2 n2 q2 hB e => hq (HSAY.out k2 a2 b2 c2 d2 n2 q2 hB e)))
      have hb : (S.toList == s.toList) = false := by
        rw [beq_eq_false_iff_ne]
        intro e
        apply hq
        apply Spl.ext_list
        rw [ByteArray.toList_eq, ByteArray.toList_eq] at e
        exact e
      clear HYES HSAY hemp hq
      go_wp2
      refine bodyPost_ret (v := .tuple #[pktV 0 0 0 0 0 0 ⟨#[]⟩, .bool false]) ?_ rfl ?_
      · simp [results, Tryz.results12, go_sem, r5]
      · refine ⟨_, _, _, _, _, _, _, false, rfl, ?_, HP.out⟩
        repeat (first | (with_reducible refine Below.drew ?_) | (with_reducible refine Below.setCell ?_ (by simp) _))
        exact HB5.out
set_option maxHeartbeats 2000000 in
theorem sread_few (s : ByteArray) (hs : (s.size : Int) ≤ 70) (hl : inB ((cutF s.data.toList).length : Int) 4 5 = false) (w : World) :
    Calls Tryz.prog 12 #[.string s] w fun e w' => e = .returned (.tuple #[pktV 0 0 0 0 0 0 ⟨#[]⟩, .bool false]) ∧ Below w.heap.size w w' := by
  have bel0 : Below w.heap.size w (w.alloc (.cells #[.int .i64 0, .int .i64 0, .int .i64 0, .int .i64 0, .int .i64 0, .int .i64 0, .string ⟨#[]⟩] 26)) := (Below.refl _ _).alloc (Nat.le_refl _) _
  have HC := cut_any s (by omega) (w.alloc (.cells #[.int .i64 0, .int .i64 0, .int .i64 0, .int .i64 0, .int .i64 0, .int .i64 0, .string ⟨#[]⟩] 26))
  have h1 := (cutF_len s.data.toList).1
  have h2 := (cutF_len s.data.toList).2
  have h3 : s.data.toList.length = s.size := rfl
  generalize cutF s.data.toList = ws at *
  go_enter Tryz.func12, Tryz.ntmps12
  go_wp2_with fail
  refine HC.mono ?_
  rintro e w1 ⟨v, rfl, hown, k1⟩
  clear HC
  have z1 := k1.size
  simp at z1
  rcases hown.2 with ⟨_, h0⟩ | ⟨g, cap, cur, rfl, hbg, hg, hnc, hcm, hcs, htk⟩
  · omega
  · have r1 := keepc k1 w.heap.size (by simp)
    have f1 := keepf k1 w.heap.size (by simp)
    have bel1 := bel0.trans (k1.mono (by simp))
    clear hown hg hnc hcs htk k1 bel0
    go_wp2_with (first | (go_at_call 29; refine (l6in_any _ _ _ _).mono ?_; rintro e w9 ⟨rfl, hq9⟩; obtain rfl : w1 = w9 := hq9.symm))
    refine bodyPost_ret (v := .tuple #[pktV 0 0 0 0 0 0 ⟨#[]⟩, .bool false]) ?_ rfl ?_
    · simp [results, Tryz.results12, go_sem, r1]
    · refine ⟨rfl, ?_⟩
      repeat (first | (with_reducible refine Below.drew ?_) | (with_reducible refine Below.setCell ?_ (by simp) _))
      exact bel1

/-- PktRead of the model answers the packet whose text this is; nothing and false, if it is of none -/
theorem spktRead (s : ByteArray) (w : World) :
    Calls Tryz.prog 12 #[.string s] w fun e w' => ∃ k a b c d n t B, e = .returned (.tuple #[pktV k a b c d n t, .bool B]) ∧ Below w.heap.size w w' ∧ PTold s k a b c d n t B := by
  by_cases hs : (70 : Int) < s.size
  · refine (sread_great s w hs).mono ?_
    rintro e w' ⟨rfl, k⟩
    exact ⟨_, _, _, _, _, _, _, false, rfl, k, told_none (great_none s (by omega))⟩
  · have hs' : (s.size : Int) ≤ 70 := by omega
    cases hl : inB ((cutF s.data.toList).length : Int) 4 5
    · refine (sread_few s hs' hl w).mono ?_
      rintro e w' ⟨rfl, k⟩
      refine ⟨_, _, _, _, _, _, _, false, rfl, k, told_none (fun k a b c d n t hB e => ?_)⟩
      rw [cut_pkt s k a b c d n t hB e] at hl
      unfold pktWs at hl
      rcases (pkt_parts hB).2.2.2.2 with ⟨rfl, _, _⟩ | ⟨rfl, rfl⟩
      · rw [if_pos rfl] at hl; cases hl
      · rw [if_neg (by decide)] at hl; cases hl
    · have hb : 4 ≤ (cutF s.data.toList).length ∧ (cutF s.data.toList).length ≤ 5 := by
        unfold inB at hl; simp at hl; omega
      match hw : cutF s.data.toList, hb with
      | [y0, y1, y2, y3], _ => exact sread_four s y0 y1 y2 y3 hs' hw w
      | [y0, y1, y2, y3, y4], _ => exact sread_five s y0 y1 y2 y3 y4 hs' hw w
      | [], h => exact absurd h.1 (by simp)
      | [_], h => exact absurd h.1 (by simp)
      | [_, _], h => exact absurd h.1 (by simp)
      | [_, _, _], h => exact absurd h.1 (by simp)
      | _ :: _ :: _ :: _ :: _ :: _ :: _, h => exact absurd h.2 (by simp)
end Go.Proofs.YtnjggammbebpkaaGreatDoor.PkR

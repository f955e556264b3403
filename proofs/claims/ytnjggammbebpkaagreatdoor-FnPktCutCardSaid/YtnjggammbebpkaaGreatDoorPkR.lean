/- Walks: a packet is read from words, by the program. -/
import Derived.Test.YtnjggammbebpkaaGreatDoorSpl
import Derived.Test.YtnjggammbebpkaaGreatDoorRead
import Derived.Deep.Cut
import Derived.Test.YtnjggammbebpkaaGreatDoorSt8
namespace Go.Proofs.YtnjggammbebpkaaGreatDoor.PkR
open Go.RowKit Go.Shelf Go.Proofs.YtnjggammbebpkaaGreatDoor.Kit Go.Proofs.YtnjggammbebpkaaGreatDoor.Pk
open Go.Proofs.YtnjggammbebpkaaGreatDoor.EndW (sideZ endV)
open Go.Proofs.YtnjggammbebpkaaGreatDoor.Text (txt txtL)
open Go.Proofs.YtnjggammbebpkaaGreatDoor.Read (Errs read_any atoi_any bdn)
set_option linter.unusedVariables false
set_option linter.unusedSimpArgs false

/-- the error of a text that is no packet's -/
abbrev errV (p : Addr) : Value := .iface 141 (.pointer (some p))
/-- what the walks ask of the variables -/
structure Glob (w : World) (p : Addr) : Prop where
  errs : Errs w
  no : w.cell? ⟨0, 0, none⟩ = some (errV p)
theorem Glob.below {w w' : World} {p : Addr} (h : Glob w p) (k : Below w.heap.size w w') : Glob w' p :=
  ⟨h.errs.below k, by rw [k.cell (p := ⟨0, 0, none⟩) (blk h.no)]; exact h.no⟩

/-- the kind that a first word says -/
def kindZ (s : ByteArray) : Int := if s.data.toList = [100, 97, 116, 97] then 1 else if s.data.toList = [97, 99, 107] then 2 else 0

set_option maxHeartbeats 400000 in
theorem kind_any (s : ByteArray) (w : World) :
    Calls Tryz.prog 56 #[.string s] w fun e w' => e = .returned (.int .i64 (kindZ s)) ∧ w' = w := by
  by_cases h1 : s.data.toList = [100, 97, 116, 97]
  · have hr : kindZ s = 1 := by unfold kindZ; rw [if_pos h1]
    rw [hr]; clear hr
    have hb : (s.toList == [100, 97, 116, 97]) = true := by rw [ByteArray.toList_eq, h1]; decide
    go_enter Tryz.func56, Tryz.ntmps56
    go_wp2
    go_ret
    exact ⟨rfl, rfl⟩
  · have hb : (s.toList == [100, 97, 116, 97]) = false := by rw [ByteArray.toList_eq, beq_eq_false_iff_ne]; exact h1
    by_cases h2 : s.data.toList = [97, 99, 107]
    · have hr : kindZ s = 2 := by unfold kindZ; rw [if_neg h1, if_pos h2]
      rw [hr]; clear hr
      have hb2 : (s.toList == [97, 99, 107]) = true := by rw [ByteArray.toList_eq, h2]; decide
      go_enter Tryz.func56, Tryz.ntmps56
      go_wp2
      go_ret
      exact ⟨rfl, rfl⟩
    · have hr : kindZ s = 0 := by unfold kindZ; rw [if_neg h1, if_neg h2]
      rw [hr]; clear hr
      have hb2 : (s.toList == [97, 99, 107]) = false := by rw [ByteArray.toList_eq, beq_eq_false_iff_ne]; exact h2
      go_enter Tryz.func56, Tryz.ntmps56
      go_wp2
      go_ret
      exact ⟨rfl, rfl⟩

/-- what words say -/
def Good (w0 w1 w2 w3 : ByteArray) (r : List ByteArray) (k a b c d n : Int) (t : ByteArray) : Prop :=
  Read.Told w1 a b true ∧ Read.Told w2 c d true ∧ Lib.atoiAll w3.data.toList = .ok n ∧ k = kindZ w0 ∧ t = r.headD ⟨#[]⟩
/-- words that are no packet's -/
def Bad (w1 w2 w3 : ByteArray) : Prop :=
  (∀ u v, sideZ u v ≠ 0 → w1.toList ≠ txtL u v) ∨ (∀ u v, sideZ u v ≠ 0 → w2.toList ≠ txtL u v) ∨ (∀ u, Lib.atoiAll w3.data.toList ≠ .ok u)

set_option maxHeartbeats 1000000 in
theorem words_few (len N g : Nat) (p : Addr) (w : World) (hG : Glob w p) (hl : (len : Int) < 4) :
    Calls Tryz.prog 40 #[.slice (some ⟨g, 0, none⟩) len N] w fun e w' => e = .returned (.tuple #[pktV 0 0 0 0 0 0 ⟨#[]⟩, errV p]) ∧ Below w.heap.size w w' := by
  have hno := hG.no
  have hlt := blk hG.no
  simp at hlt
  go_enter Tryz.func40, Tryz.ntmps40
  go_wp2
  go_region
  all_goals
    go_wp2
    refine bodyPost_ret (v := .tuple #[pktV 0 0 0 0 0 0 ⟨#[]⟩, errV p]) ?_ rfl ?_
    · simp [results, Tryz.results40, go_sem]
    · refine ⟨rfl, ?_⟩
      repeat (refine Below.setCell ?_ (by simp) _)
      first | exact ((Below.refl _ _).alloc (Nat.le_refl _) _).drew | exact (Below.refl _ _).alloc (Nat.le_refl _) _

theorem told_yes {s : ByteArray} {x y : Int} {b : Bool} (h : Read.Told s x y b) (hb : b = false) : ∀ u v, sideZ u v ≠ 0 → s.toList ≠ txtL u v := by
  rcases h with ⟨h1, _⟩ | ⟨_, _, _, h⟩
  · rw [hb] at h1; cases h1
  · exact h

set_option maxRecDepth 8000 in
set_option maxHeartbeats 8000000 in
theorem words_four (w0 w1 w2 w3 : ByteArray) (N g : Nat) (p : Addr) (w : World) (hG : Glob w p) (s1 : w1.size ≤ 1000) (s2 : w2.size ≤ 1000) (s3 : w3.size ≤ 1000)
    (q0 : w.cell? ⟨g, 0, none⟩ = some (.string w0)) (q1 : w.cell? ⟨g, 1, none⟩ = some (.string w1)) (q2 : w.cell? ⟨g, 2, none⟩ = some (.string w2)) (q3 : w.cell? ⟨g, 3, none⟩ = some (.string w3)) :
    Calls Tryz.prog 40 #[.slice (some ⟨g, 0, none⟩) 4 N] w fun e w' => ∃ k a b c d n t ev, e = .returned (.tuple #[pktV k a b c d n t, ev]) ∧ Below w.heap.size w w' ∧
      ((ev = .nilIface ∧ Good w0 w1 w2 w3 [] k a b c d n t) ∨ (ev = errV p ∧ Bad w1 w2 w3)) := by
  have hg : g < w.heap.size := blk q0
  have bel0 : Below w.heap.size w (w.alloc (.cells #[.int .i64 0, .int .i64 0, .int .i64 0, .int .i64 0, .int .i64 0, .int .i64 0, .string ⟨#[]⟩] 26)) := (Below.refl _ _).alloc (Nat.le_refl _) _
  have HG := (show Hid (Glob w p) from hG)
  have g0 : w.cell? ⟨0, 0, none⟩ = some (errV p) := hG.no
  have lg : 0 < w.heap.size := blk g0
  clear hG
  go_enter Tryz.func40, Tryz.ntmps40
  go_wp2_with fail
  refine (read_any w1 _ (by omega) (HG.out.below bel0).errs).mono ?_
  rintro e x1 ⟨a, b, t1, rfl, k1, T1⟩
  have z1 := k1.size
  simp at z1
  have r1 := keepc k1 w.heap.size (by simp)
  have f1 := keepf k1 w.heap.size (by simp)
  have bel1 := bel0.trans (k1.mono (by simp))
  have eF := (Below.refl x1.heap.size x1).alloc (Nat.le_refl _) (.cells #[.int .i64 a, .int .i64 b] 24)
  have bel2 := bel1.trans (eF.mono (by omega))
  have r2 := fun j => (keepc eF w.heap.size (by omega) j).trans (r1 j)
  have f2 := fun j => (keepf eF w.heap.size (by omega) j).trans (f1 j)
  have p2 := (bel1.cell (p := ⟨g, 2, none⟩) hg).trans q2
  clear k1 bel0 r1 f1
  have hgx : g < x1.heap.size := by omega
  have HT1 := (show Hid (Read.Told w1 a b t1) from T1)
  clear T1
  go_wp2_with fail
  refine (read_any w2 _ (by omega) (HG.out.below bel2).errs).mono ?_
  rintro e x2 ⟨c, d, t2, rfl, k2, T2⟩
  have z2 := k2.size
  simp at z2
  have r3 := fun j => (keepc k2 w.heap.size (by simp; omega) j).trans (r2 j)
  have f3 := fun j => (keepf k2 w.heap.size (by simp; omega) j).trans (f2 j)
  have F3 := keepc k2 x1.heap.size (by simp)
  have bel3 := bel2.trans (k2.mono (by simp; omega))
  have eS := (Below.refl x2.heap.size x2).alloc (Nat.le_refl _) (.cells #[.int .i64 c, .int .i64 d] 24)
  have bel4 := bel3.trans (eS.mono (by omega))
  have r4 := fun j => (keepc eS w.heap.size (by omega) j).trans (r3 j)
  have f4 := fun j => (keepf eS w.heap.size (by omega) j).trans (f3 j)
  have F4 := fun j => (keepc eS x1.heap.size (by omega) j).trans (F3 j)
  have p3 := (bel3.cell (p := ⟨g, 3, none⟩) hg).trans q3
  clear k2 r2 f2 r3 f3 F3 eF bel2 bel1
  have hgy : g < x2.heap.size := by omega
  have HT2 := (show Hid (Read.Told w2 c d t2) from T2)
  clear T2
  go_wp2_with fail
  refine (atoi_any w3 (by omega) _ (HG.out.below bel4).errs).mono ?_
  rintro e x3 ⟨n, ev, rfl, k3, hn⟩
  have z3 := k3.size
  simp at z3
  have r5 := fun j => (keepc k3 w.heap.size (by simp; omega) j).trans (r4 j)
  have f5 := fun j => (keepf k3 w.heap.size (by simp; omega) j).trans (f4 j)
  have F5 := fun j => (keepc k3 x1.heap.size (by simp; omega) j).trans (F4 j)
  have S5 := keepc k3 x2.heap.size (by simp)
  have bel5 := bel4.trans (k3.mono (by simp; omega))
  have p0 := (bel5.cell (p := ⟨g, 0, none⟩) hg).trans q0
  have gn := (bel5.cell (p := ⟨0, 0, none⟩) lg).trans g0
  have F50 : x3.cell? ⟨x1.heap.size, 0, none⟩ = some (.int .i64 a) := by rw [F5]; simp
  have F51 : x3.cell? ⟨x1.heap.size, 1, none⟩ = some (.int .i64 b) := by rw [F5]; simp
  have S50 : x3.cell? ⟨x2.heap.size, 0, none⟩ = some (.int .i64 c) := by rw [S5]; simp
  have S51 : x3.cell? ⟨x2.heap.size, 1, none⟩ = some (.int .i64 d) := by rw [S5]; simp
  clear k3 r4 f4 F4 F5 S5 eS bel4 bel3 p2 p3
  cases t1
  · have hbad : Bad w1 w2 w3 := .inl (told_yes HT1.out rfl)
    have HBAD := (show Hid (Bad w1 w2 w3) from hbad)
    have HBEL := (show Hid (Below w.heap.size w x3) from bel5)
    clear hbad hn HT1 HT2 F50 F51 S50 S51 p0 HG g0 bel5
    go_upto_region 7 with fail
    go_region
    all_goals
      go_wp2
      refine bodyPost_ret (v := .tuple #[pktV 0 0 0 0 0 0 ⟨#[]⟩, errV p]) ?_ rfl ?_
      · simp [results, Tryz.results40, go_sem, r5]
      · refine ⟨_, _, _, _, _, _, _, _, rfl, ?_, .inr ⟨rfl, HBAD.out⟩⟩
        repeat (first | (with_reducible refine Below.drew ?_) | (with_reducible refine Below.setCell ?_ (by simp) _))
        exact HBEL.out
  · cases t2
    · have hbad : Bad w1 w2 w3 := .inr (.inl (told_yes HT2.out rfl))
      have HBAD := (show Hid (Bad w1 w2 w3) from hbad)
      have HBEL := (show Hid (Below w.heap.size w x3) from bel5)
      clear hbad hn HT1 HT2 F50 F51 S50 S51 p0 HG g0 bel5
      go_upto_region 7 with fail
      go_region
      all_goals
        go_wp2
        refine bodyPost_ret (v := .tuple #[pktV 0 0 0 0 0 0 ⟨#[]⟩, errV p]) ?_ rfl ?_
        · simp [results, Tryz.results40, go_sem, r5]
        · refine ⟨_, _, _, _, _, _, _, _, rfl, ?_, .inr ⟨rfl, HBAD.out⟩⟩
          repeat (first | (with_reducible refine Below.drew ?_) | (with_reducible refine Below.setCell ?_ (by simp) _))
          exact HBEL.out
    · rcases hn with ⟨rfl, hok⟩ | ⟨⟨M, rfl⟩, hno⟩
      · have HGOOD := (show Hid (Good w0 w1 w2 w3 [] (kindZ w0) a b c d n ⟨#[]⟩) from ⟨HT1.out, HT2.out, hok, rfl, rfl⟩)
        have HBEL := (show Hid (Below w.heap.size w x3) from bel5)
        clear hok HT1 HT2 HG g0 gn bel5
        have hg3 : g < x3.drew.heap.size := by show g < x3.heap.size; omega
        have hF3 : x1.heap.size < x3.drew.heap.size := by show x1.heap.size < x3.heap.size; omega
        have hS3 : x2.heap.size < x3.drew.heap.size := by show x2.heap.size < x3.heap.size; omega
        have hmix : Tryz.prog.follows .mixedOrders = true := by kernel_rfl
        obtain ⟨VV, hVV⟩ : ∃ VV : Nat → Value, VV = fun j => [(.slice (some ⟨g, 0, none⟩) 4 N : Value), .pointer (some ⟨g, 0, none⟩), .string w0, .int .i64 (kindZ w0), .agg #[.int .i64 a, .int .i64 b], .agg #[.int .i64 c, .int .i64 d], .int .i64 n, .agg #[.int .i64 (kindZ w0), .int .i64 a, .int .i64 b, .int .i64 c, .int .i64 d, .int .i64 n, .string ⟨#[]⟩], undef, undef].getD j undef := ⟨_, rfl⟩
        have V0 : VV 0 = .slice (some ⟨g, 0, none⟩) 4 N := by rw [hVV]; rfl
        have V1 : VV 1 = .pointer (some ⟨g, 0, none⟩) := by rw [hVV]; rfl
        have V2 : VV 2 = .string w0 := by rw [hVV]; rfl
        have V3 : VV 3 = .int .i64 (kindZ w0) := by rw [hVV]; rfl
        have V4 : VV 4 = .agg #[.int .i64 a, .int .i64 b] := by rw [hVV]; rfl
        have V5 : VV 5 = .agg #[.int .i64 c, .int .i64 d] := by rw [hVV]; rfl
        have V6 : VV 6 = .int .i64 n := by rw [hVV]; rfl
        have V7 : VV 7 = .agg #[.int .i64 (kindZ w0), .int .i64 a, .int .i64 b, .int .i64 c, .int .i64 d, .int .i64 n, .string ⟨#[]⟩] := by rw [hVV]; rfl
        have V8 : VV 8 = undef := by rw [hVV]; rfl
        have V9 : VV 9 = undef := by rw [hVV]; rfl
        clear hVV
        go_upto_region 8 with fail
        refine wp_region_any hmix ?_
        refine Ri.any_inv (I := fun l a' w' => l.size = 10 ∧ ∃ (t : Nat → Value) (x : Value), a' = { tmps := #[(Value.slice (some { block := g, off := 0 }) 4 N : Value), undef, Value.pointer (some { block := w.heap.size, off := 0 }), Value.nilIface, Value.pointer (some { block := x1.heap.size, off := 0 }), Value.bool true, Value.pointer (some { block := x2.heap.size, off := 0 }), Value.bool true, Value.int IntKind.i64 n, Value.nilIface, x, Value.slice (some { block := g, off := 0 }) 4 N, Value.int IntKind.i64 4, Value.bool false, undef, undef, Value.tuple #[endV a b, Value.bool true], Value.slice (some { block := g, off := 0 }) 4 N, Value.pointer (some { block := g, off := 1 }), Value.string w1, Value.tuple #[endV a b, Value.bool true], endV a b, Value.bool true, Value.tuple #[endV c d, Value.bool true], Value.slice (some { block := g, off := 0 }) 4 N, Value.pointer (some { block := g, off := 2 }), Value.string w2, Value.tuple #[endV c d, Value.bool true], endV c d, Value.bool true, Value.tuple #[Value.int IntKind.i64 n, Value.nilIface], Value.slice (some { block := g, off := 0 }) 4 N, Value.pointer (some { block := g, off := 3 }), Value.string w3, Value.tuple #[Value.int IntKind.i64 n, Value.nilIface], Value.int IntKind.i64 n, Value.nilIface, Value.bool true, Value.bool false, Value.bool false, Value.bool true, Value.bool false, Value.bool false, Value.bool false, Value.nilIface, Value.bool false, Value.bool false, undef, undef, t 0, t 1, t 2, t 3, t 4, t 5, t 6, t 7, undef, undef, undef, undef, undef, undef, undef, undef], defers := [] } ∧ Rg.Vals l VV t ∧ Ri.St8 x3.drew (.cells #[.int .i64 0, .int .i64 0, .int .i64 0, .int .i64 0, .int .i64 0, .int .i64 0, .string ⟨#[]⟩] 26) [.int .i64 (kindZ w0), .int .i64 a, .int .i64 b, .int .i64 c, .int .i64 d, .int .i64 n, .string ⟨#[]⟩] 8 9 l x w') ?sz ?low ?step ?fin _ _ _ _ ?start (Ri.closed_none _ _ _) (Rg.left_all _)
        case sz => exact fun l a' w' h => h.1
        case start => exact ⟨by simp, fun j => ([undef, undef, undef, undef, undef, undef, undef, undef, undef, undef] : List Value).getD j undef, undef, rfl, Rg.vals_none _ _ _, Ri.St8.start _ _ _ _ _ _⟩
        case low => exact Ri.low_of (by kernel_rfl)
        case step =>
          rintro l a' w' i ⟨hsz, t, x, rfl, hv, HM⟩ hcl hi
          obtain ⟨h0, op, ho, hd⟩ := mem_ready.1 hi
          have hin : i < 10 := (Array.getElem?_eq_some_iff.1 ho).1
          have hnl := Rg.not_listed h0
          have hL1 : l.getD 9 false = true → ∀ j, j < 9 → l.getD j false = true := Ri.up_of (by kernel_rfl) hcl
          clear h0 hi hcl
          have hc : i = 0 ∨ i = 1 ∨ i = 2 ∨ i = 3 ∨ i = 4 ∨ i = 5 ∨ i = 6 ∨ i = 7 ∨ i = 8 ∨ i = 9 := by omega
          rcases hc with rfl | rfl | rfl | rfl | rfl | rfl | rfl | rfl | rfl | rfl
          · obtain rfl : _ = op := Option.some.inj (show some _ = some op from ho)
            have q9 : l.getD 9 false = false := by
              cases q : l.getD 9 false
              · rfl
              · rw [hL1 q 0 (by omega)] at hnl; cases hnl
            have HV := (show Hid (Rg.Vals l VV t) from hv)
            have HQ := (show Hid (Ri.St8 x3.drew (.cells #[.int .i64 0, .int .i64 0, .int .i64 0, .int .i64 0, .int .i64 0, .int .i64 0, .string ⟨#[]⟩] 26) [.int .i64 (kindZ w0), .int .i64 a, .int .i64 b, .int .i64 c, .int .i64 d, .int .i64 n, .string ⟨#[]⟩] 8 9 l x w') from HM)
            clear hv hd ho HM
            refine wpOp_step rfl fun K9 hK9 => ?_
            have HKK := (show Hid _ from hK9)
            clear hK9
            go_simp
            exact HKK.out _ _ ⟨by simp [hsz], fun j => if j = 0 then .slice (some ⟨g, 0, none⟩) 4 N else t j, x, by simp, HV.out.put 0 _ V0.symm, HQ.out.other (by decide) (by decide)⟩
          · obtain rfl : _ = op := Option.some.inj (show some _ = some op from ho)
            have e0 : t 0 = .slice (some ⟨g, 0, none⟩) 4 N := (hv 0 (hd { on := 0, ground := .data } (by simp) rfl)).trans V0
            have q9 : l.getD 9 false = false := by
              cases q : l.getD 9 false
              · rfl
              · rw [hL1 q 1 (by omega)] at hnl; cases hnl
            have HV := (show Hid (Rg.Vals l VV t) from hv)
            have HQ := (show Hid (Ri.St8 x3.drew (.cells #[.int .i64 0, .int .i64 0, .int .i64 0, .int .i64 0, .int .i64 0, .int .i64 0, .string ⟨#[]⟩] 26) [.int .i64 (kindZ w0), .int .i64 a, .int .i64 b, .int .i64 c, .int .i64 d, .int .i64 n, .string ⟨#[]⟩] 8 9 l x w') from HM)
            clear hv hd ho HM
            refine wpOp_step rfl fun K9 hK9 => ?_
            have HKK := (show Hid _ from hK9)
            clear hK9
            go_simp
            exact HKK.out _ _ ⟨by simp [hsz], fun j => if j = 1 then .pointer (some ⟨g, 0, none⟩) else t j, x, by simp [e0], HV.out.put 1 _ V1.symm, HQ.out.other (by decide) (by decide)⟩
          · obtain rfl : _ = op := Option.some.inj (show some _ = some op from ho)
            have e1 : t 1 = .pointer (some ⟨g, 0, none⟩) := (hv 1 (hd { on := 1, ground := .data } (by simp) rfl)).trans V1
            have q9 : l.getD 9 false = false := by
              cases q : l.getD 9 false
              · rfl
              · rw [hL1 q 2 (by omega)] at hnl; cases hnl
            have HW := (show Hid (Below x3.drew.heap.size x3.drew w') from HM.below q9)
            have yp0 : w'.cell? ⟨g, 0, none⟩ = some (.string w0) := (HW.out.cell (p := ⟨g, 0, none⟩) hg3).trans p0
            have yF50 : w'.cell? ⟨x1.heap.size, 0, none⟩ = some (.int .i64 a) := (HW.out.cell (p := ⟨x1.heap.size, 0, none⟩) hF3).trans F50
            have yF51 : w'.cell? ⟨x1.heap.size, 1, none⟩ = some (.int .i64 b) := (HW.out.cell (p := ⟨x1.heap.size, 1, none⟩) hF3).trans F51
            have yS50 : w'.cell? ⟨x2.heap.size, 0, none⟩ = some (.int .i64 c) := (HW.out.cell (p := ⟨x2.heap.size, 0, none⟩) hS3).trans S50
            have yS51 : w'.cell? ⟨x2.heap.size, 1, none⟩ = some (.int .i64 d) := (HW.out.cell (p := ⟨x2.heap.size, 1, none⟩) hS3).trans S51
            have HV := (show Hid (Rg.Vals l VV t) from hv)
            have HQ := (show Hid (Ri.St8 x3.drew (.cells #[.int .i64 0, .int .i64 0, .int .i64 0, .int .i64 0, .int .i64 0, .int .i64 0, .string ⟨#[]⟩] 26) [.int .i64 (kindZ w0), .int .i64 a, .int .i64 b, .int .i64 c, .int .i64 d, .int .i64 n, .string ⟨#[]⟩] 8 9 l x w') from HM)
            clear hv hd ho HM
            refine wpOp_step rfl fun K9 hK9 => ?_
            have HKK := (show Hid _ from hK9)
            clear hK9
            go_simp
            exact HKK.out _ _ ⟨by simp [hsz], fun j => if j = 2 then .string w0 else t j, x, by simp [e1], HV.out.put 2 _ V2.symm, HQ.out.other (by decide) (by decide)⟩
          · obtain rfl : _ = op := Option.some.inj (show some _ = some op from ho)
            have e2 : t 2 = .string w0 := (hv 2 (hd { on := 2, ground := .data } (by simp) rfl)).trans V2
            have q9 : l.getD 9 false = false := by
              cases q : l.getD 9 false
              · rfl
              · rw [hL1 q 3 (by omega)] at hnl; cases hnl
            have HV := (show Hid (Rg.Vals l VV t) from hv)
            have HQ := (show Hid (Ri.St8 x3.drew (.cells #[.int .i64 0, .int .i64 0, .int .i64 0, .int .i64 0, .int .i64 0, .int .i64 0, .string ⟨#[]⟩] 26) [.int .i64 (kindZ w0), .int .i64 a, .int .i64 b, .int .i64 c, .int .i64 d, .int .i64 n, .string ⟨#[]⟩] 8 9 l x w') from HM)
            clear hv hd ho HM
            refine wpOp_step rfl fun K9 hK9 => ?_
            have HKK := (show Hid _ from hK9)
            clear hK9
            go_simp
            refine (kind_any _ _).mono ?_
            rintro e w9 ⟨rfl, rfl⟩
            exact HKK.out _ _ ⟨by simp [hsz], fun j => if j = 3 then .int .i64 (kindZ w0) else t j, x, by simp [e2], HV.out.put 3 _ V3.symm, HQ.out.other (by decide) (by decide)⟩
          · obtain rfl : _ = op := Option.some.inj (show some _ = some op from ho)
            have q9 : l.getD 9 false = false := by
              cases q : l.getD 9 false
              · rfl
              · rw [hL1 q 4 (by omega)] at hnl; cases hnl
            have HW := (show Hid (Below x3.drew.heap.size x3.drew w') from HM.below q9)
            have yp0 : w'.cell? ⟨g, 0, none⟩ = some (.string w0) := (HW.out.cell (p := ⟨g, 0, none⟩) hg3).trans p0
            have yF50 : w'.cell? ⟨x1.heap.size, 0, none⟩ = some (.int .i64 a) := (HW.out.cell (p := ⟨x1.heap.size, 0, none⟩) hF3).trans F50
            have yF51 : w'.cell? ⟨x1.heap.size, 1, none⟩ = some (.int .i64 b) := (HW.out.cell (p := ⟨x1.heap.size, 1, none⟩) hF3).trans F51
            have yS50 : w'.cell? ⟨x2.heap.size, 0, none⟩ = some (.int .i64 c) := (HW.out.cell (p := ⟨x2.heap.size, 0, none⟩) hS3).trans S50
            have yS51 : w'.cell? ⟨x2.heap.size, 1, none⟩ = some (.int .i64 d) := (HW.out.cell (p := ⟨x2.heap.size, 1, none⟩) hS3).trans S51
            have HV := (show Hid (Rg.Vals l VV t) from hv)
            have HQ := (show Hid (Ri.St8 x3.drew (.cells #[.int .i64 0, .int .i64 0, .int .i64 0, .int .i64 0, .int .i64 0, .int .i64 0, .string ⟨#[]⟩] 26) [.int .i64 (kindZ w0), .int .i64 a, .int .i64 b, .int .i64 c, .int .i64 d, .int .i64 n, .string ⟨#[]⟩] 8 9 l x w') from HM)
            clear hv hd ho HM
            refine wpOp_step rfl fun K9 hK9 => ?_
            have HKK := (show Hid _ from hK9)
            clear hK9
            go_simp
            exact HKK.out _ _ ⟨by simp [hsz], fun j => if j = 4 then .agg #[.int .i64 a, .int .i64 b] else t j, x, by simp, HV.out.put 4 _ V4.symm, HQ.out.other (by decide) (by decide)⟩
          · obtain rfl : _ = op := Option.some.inj (show some _ = some op from ho)
            have q9 : l.getD 9 false = false := by
              cases q : l.getD 9 false
              · rfl
              · rw [hL1 q 5 (by omega)] at hnl; cases hnl
            have HW := (show Hid (Below x3.drew.heap.size x3.drew w') from HM.below q9)
            have yp0 : w'.cell? ⟨g, 0, none⟩ = some (.string w0) := (HW.out.cell (p := ⟨g, 0, none⟩) hg3).trans p0
            have yF50 : w'.cell? ⟨x1.heap.size, 0, none⟩ = some (.int .i64 a) := (HW.out.cell (p := ⟨x1.heap.size, 0, none⟩) hF3).trans F50
            have yF51 : w'.cell? ⟨x1.heap.size, 1, none⟩ = some (.int .i64 b) := (HW.out.cell (p := ⟨x1.heap.size, 1, none⟩) hF3).trans F51
            have yS50 : w'.cell? ⟨x2.heap.size, 0, none⟩ = some (.int .i64 c) := (HW.out.cell (p := ⟨x2.heap.size, 0, none⟩) hS3).trans S50
            have yS51 : w'.cell? ⟨x2.heap.size, 1, none⟩ = some (.int .i64 d) := (HW.out.cell (p := ⟨x2.heap.size, 1, none⟩) hS3).trans S51
            have HV := (show Hid (Rg.Vals l VV t) from hv)
            have HQ := (show Hid (Ri.St8 x3.drew (.cells #[.int .i64 0, .int .i64 0, .int .i64 0, .int .i64 0, .int .i64 0, .int .i64 0, .string ⟨#[]⟩] 26) [.int .i64 (kindZ w0), .int .i64 a, .int .i64 b, .int .i64 c, .int .i64 d, .int .i64 n, .string ⟨#[]⟩] 8 9 l x w') from HM)
            clear hv hd ho HM
            refine wpOp_step rfl fun K9 hK9 => ?_
            have HKK := (show Hid _ from hK9)
            clear hK9
            go_simp
            exact HKK.out _ _ ⟨by simp [hsz], fun j => if j = 5 then .agg #[.int .i64 c, .int .i64 d] else t j, x, by simp, HV.out.put 5 _ V5.symm, HQ.out.other (by decide) (by decide)⟩
          · obtain rfl : _ = op := Option.some.inj (show some _ = some op from ho)
            have q9 : l.getD 9 false = false := by
              cases q : l.getD 9 false
              · rfl
              · rw [hL1 q 6 (by omega)] at hnl; cases hnl
            have HV := (show Hid (Rg.Vals l VV t) from hv)
            have HQ := (show Hid (Ri.St8 x3.drew (.cells #[.int .i64 0, .int .i64 0, .int .i64 0, .int .i64 0, .int .i64 0, .int .i64 0, .string ⟨#[]⟩] 26) [.int .i64 (kindZ w0), .int .i64 a, .int .i64 b, .int .i64 c, .int .i64 d, .int .i64 n, .string ⟨#[]⟩] 8 9 l x w') from HM)
            clear hv hd ho HM
            refine wpOp_step rfl fun K9 hK9 => ?_
            have HKK := (show Hid _ from hK9)
            clear hK9
            go_simp
            exact HKK.out _ _ ⟨by simp [hsz], fun j => if j = 6 then .int .i64 n else t j, x, by simp, HV.out.put 6 _ V6.symm, HQ.out.other (by decide) (by decide)⟩
          · obtain rfl : _ = op := Option.some.inj (show some _ = some op from ho)
            have e3 : t 3 = .int .i64 (kindZ w0) := (hv 3 (hd { on := 3, ground := .data } (by simp) rfl)).trans V3
            have e4 : t 4 = .agg #[.int .i64 a, .int .i64 b] := (hv 4 (hd { on := 4, ground := .data } (by simp) rfl)).trans V4
            have e5 : t 5 = .agg #[.int .i64 c, .int .i64 d] := (hv 5 (hd { on := 5, ground := .data } (by simp) rfl)).trans V5
            have e6 : t 6 = .int .i64 n := (hv 6 (hd { on := 6, ground := .data } (by simp) rfl)).trans V6
            have q9 : l.getD 9 false = false := by
              cases q : l.getD 9 false
              · rfl
              · rw [hL1 q 7 (by omega)] at hnl; cases hnl
            have HV := (show Hid (Rg.Vals l VV t) from hv)
            have HQ := (show Hid (Ri.St8 x3.drew (.cells #[.int .i64 0, .int .i64 0, .int .i64 0, .int .i64 0, .int .i64 0, .int .i64 0, .string ⟨#[]⟩] 26) [.int .i64 (kindZ w0), .int .i64 a, .int .i64 b, .int .i64 c, .int .i64 d, .int .i64 n, .string ⟨#[]⟩] 8 9 l x w') from HM)
            clear hv hd ho HM
            refine wpOp_step rfl fun K9 hK9 => ?_
            have HKK := (show Hid _ from hK9)
            clear hK9
            go_simp
            exact HKK.out _ _ ⟨by simp [hsz], fun j => if j = 7 then .agg #[.int .i64 (kindZ w0), .int .i64 a, .int .i64 b, .int .i64 c, .int .i64 d, .int .i64 n, .string ⟨#[]⟩] else t j, x, by simp [e3, e4, e5, e6], HV.out.put 7 _ V7.symm, HQ.out.other (by decide) (by decide)⟩
          · obtain rfl : _ = op := Option.some.inj (show some _ = some op from ho)
            have q9 : l.getD 9 false = false := by
              cases q : l.getD 9 false
              · rfl
              · rw [hL1 q 8 (by omega)] at hnl; cases hnl
            obtain rfl : w' = x3.drew := HM.none' hnl q9
            have HV := (show Hid (Rg.Vals l VV t) from hv)
            clear hv hd ho HM
            refine wpOp_step rfl fun K9 hK9 => ?_
            have HKK := (show Hid _ from hK9)
            clear hK9
            go_simp
            exact HKK.out _ _ ⟨by simp [hsz], fun j => if j = 8 then undef else t j, .pointer (some ⟨x3.drew.heap.size, 0, none⟩), by simp, HV.out.put 8 _ V8.symm, Ri.St8.mk1 (by omega) (by decide) q9⟩
          · obtain rfl : _ = op := Option.some.inj (show some _ = some op from ho)
            have e7 : t 7 = .agg #[.int .i64 (kindZ w0), .int .i64 a, .int .i64 b, .int .i64 c, .int .i64 d, .int .i64 n, .string ⟨#[]⟩] := (hv 7 (hd { on := 7, ground := .data } (by simp) rfl)).trans V7
            have q9 : l.getD 9 false = false := by
              cases q : l.getD 9 false
              · rfl
              · rw [q] at hnl; cases hnl
            have q8 : l.getD 8 false = true := hd { on := 8, ground := .data } (by simp) rfl
            obtain ⟨rfl, rfl⟩ := HM.made' q8 q9
            have HV := (show Hid (Rg.Vals l VV t) from hv)
            clear hv hd ho HM
            refine wpOp_step rfl fun K9 hK9 => ?_
            have HKK := (show Hid _ from hK9)
            clear hK9
            go_simp
            refine HKK.out _ _ ⟨by simp [hsz], fun j => if j = 9 then undef else t j, _, by simp [e7], HV.out.put 9 _ V9.symm, Ri.St8.put1 (by omega) rfl ?_ ?_ ?_ ?_⟩
            · first
              | exact (Below.refl _ _).alloc (Nat.le_refl _) _
              | (repeat (with_reducible refine Below.setCell ?_ (by simp) _)
                 exact (Below.refl _ _).alloc (Nat.le_refl _) _)
            · intro j u h
              match j, h with
              | 0, h => simp at h; subst h; simp
              | 1, h => simp at h; subst h; simp
              | 2, h => simp at h; subst h; simp
              | 3, h => simp at h; subst h; simp
              | 4, h => simp at h; subst h; simp
              | 5, h => simp at h; subst h; simp
              | 6, h => simp at h; subst h; simp
              | j + 7, h => simp at h
            · intro j; simp
            · simp
        case fin =>
          rintro l a' w' ⟨hsz, t, x, rfl, hv, HM⟩ hall
          obtain ⟨rfl, kk, cc, ff, sz⟩ := HM.full' (hall 9 (by simp))
          have D0 := cc 0 _ rfl
          have D1 := cc 1 _ rfl
          have D2 := cc 2 _ rfl
          have D3 := cc 3 _ rfl
          have D4 := cc 4 _ rfl
          have D5 := cc 5 _ rfl
          have D6 := cc 6 _ rfl
          have r6 := fun j => (keepc kk w.heap.size (by show w.heap.size < x3.heap.size; omega) j).trans (r5 j)
          have f6 := fun j => (keepf kk w.heap.size (by show w.heap.size < x3.heap.size; omega) j).trans (f5 j)
          have hbel : Below w.heap.size w w' := HBEL.out.drew.trans (kk.mono (by show w.heap.size ≤ x3.heap.size; omega))
          have HB9 := (show Hid (Below w.heap.size w w') from hbel)
          have hRX : w.heap.size < x3.drew.heap.size := by show w.heap.size < x3.heap.size; omega
          clear hv hall HM cc kk hbel HBEL r5 f5 V0 V1 V2 V3 V4 V5 V6 V7 V8 V9 p0 F50 F51 S50 S51 hmix
          generalize x3.drew.heap.size = XX at *
          go_wp2_with fail
          refine bodyPost_ret (v := .tuple #[pktV (kindZ w0) a b c d n ⟨#[]⟩, .nilIface]) ?_ rfl ?_
          · simp [results, Tryz.results40, go_sem, r6]
          · refine ⟨_, _, _, _, _, _, _, _, rfl, ?_, .inl ⟨rfl, HGOOD.out⟩⟩
            repeat (first | (with_reducible refine Below.drew ?_) | (with_reducible refine Below.setCell ?_ (by simp <;> omega) _))
            exact HB9.out
      · have hbad : Bad w1 w2 w3 := .inr (.inr hno)
        have HBAD := (show Hid (Bad w1 w2 w3) from hbad)
        have HBEL := (show Hid (Below w.heap.size w x3) from bel5)
        clear hbad hno HT1 HT2 F50 F51 S50 S51 p0 HG g0 bel5
        go_upto_region 7 with fail
        go_region
        all_goals
          go_wp2
          refine bodyPost_ret (v := .tuple #[pktV 0 0 0 0 0 0 ⟨#[]⟩, errV p]) ?_ rfl ?_
          · simp [results, Tryz.results40, go_sem, r5]
          · refine ⟨_, _, _, _, _, _, _, _, rfl, ?_, .inr ⟨rfl, HBAD.out⟩⟩
            repeat (first | (with_reducible refine Below.drew ?_) | (with_reducible refine Below.setCell ?_ (by simp) _))
            exact HBEL.out

set_option maxRecDepth 8000 in
set_option maxHeartbeats 8000000 in
theorem words_five (w0 w1 w2 w3 w4 : ByteArray) (N g : Nat) (p : Addr) (w : World) (hG : Glob w p) (s1 : w1.size ≤ 1000) (s2 : w2.size ≤ 1000) (s3 : w3.size ≤ 1000)
    (q0 : w.cell? ⟨g, 0, none⟩ = some (.string w0)) (q1 : w.cell? ⟨g, 1, none⟩ = some (.string w1)) (q2 : w.cell? ⟨g, 2, none⟩ = some (.string w2)) (q3 : w.cell? ⟨g, 3, none⟩ = some (.string w3)) (q4 : w.cell? ⟨g, 4, none⟩ = some (.string w4)) :
    Calls Tryz.prog 40 #[.slice (some ⟨g, 0, none⟩) 5 N] w fun e w' => ∃ k a b c d n t ev, e = .returned (.tuple #[pktV k a b c d n t, ev]) ∧ Below w.heap.size w w' ∧
      ((ev = .nilIface ∧ Good w0 w1 w2 w3 [w4] k a b c d n t) ∨ (ev = errV p ∧ Bad w1 w2 w3)) := by
  have hg : g < w.heap.size := blk q0
  have bel0 : Below w.heap.size w (w.alloc (.cells #[.int .i64 0, .int .i64 0, .int .i64 0, .int .i64 0, .int .i64 0, .int .i64 0, .string ⟨#[]⟩] 26)) := (Below.refl _ _).alloc (Nat.le_refl _) _
  have HG := (show Hid (Glob w p) from hG)
  have g0 : w.cell? ⟨0, 0, none⟩ = some (errV p) := hG.no
  have lg : 0 < w.heap.size := blk g0
  clear hG
  go_enter Tryz.func40, Tryz.ntmps40
  go_wp2_with fail
  refine (read_any w1 _ (by omega) (HG.out.below bel0).errs).mono ?_
  rintro e x1 ⟨a, b, t1, rfl, k1, T1⟩
  have z1 := k1.size
  simp at z1
  have r1 := keepc k1 w.heap.size (by simp)
  have f1 := keepf k1 w.heap.size (by simp)
  have bel1 := bel0.trans (k1.mono (by simp))
  have eF := (Below.refl x1.heap.size x1).alloc (Nat.le_refl _) (.cells #[.int .i64 a, .int .i64 b] 24)
  have bel2 := bel1.trans (eF.mono (by omega))
  have r2 := fun j => (keepc eF w.heap.size (by omega) j).trans (r1 j)
  have f2 := fun j => (keepf eF w.heap.size (by omega) j).trans (f1 j)
  have p2 := (bel1.cell (p := ⟨g, 2, none⟩) hg).trans q2
  clear k1 bel0 r1 f1
  have hgx : g < x1.heap.size := by omega
  have HT1 := (show Hid (Read.Told w1 a b t1) from T1)
  clear T1
  go_wp2_with fail
  refine (read_any w2 _ (by omega) (HG.out.below bel2).errs).mono ?_
  rintro e x2 ⟨c, d, t2, rfl, k2, T2⟩
  have z2 := k2.size
  simp at z2
  have r3 := fun j => (keepc k2 w.heap.size (by simp; omega) j).trans (r2 j)
  have f3 := fun j => (keepf k2 w.heap.size (by simp; omega) j).trans (f2 j)
  have F3 := keepc k2 x1.heap.size (by simp)
  have bel3 := bel2.trans (k2.mono (by simp; omega))
  have eS := (Below.refl x2.heap.size x2).alloc (Nat.le_refl _) (.cells #[.int .i64 c, .int .i64 d] 24)
  have bel4 := bel3.trans (eS.mono (by omega))
  have r4 := fun j => (keepc eS w.heap.size (by omega) j).trans (r3 j)
  have f4 := fun j => (keepf eS w.heap.size (by omega) j).trans (f3 j)
  have F4 := fun j => (keepc eS x1.heap.size (by omega) j).trans (F3 j)
  have p3 := (bel3.cell (p := ⟨g, 3, none⟩) hg).trans q3
  clear k2 r2 f2 r3 f3 F3 eF bel2 bel1
  have hgy : g < x2.heap.size := by omega
  have HT2 := (show Hid (Read.Told w2 c d t2) from T2)
  clear T2
  go_wp2_with fail
  refine (atoi_any w3 (by omega) _ (HG.out.below bel4).errs).mono ?_
  rintro e x3 ⟨n, ev, rfl, k3, hn⟩
  have z3 := k3.size
  simp at z3
  have r5 := fun j => (keepc k3 w.heap.size (by simp; omega) j).trans (r4 j)
  have f5 := fun j => (keepf k3 w.heap.size (by simp; omega) j).trans (f4 j)
  have F5 := fun j => (keepc k3 x1.heap.size (by simp; omega) j).trans (F4 j)
  have S5 := keepc k3 x2.heap.size (by simp)
  have bel5 := bel4.trans (k3.mono (by simp; omega))
  have p0 := (bel5.cell (p := ⟨g, 0, none⟩) hg).trans q0
  have p4 := (bel5.cell (p := ⟨g, 4, none⟩) hg).trans q4
  have gn := (bel5.cell (p := ⟨0, 0, none⟩) lg).trans g0
  have F50 : x3.cell? ⟨x1.heap.size, 0, none⟩ = some (.int .i64 a) := by rw [F5]; simp
  have F51 : x3.cell? ⟨x1.heap.size, 1, none⟩ = some (.int .i64 b) := by rw [F5]; simp
  have S50 : x3.cell? ⟨x2.heap.size, 0, none⟩ = some (.int .i64 c) := by rw [S5]; simp
  have S51 : x3.cell? ⟨x2.heap.size, 1, none⟩ = some (.int .i64 d) := by rw [S5]; simp
  clear k3 r4 f4 F4 F5 S5 eS bel4 bel3 p2 p3
  cases t1
  · have hbad : Bad w1 w2 w3 := .inl (told_yes HT1.out rfl)
    have HBAD := (show Hid (Bad w1 w2 w3) from hbad)
    have HBEL := (show Hid (Below w.heap.size w x3) from bel5)
    clear hbad hn HT1 HT2 F50 F51 S50 S51 p0 HG g0 bel5
    go_upto_region 7 with fail
    go_region
    all_goals
      go_wp2
      refine bodyPost_ret (v := .tuple #[pktV 0 0 0 0 0 0 ⟨#[]⟩, errV p]) ?_ rfl ?_
      · simp [results, Tryz.results40, go_sem, r5]
      · refine ⟨_, _, _, _, _, _, _, _, rfl, ?_, .inr ⟨rfl, HBAD.out⟩⟩
        repeat (first | (with_reducible refine Below.drew ?_) | (with_reducible refine Below.setCell ?_ (by simp) _))
        exact HBEL.out
  · cases t2
    · have hbad : Bad w1 w2 w3 := .inr (.inl (told_yes HT2.out rfl))
      have HBAD := (show Hid (Bad w1 w2 w3) from hbad)
      have HBEL := (show Hid (Below w.heap.size w x3) from bel5)
      clear hbad hn HT1 HT2 F50 F51 S50 S51 p0 HG g0 bel5
      go_upto_region 7 with fail
      go_region
      all_goals
        go_wp2
        refine bodyPost_ret (v := .tuple #[pktV 0 0 0 0 0 0 ⟨#[]⟩, errV p]) ?_ rfl ?_
        · simp [results, Tryz.results40, go_sem, r5]
        · refine ⟨_, _, _, _, _, _, _, _, rfl, ?_, .inr ⟨rfl, HBAD.out⟩⟩
          repeat (first | (with_reducible refine Below.drew ?_) | (with_reducible refine Below.setCell ?_ (by simp) _))
          exact HBEL.out
    · rcases hn with ⟨rfl, hok⟩ | ⟨⟨M, rfl⟩, hno⟩
      · have HGOOD := (show Hid (Good w0 w1 w2 w3 [w4] (kindZ w0) a b c d n w4) from ⟨HT1.out, HT2.out, hok, rfl, rfl⟩)
        have HBEL := (show Hid (Below w.heap.size w x3) from bel5)
        clear hok HT1 HT2 HG g0 gn bel5
        have hg3 : g < x3.drew.heap.size := by show g < x3.heap.size; omega
        have hF3 : x1.heap.size < x3.drew.heap.size := by show x1.heap.size < x3.heap.size; omega
        have hS3 : x2.heap.size < x3.drew.heap.size := by show x2.heap.size < x3.heap.size; omega
        have hmix : Tryz.prog.follows .mixedOrders = true := by kernel_rfl
        obtain ⟨VV, hVV⟩ : ∃ VV : Nat → Value, VV = fun j => [(.slice (some ⟨g, 0, none⟩) 5 N : Value), .pointer (some ⟨g, 0, none⟩), .string w0, .int .i64 (kindZ w0), .agg #[.int .i64 a, .int .i64 b], .agg #[.int .i64 c, .int .i64 d], .int .i64 n, .agg #[.int .i64 (kindZ w0), .int .i64 a, .int .i64 b, .int .i64 c, .int .i64 d, .int .i64 n, .string ⟨#[]⟩], undef, undef].getD j undef := ⟨_, rfl⟩
        have V0 : VV 0 = .slice (some ⟨g, 0, none⟩) 5 N := by rw [hVV]; rfl
        have V1 : VV 1 = .pointer (some ⟨g, 0, none⟩) := by rw [hVV]; rfl
        have V2 : VV 2 = .string w0 := by rw [hVV]; rfl
        have V3 : VV 3 = .int .i64 (kindZ w0) := by rw [hVV]; rfl
        have V4 : VV 4 = .agg #[.int .i64 a, .int .i64 b] := by rw [hVV]; rfl
        have V5 : VV 5 = .agg #[.int .i64 c, .int .i64 d] := by rw [hVV]; rfl
        have V6 : VV 6 = .int .i64 n := by rw [hVV]; rfl
        have V7 : VV 7 = .agg #[.int .i64 (kindZ w0), .int .i64 a, .int .i64 b, .int .i64 c, .int .i64 d, .int .i64 n, .string ⟨#[]⟩] := by rw [hVV]; rfl
        have V8 : VV 8 = undef := by rw [hVV]; rfl
        have V9 : VV 9 = undef := by rw [hVV]; rfl
        clear hVV
        go_upto_region 8 with fail
        refine wp_region_any hmix ?_
        refine Ri.any_inv (I := fun l a' w' => l.size = 10 ∧ ∃ (t : Nat → Value) (x : Value), a' = { tmps := #[(Value.slice (some { block := g, off := 0 }) 5 N : Value), undef, Value.pointer (some { block := w.heap.size, off := 0 }), Value.nilIface, Value.pointer (some { block := x1.heap.size, off := 0 }), Value.bool true, Value.pointer (some { block := x2.heap.size, off := 0 }), Value.bool true, Value.int IntKind.i64 n, Value.nilIface, x, Value.slice (some { block := g, off := 0 }) 5 N, Value.int IntKind.i64 5, Value.bool false, undef, undef, Value.tuple #[endV a b, Value.bool true], Value.slice (some { block := g, off := 0 }) 5 N, Value.pointer (some { block := g, off := 1 }), Value.string w1, Value.tuple #[endV a b, Value.bool true], endV a b, Value.bool true, Value.tuple #[endV c d, Value.bool true], Value.slice (some { block := g, off := 0 }) 5 N, Value.pointer (some { block := g, off := 2 }), Value.string w2, Value.tuple #[endV c d, Value.bool true], endV c d, Value.bool true, Value.tuple #[Value.int IntKind.i64 n, Value.nilIface], Value.slice (some { block := g, off := 0 }) 5 N, Value.pointer (some { block := g, off := 3 }), Value.string w3, Value.tuple #[Value.int IntKind.i64 n, Value.nilIface], Value.int IntKind.i64 n, Value.nilIface, Value.bool true, Value.bool false, Value.bool false, Value.bool true, Value.bool false, Value.bool false, Value.bool false, Value.nilIface, Value.bool false, Value.bool false, undef, undef, t 0, t 1, t 2, t 3, t 4, t 5, t 6, t 7, undef, undef, undef, undef, undef, undef, undef, undef], defers := [] } ∧ Rg.Vals l VV t ∧ Ri.St8 x3.drew (.cells #[.int .i64 0, .int .i64 0, .int .i64 0, .int .i64 0, .int .i64 0, .int .i64 0, .string ⟨#[]⟩] 26) [.int .i64 (kindZ w0), .int .i64 a, .int .i64 b, .int .i64 c, .int .i64 d, .int .i64 n, .string ⟨#[]⟩] 8 9 l x w') ?sz ?low ?step ?fin _ _ _ _ ?start (Ri.closed_none _ _ _) (Rg.left_all _)
        case sz => exact fun l a' w' h => h.1
        case start => exact ⟨by simp, fun j => ([undef, undef, undef, undef, undef, undef, undef, undef, undef, undef] : List Value).getD j undef, undef, rfl, Rg.vals_none _ _ _, Ri.St8.start _ _ _ _ _ _⟩
        case low => exact Ri.low_of (by kernel_rfl)
        case step =>
          rintro l a' w' i ⟨hsz, t, x, rfl, hv, HM⟩ hcl hi
          obtain ⟨h0, op, ho, hd⟩ := mem_ready.1 hi
          have hin : i < 10 := (Array.getElem?_eq_some_iff.1 ho).1
          have hnl := Rg.not_listed h0
          have hL1 : l.getD 9 false = true → ∀ j, j < 9 → l.getD j false = true := Ri.up_of (by kernel_rfl) hcl
          clear h0 hi hcl
          have hc : i = 0 ∨ i = 1 ∨ i = 2 ∨ i = 3 ∨ i = 4 ∨ i = 5 ∨ i = 6 ∨ i = 7 ∨ i = 8 ∨ i = 9 := by omega
          rcases hc with rfl | rfl | rfl | rfl | rfl | rfl | rfl | rfl | rfl | rfl
          · obtain rfl : _ = op := Option.some.inj (show some _ = some op from ho)
            have q9 : l.getD 9 false = false := by
              cases q : l.getD 9 false
              · rfl
              · rw [hL1 q 0 (by omega)] at hnl; cases hnl
            have HV := (show Hid (Rg.Vals l VV t) from hv)
            have HQ := (show Hid (Ri.St8 x3.drew (.cells #[.int .i64 0, .int .i64 0, .int .i64 0, .int .i64 0, .int .i64 0, .int .i64 0, .string ⟨#[]⟩] 26) [.int .i64 (kindZ w0), .int .i64 a, .int .i64 b, .int .i64 c, .int .i64 d, .int .i64 n, .string ⟨#[]⟩] 8 9 l x w') from HM)
            clear hv hd ho HM
            refine wpOp_step rfl fun K9 hK9 => ?_
            have HKK := (show Hid _ from hK9)
            clear hK9
            go_simp
            exact HKK.out _ _ ⟨by simp [hsz], fun j => if j = 0 then .slice (some ⟨g, 0, none⟩) 5 N else t j, x, by simp, HV.out.put 0 _ V0.symm, HQ.out.other (by decide) (by decide)⟩
          · obtain rfl : _ = op := Option.some.inj (show some _ = some op from ho)
            have e0 : t 0 = .slice (some ⟨g, 0, none⟩) 5 N := (hv 0 (hd { on := 0, ground := .data } (by simp) rfl)).trans V0
            have q9 : l.getD 9 false = false := by
              cases q : l.getD 9 false
              · rfl
              · rw [hL1 q 1 (by omega)] at hnl; cases hnl
            have HV := (show Hid (Rg.Vals l VV t) from hv)
            have HQ := (show Hid (Ri.St8 x3.drew (.cells #[.int .i64 0, .int .i64 0, .int .i64 0, .int .i64 0, .int .i64 0, .int .i64 0, .string ⟨#[]⟩] 26) [.int .i64 (kindZ w0), .int .i64 a, .int .i64 b, .int .i64 c, .int .i64 d, .int .i64 n, .string ⟨#[]⟩] 8 9 l x w') from HM)
            clear hv hd ho HM
            refine wpOp_step rfl fun K9 hK9 => ?_
            have HKK := (show Hid _ from hK9)
            clear hK9
            go_simp
            exact HKK.out _ _ ⟨by simp [hsz], fun j => if j = 1 then .pointer (some ⟨g, 0, none⟩) else t j, x, by simp [e0], HV.out.put 1 _ V1.symm, HQ.out.other (by decide) (by decide)⟩
          · obtain rfl : _ = op := Option.some.inj (show some _ = some op from ho)
            have e1 : t 1 = .pointer (some ⟨g, 0, none⟩) := (hv 1 (hd { on := 1, ground := .data } (by simp) rfl)).trans V1
            have q9 : l.getD 9 false = false := by
              cases q : l.getD 9 false
              · rfl
              · rw [hL1 q 2 (by omega)] at hnl; cases hnl
            have HW := (show Hid (Below x3.drew.heap.size x3.drew w') from HM.below q9)
            have yp0 : w'.cell? ⟨g, 0, none⟩ = some (.string w0) := (HW.out.cell (p := ⟨g, 0, none⟩) hg3).trans p0
            have yF50 : w'.cell? ⟨x1.heap.size, 0, none⟩ = some (.int .i64 a) := (HW.out.cell (p := ⟨x1.heap.size, 0, none⟩) hF3).trans F50
            have yF51 : w'.cell? ⟨x1.heap.size, 1, none⟩ = some (.int .i64 b) := (HW.out.cell (p := ⟨x1.heap.size, 1, none⟩) hF3).trans F51
            have yS50 : w'.cell? ⟨x2.heap.size, 0, none⟩ = some (.int .i64 c) := (HW.out.cell (p := ⟨x2.heap.size, 0, none⟩) hS3).trans S50
            have yS51 : w'.cell? ⟨x2.heap.size, 1, none⟩ = some (.int .i64 d) := (HW.out.cell (p := ⟨x2.heap.size, 1, none⟩) hS3).trans S51
            have HV := (show Hid (Rg.Vals l VV t) from hv)
            have HQ := (show Hid (Ri.St8 x3.drew (.cells #[.int .i64 0, .int .i64 0, .int .i64 0, .int .i64 0, .int .i64 0, .int .i64 0, .string ⟨#[]⟩] 26) [.int .i64 (kindZ w0), .int .i64 a, .int .i64 b, .int .i64 c, .int .i64 d, .int .i64 n, .string ⟨#[]⟩] 8 9 l x w') from HM)
            clear hv hd ho HM
            refine wpOp_step rfl fun K9 hK9 => ?_
            have HKK := (show Hid _ from hK9)
            clear hK9
            go_simp
            exact HKK.out _ _ ⟨by simp [hsz], fun j => if j = 2 then .string w0 else t j, x, by simp [e1], HV.out.put 2 _ V2.symm, HQ.out.other (by decide) (by decide)⟩
          · obtain rfl : _ = op := Option.some.inj (show some _ = some op from ho)
            have e2 : t 2 = .string w0 := (hv 2 (hd { on := 2, ground := .data } (by simp) rfl)).trans V2
            have q9 : l.getD 9 false = false := by
              cases q : l.getD 9 false
              · rfl
              · rw [hL1 q 3 (by omega)] at hnl; cases hnl
            have HV := (show Hid (Rg.Vals l VV t) from hv)
            have HQ := (show Hid (Ri.St8 x3.drew (.cells #[.int .i64 0, .int .i64 0, .int .i64 0, .int .i64 0, .int .i64 0, .int .i64 0, .string ⟨#[]⟩] 26) [.int .i64 (kindZ w0), .int .i64 a, .int .i64 b, .int .i64 c, .int .i64 d, .int .i64 n, .string ⟨#[]⟩] 8 9 l x w') from HM)
            clear hv hd ho HM
            refine wpOp_step rfl fun K9 hK9 => ?_
            have HKK := (show Hid _ from hK9)
            clear hK9
            go_simp
            refine (kind_any _ _).mono ?_
            rintro e w9 ⟨rfl, rfl⟩
            exact HKK.out _ _ ⟨by simp [hsz], fun j => if j = 3 then .int .i64 (kindZ w0) else t j, x, by simp [e2], HV.out.put 3 _ V3.symm, HQ.out.other (by decide) (by decide)⟩
          · obtain rfl : _ = op := Option.some.inj (show some _ = some op from ho)
            have q9 : l.getD 9 false = false := by
              cases q : l.getD 9 false
              · rfl
              · rw [hL1 q 4 (by omega)] at hnl; cases hnl
            have HW := (show Hid (Below x3.drew.heap.size x3.drew w') from HM.below q9)
            have yp0 : w'.cell? ⟨g, 0, none⟩ = some (.string w0) := (HW.out.cell (p := ⟨g, 0, none⟩) hg3).trans p0
            have yF50 : w'.cell? ⟨x1.heap.size, 0, none⟩ = some (.int .i64 a) := (HW.out.cell (p := ⟨x1.heap.size, 0, none⟩) hF3).trans F50
            have yF51 : w'.cell? ⟨x1.heap.size, 1, none⟩ = some (.int .i64 b) := (HW.out.cell (p := ⟨x1.heap.size, 1, none⟩) hF3).trans F51
            have yS50 : w'.cell? ⟨x2.heap.size, 0, none⟩ = some (.int .i64 c) := (HW.out.cell (p := ⟨x2.heap.size, 0, none⟩) hS3).trans S50
            have yS51 : w'.cell? ⟨x2.heap.size, 1, none⟩ = some (.int .i64 d) := (HW.out.cell (p := ⟨x2.heap.size, 1, none⟩) hS3).trans S51
            have HV := (show Hid (Rg.Vals l VV t) from hv)
            have HQ := (show Hid (Ri.St8 x3.drew (.cells #[.int .i64 0, .int .i64 0, .int .i64 0, .int .i64 0, .int .i64 0, .int .i64 0, .string ⟨#[]⟩] 26) [.int .i64 (kindZ w0), .int .i64 a, .int .i64 b, .int .i64 c, .int .i64 d, .int .i64 n, .string ⟨#[]⟩] 8 9 l x w') from HM)
            clear hv hd ho HM
            refine wpOp_step rfl fun K9 hK9 => ?_
            have HKK := (show Hid _ from hK9)
            clear hK9
            go_simp
            exact HKK.out _ _ ⟨by simp [hsz], fun j => if j = 4 then .agg #[.int .i64 a, .int .i64 b] else t j, x, by simp, HV.out.put 4 _ V4.symm, HQ.out.other (by decide) (by decide)⟩
          · obtain rfl : _ = op := Option.some.inj (show some _ = some op from ho)
            have q9 : l.getD 9 false = false := by
              cases q : l.getD 9 false
              · rfl
              · rw [hL1 q 5 (by omega)] at hnl; cases hnl
            have HW := (show Hid (Below x3.drew.heap.size x3.drew w') from HM.below q9)
            have yp0 : w'.cell? ⟨g, 0, none⟩ = some (.string w0) := (HW.out.cell (p := ⟨g, 0, none⟩) hg3).trans p0
            have yF50 : w'.cell? ⟨x1.heap.size, 0, none⟩ = some (.int .i64 a) := (HW.out.cell (p := ⟨x1.heap.size, 0, none⟩) hF3).trans F50
            have yF51 : w'.cell? ⟨x1.heap.size, 1, none⟩ = some (.int .i64 b) := (HW.out.cell (p := ⟨x1.heap.size, 1, none⟩) hF3).trans F51
            have yS50 : w'.cell? ⟨x2.heap.size, 0, none⟩ = some (.int .i64 c) := (HW.out.cell (p := ⟨x2.heap.size, 0, none⟩) hS3).trans S50
            have yS51 : w'.cell? ⟨x2.heap.size, 1, none⟩ = some (.int .i64 d) := (HW.out.cell (p := ⟨x2.heap.size, 1, none⟩) hS3).trans S51
            have HV := (show Hid (Rg.Vals l VV t) from hv)
            have HQ := (show Hid (Ri.St8 x3.drew (.cells #[.int .i64 0, .int .i64 0, .int .i64 0, .int .i64 0, .int .i64 0, .int .i64 0, .string ⟨#[]⟩] 26) [.int .i64 (kindZ w0), .int .i64 a, .int .i64 b, .int .i64 c, .int .i64 d, .int .i64 n, .string ⟨#[]⟩] 8 9 l x w') from HM)
            clear hv hd ho HM
            refine wpOp_step rfl fun K9 hK9 => ?_
            have HKK := (show Hid _ from hK9)
            clear hK9
            go_simp
            exact HKK.out _ _ ⟨by simp [hsz], fun j => if j = 5 then .agg #[.int .i64 c, .int .i64 d] else t j, x, by simp, HV.out.put 5 _ V5.symm, HQ.out.other (by decide) (by decide)⟩
          · obtain rfl : _ = op := Option.some.inj (show some _ = some op from ho)
            have q9 : l.getD 9 false = false := by
              cases q : l.getD 9 false
              · rfl
              · rw [hL1 q 6 (by omega)] at hnl; cases hnl
            have HV := (show Hid (Rg.Vals l VV t) from hv)
            have HQ := (show Hid (Ri.St8 x3.drew (.cells #[.int .i64 0, .int .i64 0, .int .i64 0, .int .i64 0, .int .i64 0, .int .i64 0, .string ⟨#[]⟩] 26) [.int .i64 (kindZ w0), .int .i64 a, .int .i64 b, .int .i64 c, .int .i64 d, .int .i64 n, .string ⟨#[]⟩] 8 9 l x w') from HM)
            clear hv hd ho HM
            refine wpOp_step rfl fun K9 hK9 => ?_
            have HKK := (show Hid _ from hK9)
            clear hK9
            go_simp
            exact HKK.out _ _ ⟨by simp [hsz], fun j => if j = 6 then .int .i64 n else t j, x, by simp, HV.out.put 6 _ V6.symm, HQ.out.other (by decide) (by decide)⟩
          · obtain rfl : _ = op := Option.some.inj (show some _ = some op from ho)
            have e3 : t 3 = .int .i64 (kindZ w0) := (hv 3 (hd { on := 3, ground := .data } (by simp) rfl)).trans V3
            have e4 : t 4 = .agg #[.int .i64 a, .int .i64 b] := (hv 4 (hd { on := 4, ground := .data } (by simp) rfl)).trans V4
            have e5 : t 5 = .agg #[.int .i64 c, .int .i64 d] := (hv 5 (hd { on := 5, ground := .data } (by simp) rfl)).trans V5
            have e6 : t 6 = .int .i64 n := (hv 6 (hd { on := 6, ground := .data } (by simp) rfl)).trans V6
            have q9 : l.getD 9 false = false := by
              cases q : l.getD 9 false
              · rfl
              · rw [hL1 q 7 (by omega)] at hnl; cases hnl
            have HV := (show Hid (Rg.Vals l VV t) from hv)
            have HQ := (show Hid (Ri.St8 x3.drew (.cells #[.int .i64 0, .int .i64 0, .int .i64 0, .int .i64 0, .int .i64 0, .int .i64 0, .string ⟨#[]⟩] 26) [.int .i64 (kindZ w0), .int .i64 a, .int .i64 b, .int .i64 c, .int .i64 d, .int .i64 n, .string ⟨#[]⟩] 8 9 l x w') from HM)
            clear hv hd ho HM
            refine wpOp_step rfl fun K9 hK9 => ?_
            have HKK := (show Hid _ from hK9)
            clear hK9
            go_simp
            exact HKK.out _ _ ⟨by simp [hsz], fun j => if j = 7 then .agg #[.int .i64 (kindZ w0), .int .i64 a, .int .i64 b, .int .i64 c, .int .i64 d, .int .i64 n, .string ⟨#[]⟩] else t j, x, by simp [e3, e4, e5, e6], HV.out.put 7 _ V7.symm, HQ.out.other (by decide) (by decide)⟩
          · obtain rfl : _ = op := Option.some.inj (show some _ = some op from ho)
            have q9 : l.getD 9 false = false := by
              cases q : l.getD 9 false
              · rfl
              · rw [hL1 q 8 (by omega)] at hnl; cases hnl
            obtain rfl : w' = x3.drew := HM.none' hnl q9
            have HV := (show Hid (Rg.Vals l VV t) from hv)
            clear hv hd ho HM
            refine wpOp_step rfl fun K9 hK9 => ?_
            have HKK := (show Hid _ from hK9)
            clear hK9
            go_simp
            exact HKK.out _ _ ⟨by simp [hsz], fun j => if j = 8 then undef else t j, .pointer (some ⟨x3.drew.heap.size, 0, none⟩), by simp, HV.out.put 8 _ V8.symm, Ri.St8.mk1 (by omega) (by decide) q9⟩
          · obtain rfl : _ = op := Option.some.inj (show some _ = some op from ho)
            have e7 : t 7 = .agg #[.int .i64 (kindZ w0), .int .i64 a, .int .i64 b, .int .i64 c, .int .i64 d, .int .i64 n, .string ⟨#[]⟩] := (hv 7 (hd { on := 7, ground := .data } (by simp) rfl)).trans V7
            have q9 : l.getD 9 false = false := by
              cases q : l.getD 9 false
              · rfl
              · rw [q] at hnl; cases hnl
            have q8 : l.getD 8 false = true := hd { on := 8, ground := .data } (by simp) rfl
            obtain ⟨rfl, rfl⟩ := HM.made' q8 q9
            have HV := (show Hid (Rg.Vals l VV t) from hv)
            clear hv hd ho HM
            refine wpOp_step rfl fun K9 hK9 => ?_
            have HKK := (show Hid _ from hK9)
            clear hK9
            go_simp
            refine HKK.out _ _ ⟨by simp [hsz], fun j => if j = 9 then undef else t j, _, by simp [e7], HV.out.put 9 _ V9.symm, Ri.St8.put1 (by omega) rfl ?_ ?_ ?_ ?_⟩
            · first
              | exact (Below.refl _ _).alloc (Nat.le_refl _) _
              | (repeat (with_reducible refine Below.setCell ?_ (by simp) _)
                 exact (Below.refl _ _).alloc (Nat.le_refl _) _)
            · intro j u h
              match j, h with
              | 0, h => simp at h; subst h; simp
              | 1, h => simp at h; subst h; simp
              | 2, h => simp at h; subst h; simp
              | 3, h => simp at h; subst h; simp
              | 4, h => simp at h; subst h; simp
              | 5, h => simp at h; subst h; simp
              | 6, h => simp at h; subst h; simp
              | j + 7, h => simp at h
            · intro j; simp
            · simp
        case fin =>
          rintro l a' w' ⟨hsz, t, x, rfl, hv, HM⟩ hall
          obtain ⟨rfl, kk, cc, ff, sz⟩ := HM.full' (hall 9 (by simp))
          have D0 := cc 0 _ rfl
          have D1 := cc 1 _ rfl
          have D2 := cc 2 _ rfl
          have D3 := cc 3 _ rfl
          have D4 := cc 4 _ rfl
          have D5 := cc 5 _ rfl
          have D6 := cc 6 _ rfl
          have r6 := fun j => (keepc kk w.heap.size (by show w.heap.size < x3.heap.size; omega) j).trans (r5 j)
          have f6 := fun j => (keepf kk w.heap.size (by show w.heap.size < x3.heap.size; omega) j).trans (f5 j)
          have y4 := (kk.cell (p := ⟨g, 4, none⟩) hg3).trans p4
          have hbel : Below w.heap.size w w' := HBEL.out.drew.trans (kk.mono (by show w.heap.size ≤ x3.heap.size; omega))
          have HB9 := (show Hid (Below w.heap.size w w') from hbel)
          have hRX : w.heap.size < x3.drew.heap.size := by show w.heap.size < x3.heap.size; omega
          clear hv hall HM cc kk hbel HBEL r5 f5 V0 V1 V2 V3 V4 V5 V6 V7 V8 V9 p0 F50 F51 S50 S51 hmix
          generalize x3.drew.heap.size = XX at *
          go_wp2_with fail
          refine bodyPost_ret (v := .tuple #[pktV (kindZ w0) a b c d n w4, .nilIface]) ?_ rfl ?_
          · simp [results, Tryz.results40, go_sem, r6]
          · refine ⟨_, _, _, _, _, _, _, _, rfl, ?_, .inl ⟨rfl, HGOOD.out⟩⟩
            repeat (first | (with_reducible refine Below.drew ?_) | (with_reducible refine Below.setCell ?_ (by simp <;> omega) _))
            exact HB9.out
      · have hbad : Bad w1 w2 w3 := .inr (.inr hno)
        have HBAD := (show Hid (Bad w1 w2 w3) from hbad)
        have HBEL := (show Hid (Below w.heap.size w x3) from bel5)
        clear hbad hno HT1 HT2 F50 F51 S50 S51 p0 HG g0 bel5
        go_upto_region 7 with fail
        go_region
        all_goals
          go_wp2
          refine bodyPost_ret (v := .tuple #[pktV 0 0 0 0 0 0 ⟨#[]⟩, errV p]) ?_ rfl ?_
          · simp [results, Tryz.results40, go_sem, r5]
          · refine ⟨_, _, _, _, _, _, _, _, rfl, ?_, .inr ⟨rfl, HBAD.out⟩⟩
            repeat (first | (with_reducible refine Below.drew ?_) | (with_reducible refine Below.setCell ?_ (by simp) _))
            exact HBEL.out
end Go.Proofs.YtnjggammbebpkaaGreatDoor.PkR

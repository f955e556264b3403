/- Walks: StreamPut of program and model at every argument; what stays where rows are marked. -/
import Derived.Test.YtdggchcapjidjabGreatDoorIg
import Derived.Test.YtdggchcapjidjabGreatDoorExY
import Derived.Test.YtdggchcapjidjabGreatDoorSp9
namespace Go.Proofs.YtdggchcapjidjabGreatDoor.Ix
open Go.RowKit Go.Shelf Go.Proofs.YtdggchcapjidjabGreatDoor.Kit Go.Proofs.YtdggchcapjidjabGreatDoor.Mp Go.Proofs.YtdggchcapjidjabGreatDoor.Mm Go.Proofs.YtdggchcapjidjabGreatDoor.Tx Go.Proofs.YtdggchcapjidjabGreatDoor.Nm Go.Proofs.YtdggchcapjidjabGreatDoor.App Go.Proofs.YtdggchcapjidjabGreatDoor.St Go.Proofs.YtdggchcapjidjabGreatDoor.StP Go.Proofs.YtdggchcapjidjabGreatDoor.Ip
open Go.Proofs.YtdggchcapjidjabGreatDoor.Read (Errs ErrCell)
set_option linter.unusedSimpArgs false
set_option linter.unusedVariables false

/-- what StreamPut answers, at every argument -/
noncomputable def putZ (m : List (Int × Int × Int)) (S : ByteArray) (ps : List (Int × ByteArray)) (q : Int) (T : ByteArray) (o : Bool) : List (Int × Int × Int) × ByteArray × List (Int × ByteArray) × Bool :=
  open Classical in if okM m = true ∧ stB S ps = true ∧ okB T.data.toList = true ∧ 0 ≤ q ∧ q ≤ 40 then (prs (putF o (m.map Prod.snd) S ps q T).1, (putF o (m.map Prod.snd) S ps q T).2.1, (putF o (m.map Prod.snd) S ps q T).2.2.1, (putF o (m.map Prod.snd) S ps q T).2.2.2) else ([], ⟨#[]⟩, [], false)
theorem putZ_yes {m : List (Int × Int × Int)} {S : ByteArray} {ps : List (Int × ByteArray)} {q : Int} {T : ByteArray} {o : Bool} (h : okM m = true ∧ stB S ps = true ∧ okB T.data.toList = true ∧ 0 ≤ q ∧ q ≤ 40) : putZ m S ps q T o = (prs (putF o (m.map Prod.snd) S ps q T).1, (putF o (m.map Prod.snd) S ps q T).2.1, (putF o (m.map Prod.snd) S ps q T).2.2.1, (putF o (m.map Prod.snd) S ps q T).2.2.2) := if_pos h
theorem putZ_no {m : List (Int × Int × Int)} {S : ByteArray} {ps : List (Int × ByteArray)} {q : Int} {T : ByteArray} {o : Bool} (h : ¬ (okM m = true ∧ stB S ps = true ∧ okB T.data.toList = true ∧ 0 ≤ q ∧ q ≤ 40)) : putZ m S ps q T o = ([], ⟨#[]⟩, [], false) := if_neg h
theorem putZ_len (m : List (Int × Int × Int)) (S : ByteArray) (ps : List (Int × ByteArray)) (q : Int) (T : ByteArray) (o : Bool) : (putZ m S ps q T o).1.length ≤ 8 ∧ (putZ m S ps q T o).2.2.1.length ≤ 40 := by
  by_cases h : okM m = true ∧ stB S ps = true ∧ okB T.data.toList = true ∧ 0 ≤ q ∧ q ≤ 40
  · rw [putZ_yes h]
    obtain ⟨h1, h2, h3, h4, h5⟩ := h
    obtain ⟨n, rfl⟩ : ∃ n : Nat, q = (n : Int) := ⟨q.toNat, by omega⟩
    obtain ⟨g1, g2, _⟩ := putF_ok o n T (okM_out m h1).1 h2 h3
    exact ⟨by rw [prs_len]; exact g1.len, (stB_small g2).1⟩
  · rw [putZ_no h]; exact ⟨Nat.zero_le _, Nat.zero_le _⟩
/-- the model's answer: how it reads -/
def ToldS (W W' : World) (r : Ending) (mo : List (Int × Int × Int)) (So : ByteArray) (po : List (Int × ByteArray)) (b : Bool) : Prop :=
  ∃ va vc pa pc, r = .returned (.tuple #[.slice va mo.length vc, .agg #[.string So, .slice pa po.length pc], .bool b]) ∧ IsM W' (.slice va mo.length vc) mo ∧ IsT W' (.slice pa po.length pc) po ∧ Below W.heap.size W W'
/-- the program's answer: its rows -/
def ToldI (W W' : World) (r : Ending) (mo : List (Int × Int × Int)) (So : ByteArray) (po : List (Int × ByteArray)) (b : Bool) : Prop :=
  ∃ va vc pa pc, r = .returned (.tuple #[.slice va mo.length vc, .agg #[.string So, .slice pa po.length pc], .bool b]) ∧ W'.ownsRow W.heap.size 83 3 (.slice va mo.length vc) mo.length (cellsM mo) ∧ W'.ownsRow W.heap.size 79 2 (.slice pa po.length pc) po.length (cellsT po) ∧ ((Value.slice va mo.length vc).ownBlock = none ∨ (Value.slice va mo.length vc).ownBlock ≠ (Value.slice pa po.length pc).ownBlock) ∧ Below W.heap.size W W'
theorem sput_x (W : World) (v : Value) (m : List (Int × Int × Int)) (hM : IsM W v m) (hmm : m.length ≤ 1073741824) (S : ByteArray) (pv : Value) (ps : List (Int × ByteArray)) (hT : IsT W pv ps) (hps : ps.length ≤ 1073741824) (hpp : ∀ p ∈ ps, p.2.size ≤ 1073741824) (hS : S.size ≤ 1073741824) (q : Int) (T : ByteArray) (hTz : T.size ≤ maxLen) (o : Bool) {mo : List (Int × Int × Int)} {So : ByteArray} {po : List (Int × ByteArray)} {b : Bool} (hZ : putZ m S ps q T o = (mo, So, po, b)) :
    Calls Tryz.prog 7 #[v, .agg #[.string S, pv], .int .i64 q, .string T, .bool o] W fun r W' => ToldS W W' r mo So po b := by
  by_cases h : okM m = true ∧ stB S ps = true ∧ okB T.data.toList = true ∧ 0 ≤ q ∧ q ≤ 40
  · rw [putZ_yes h] at hZ
    obtain ⟨h1, h2, h3, h4, h5⟩ := h
    obtain ⟨n, rfl⟩ : ∃ n : Nat, q = (n : Int) := ⟨q.toNat, by omega⟩
    simp only [Prod.mk.injEq] at hZ
    obtain ⟨rfl, rfl, rfl, rfl⟩ := hZ
    refine (sput_ok W v m hM hmm S pv ps hT hps hpp hS n T hTz o h1 h2 h3 (by omega)).mono ?_
    rintro r W' ⟨v', pv', rfl, hR, k⟩
    have hM' := hR.rm.isM
    have hT' := isT_of_row hR.rt
    obtain ⟨va, vc, rfl⟩ := isM_slice hM'
    obtain ⟨pa, pc, rfl, _⟩ := id hT'
    exact ⟨va, vc, pa, pc, rfl, hM', hT', k⟩
  · rw [putZ_no h] at hZ
    simp only [Prod.mk.injEq] at hZ
    obtain ⟨rfl, rfl, rfl, rfl⟩ := hZ
    refine (sput_no W v m hM hmm S pv ps hT hpp hS q T hTz o h).mono ?_
    rintro r W' ⟨g, rfl, hgl, k⟩
    exact ⟨some ⟨g, 0, none⟩, 0, none, 0, rfl, .inr ⟨g, 0, 0, rfl, Nat.le_refl _, Nat.zero_le _, hgl, fun i p hp => by simp at hp⟩, isT_nil W', k⟩
theorem iput_x (W : World) (v : Value) (m : List (Int × Int × Int)) (hM : IsM W v m) (S : ByteArray) (pv : Value) (ps : List (Int × ByteArray)) (hT : IsT W pv ps) (q : Int) (T : ByteArray) (o : Bool) (herr : Errs W) {mo : List (Int × Int × Int)} {So : ByteArray} {po : List (Int × ByteArray)} {b : Bool} (hZ : putZ m S ps q T o = (mo, So, po, b)) :
    Calls Tryz.prog 8 #[v, .agg #[.string S, pv], .int .i64 q, .string T, .bool o] W fun r W' => ToldI W W' r mo So po b := by
  by_cases h : okM m = true ∧ stB S ps = true ∧ okB T.data.toList = true ∧ 0 ≤ q ∧ q ≤ 40
  · rw [putZ_yes h] at hZ
    obtain ⟨h1, h2, h3, h4, h5⟩ := h
    obtain ⟨n, rfl⟩ : ∃ n : Nat, q = (n : Int) := ⟨q.toNat, by omega⟩
    simp only [Prod.mk.injEq] at hZ
    obtain ⟨rfl, rfl, rfl, rfl⟩ := hZ
    have key : Calls Tryz.prog 8 #[v, .agg #[.string S, pv], .int .i64 (n : Nat), .string T, .bool o] W fun r W' => ∃ v' pv', r = .returned (.tuple #[v', .agg #[.string (putF o (m.map Prod.snd) S ps (n : Nat) T).2.1, pv'], .bool (putF o (m.map Prod.snd) S ps (n : Nat) T).2.2.2]) ∧ RowsI W' W.heap.size v' (putF o (m.map Prod.snd) S ps (n : Nat) T).1 pv' (putF o (m.map Prod.snd) S ps (n : Nat) T).2.2.1 ∧ Below W.heap.size W W' := by
      by_cases hno : S.size < n ∨ 40 < n + T.size
      · exact iput_stay W v m hM S pv ps hT n T o herr h1 h2 h3 (by omega) hno
      · exact iput_go W v m hM S pv ps hT n T o herr h1 h2 h3 (by omega) (by omega) (by omega)
    refine key.mono ?_
    rintro r W' ⟨v', pv', rfl, hR, k⟩
    obtain ⟨h6, h7, h8⟩ := hR
    obtain ⟨va, vc, rfl⟩ := row_slice h6
    obtain ⟨pa, pc, rfl⟩ := row_slice h7
    exact ⟨va, vc, pa, pc, rfl, h6, h7, h8, k⟩
  · rw [putZ_no h] at hZ
    simp only [Prod.mk.injEq] at hZ
    obtain ⟨rfl, rfl, rfl, rfl⟩ := hZ
    refine (iput_no W v m hM S pv ps hT q T o herr h).mono ?_
    rintro r W' ⟨rfl, k⟩
    exact ⟨none, 0, none, 0, rfl, World.ownsRow_nil _ _ _ _, World.ownsRow_nil _ _ _ _, .inl rfl, k⟩

theorem iput_s (W : World) (v : Value) (m : List (Int × Int × Int)) (hM : IsM W v m) (S : ByteArray) (pv : Value) (ps : List (Int × ByteArray)) (hT : IsT W pv ps) (q : Int) (T : ByteArray) (o : Bool) (herr : Errs W) {mo : List (Int × Int × Int)} {So : ByteArray} {po : List (Int × ByteArray)} {b : Bool} (hZ : putZ m S ps q T o = (mo, So, po, b)) :
    Calls Tryz.prog 8 #[v, .agg #[.string S, pv], .int .i64 q, .string T, .bool o] W fun r W' => ToldS W W' r mo So po b := by
  refine (iput_x W v m hM S pv ps hT q T o herr hZ).mono ?_
  rintro r W' ⟨va, vc, pa, pc, rfl, h1, h2, _, k⟩
  exact ⟨va, vc, pa, pc, rfl, isM_of_row h1, isT_of_row h2, k⟩
/-- a slice's block, if it has one, lies in these bounds -/
def In (lo hi : Nat) (v : Value) : Prop := ∀ g o n c, v = .slice (some ⟨g, o, none⟩) n c → lo ≤ g ∧ g < hi
theorem in_M {W : World} {v : Value} {m : List (Int × Int × Int)} (h : IsM W v m) : In 0 W.heap.size v := by
  rintro g o n c rfl
  rcases h with ⟨h, _⟩ | ⟨g', o', cap, h, _, _, hl, _⟩
  · simp at h
  · simp only [Value.slice.injEq, Option.some.injEq, Addr.mk.injEq] at h
    exact ⟨Nat.zero_le _, by have := h.1.1; omega⟩
theorem isM_grown {W W' : World} {v : Value} {m : List (Int × Int × Int)} {row : Option Nat} {lo hi : Nat} (h : IsM W v m) (hin : In lo hi v) (hg : W.grownBy W' row) (hr : ∀ r, row = some r → r < lo ∨ hi ≤ r) : IsM W' v m := by
  rcases h with h | ⟨g, o, cap, rfl, h2, h3, h5, h4⟩
  · exact .inl h
  · obtain ⟨q1, q2⟩ := hin g o _ cap rfl
    have hk : W'.heap[g]? = W.heap[g]? := hg.block g h5 fun e => by have := hr g e.symm; omega
    exact .inr ⟨g, o, cap, rfl, h2, h3, Nat.lt_of_lt_of_le h5 hg.size, fun i p hp => (h4 i p hp).same hk⟩
theorem in_T {W : World} {v : Value} {m : List (Int × ByteArray)} (h : IsT W v m) : m ≠ [] → In 0 W.heap.size v := by
  intro hne g o n c hv
  subst hv
  obtain ⟨a, cap, e, _, _, h4⟩ := h
  rcases h4 with r | ⟨g', o', e', hc⟩
  · exact absurd r hne
  · subst e'
    simp only [Value.slice.injEq, Option.some.injEq, Addr.mk.injEq] at e
    obtain ⟨p, ps, rfl⟩ := List.exists_cons_of_ne_nil hne
    have hb : g' < W.heap.size := blk (hc 0 p rfl).1
    exact ⟨Nat.zero_le _, by have := e.1.1; omega⟩
theorem isT_grown {W W' : World} {v : Value} {m : List (Int × ByteArray)} {row : Option Nat} {lo hi : Nat} (h : IsT W v m) (hin0 : m ≠ [] → In lo hi v) (hg : W.grownBy W' row) (hr : ∀ r, row = some r → r < lo ∨ hi ≤ r) : IsT W' v m := by
  obtain ⟨a, cap, rfl, h2, h3, h4⟩ := h
  refine ⟨a, cap, rfl, h2, h3, ?_⟩
  rcases h4 with r | ⟨g, o, rfl, hc⟩
  · exact .inl r
  · refine .inr ⟨g, o, rfl, fun i p hp => ?_⟩
    obtain ⟨q1, q2⟩ := hin0 (by rintro rfl; simp at hp) g o _ cap rfl
    exact (hc i p hp).same (hg.block g (blk (hc i p hp).1) fun e => by have := hr g e.symm; omega)
theorem cell_grown {W W' : World} {row : Option Nat} {b j : Nat} {u : Value} (h : W.cell? ⟨b, j, none⟩ = some u) (hg : W.grownBy W' row) (hr : ∀ r, row = some r → r ≠ b) : W'.cell? ⟨b, j, none⟩ = some u :=
  (World.cell?_of_block (hg.block b (blk h) fun e => hr b e.symm rfl)).trans h
theorem marksV_grown {W W' : World} {v : Value} {n : Nat} {row : Option Nat} (h : ExM.MarksV W v n) (hg : W.grownBy W' row) (hr : v.ownBlock = none ∨ v.ownBlock ≠ row) : ExM.MarksV W' v n := by
  refine ⟨h.1, ?_⟩
  rcases h.2 with h0 | ⟨g, c, e, hm⟩
  · exact .inl h0
  · refine .inr ⟨g, c, e, fun j hj => cell_grown (hm j hj) hg fun r er q => ?_⟩
    subst e q
    rcases hr with h9 | h9
    · simp [Value.ownBlock] at h9
    · exact h9 (by rw [er]; simp [Value.ownBlock])
theorem row_grown2 {W W' : World} {base : Nat} {e : TypeId} {sz n : Nat} {v : Value} {xs : List Value} {row : Option Nat} (h : W.ownsRow base e sz v n xs) (hg : W.grownBy W' row) (hr : v.ownBlock = none ∨ v.ownBlock ≠ row) : W'.ownsRow base e sz v n xs := h.kept hg hr

/-- what holds in a region that draws its order, makes pairs and a stream anew, calls StreamPut, and makes the box of the stream that is told -/
structure Sp10 (W0 : World) (m : List (Int × Int × Int)) (S : ByteArray) (ps : List (Int × ByteArray)) (mo : List (Int × Int × Int)) (So : ByteArray) (po : List (Int × ByteArray)) (l : Array Bool) (x c0 c1 c2 c3 : Value) (w' : World) : Prop where
  bel : Below W0.heap.size W0 w'
  made : l.getD 12 false = true → ∃ g, x = .pointer (some ⟨g, 0, none⟩) ∧ W0.heap.size ≤ g ∧ (l.getD 14 false = false → w'.heap[g]? = some (.cells #[.string ⟨#[]⟩, .slice none 0 0] 26 (0, 0))) ∧ (l.getD 14 false = true → ∃ pa pc, c1 = .agg #[.string So, .slice pa po.length pc] ∧ w'.heap[g]? = some (.cells #[.string So, .slice pa po.length pc] 26 (0, 0)))
  called : l.getD 7 false = true → ∃ va vc pa pc, c0 = .slice va mo.length vc ∧ c1 = .agg #[.string So, .slice pa po.length pc] ∧ IsM w' (.slice va mo.length vc) mo ∧ IsT w' (.slice pa po.length pc) po
  pre1 : l.getD 1 false = true → l.getD 14 false = false → ∃ a c, c2 = .slice a m.length c ∧ IsM w' (.slice a m.length c) m
  pre2 : l.getD 3 false = true → l.getD 14 false = false → ∃ a c, c3 = .agg #[.string S, .slice a ps.length c] ∧ IsT w' (.slice a ps.length c) ps

variable {W0 : World} {m mo : List (Int × Int × Int)} {S So : ByteArray} {ps po : List (Int × ByteArray)} {l : Array Bool} {x c0 c1 c2 c3 : Value} {w' : World}
theorem Sp10.start (n : Nat) (h : Below W0.heap.size W0 w') : Sp10 W0 m S ps mo So po (Array.replicate n false) x c0 c1 c2 c3 w' :=
  ⟨h, fun h => absurd h (by rw [Rg.rep_none]; decide), fun h => absurd h (by rw [Rg.rep_none]; decide), fun h => absurd h (by rw [Rg.rep_none]; decide), fun h => absurd h (by rw [Rg.rep_none]; decide)⟩
theorem Sp10.other (h : Sp10 W0 m S ps mo So po l x c0 c1 c2 c3 w') {i : Nat} (h1 : i ≠ 12) (h2 : i ≠ 14) (h3 : i ≠ 7) (h4 : i ≠ 1) (h5 : i ≠ 3) : Sp10 W0 m S ps mo So po (l.setIfInBounds i true) x c0 c1 c2 c3 w' := by
  refine ⟨h.bel, ?_, ?_, ?_, ?_⟩
  · rw [getD_set_ne false h1, getD_set_ne false h2]; exact h.made
  · rw [getD_set_ne false h3]; exact h.called
  · rw [getD_set_ne false h4, getD_set_ne false h2]; exact h.pre1
  · rw [getD_set_ne false h5, getD_set_ne false h2]; exact h.pre2
/-- what new memory leaves -/
theorem Sp10.more (h : Sp10 W0 m S ps mo So po l x c0 c1 c2 c3 w') (hq : l.getD 14 false = false) {w9 : World} (k : Below w'.heap.size w' w9) : Sp10 W0 m S ps mo So po l x c0 c1 c2 c3 w9 := by
  refine ⟨h.bel.trans (k.mono h.bel.size), fun ha => ?_, fun ha => ?_, fun ha hs => ?_, fun ha hs => ?_⟩
  · obtain ⟨g, hx, hg, m1, m2⟩ := h.made ha
    refine ⟨g, hx, hg, fun hs => ?_, fun hs => by rw [hq] at hs; cases hs⟩
    have := m1 hs
    rw [k.block g (Array.getElem?_eq_some_iff.1 this).1]; exact this
  · obtain ⟨va, vc, pa, pc, q0, q1, hM, hT⟩ := h.called ha
    exact ⟨va, vc, pa, pc, q0, q1, hM.below k, hT.below k⟩
  · obtain ⟨a, c, q, hM⟩ := h.pre1 ha hs
    exact ⟨a, c, q, hM.below k⟩
  · obtain ⟨a, c, q, hT⟩ := h.pre2 ha hs
    exact ⟨a, c, q, hT.below k⟩
theorem Sp10.pairs (h : Sp10 W0 m S ps mo So po l x c0 c1 c2 c3 w') (hq : l.getD 14 false = false) {w9 : World} (k : Below w'.heap.size w' w9) {a : Option Addr} {c : Nat} (hM : IsM w9 (.slice a m.length c) m) : Sp10 W0 m S ps mo So po (l.setIfInBounds 1 true) x c0 c1 (.slice a m.length c) c3 w9 := by
  have h9 := h.more hq k
  refine ⟨h9.bel, ?_, ?_, fun _ _ => ⟨a, c, rfl, hM⟩, ?_⟩
  · rw [getD_set_ne false (by decide : 1 ≠ 12), getD_set_ne false (by decide : 1 ≠ 14)]; exact h9.made
  · rw [getD_set_ne false (by decide : 1 ≠ 7)]; exact h9.called
  · rw [getD_set_ne false (by decide : 1 ≠ 3), getD_set_ne false (by decide : 1 ≠ 14)]; exact h9.pre2
theorem Sp10.stream (h : Sp10 W0 m S ps mo So po l x c0 c1 c2 c3 w') (hq : l.getD 14 false = false) {w9 : World} (k : Below w'.heap.size w' w9) {a : Option Addr} {c : Nat} (hT : IsT w9 (.slice a ps.length c) ps) : Sp10 W0 m S ps mo So po (l.setIfInBounds 3 true) x c0 c1 c2 (.agg #[.string S, .slice a ps.length c]) w9 := by
  have h9 := h.more hq k
  refine ⟨h9.bel, ?_, ?_, ?_, fun _ _ => ⟨a, c, rfl, hT⟩⟩
  · rw [getD_set_ne false (by decide : 3 ≠ 12), getD_set_ne false (by decide : 3 ≠ 14)]; exact h9.made
  · rw [getD_set_ne false (by decide : 3 ≠ 7)]; exact h9.called
  · rw [getD_set_ne false (by decide : 3 ≠ 1), getD_set_ne false (by decide : 3 ≠ 14)]; exact h9.pre1
theorem Sp10.call (h : Sp10 W0 m S ps mo So po l x c0 c1 c2 c3 w') (hq : l.getD 14 false = false) {w9 : World} (k : Below w'.heap.size w' w9) {va pa : Option Addr} {vc pc : Nat} (hM : IsM w9 (.slice va mo.length vc) mo) (hT : IsT w9 (.slice pa po.length pc) po) :
    Sp10 W0 m S ps mo So po (l.setIfInBounds 7 true) x (.slice va mo.length vc) (.agg #[.string So, .slice pa po.length pc]) c2 c3 w9 := by
  have h9 := h.more hq k
  refine ⟨h9.bel, ?_, fun _ => ⟨va, vc, pa, pc, rfl, rfl, hM, hT⟩, ?_, ?_⟩
  · rw [getD_set_ne false (by decide : 7 ≠ 12), getD_set_ne false (by decide : 7 ≠ 14)]
    intro ha
    obtain ⟨g, hx, hg, m1, m2⟩ := h9.made ha
    exact ⟨g, hx, hg, m1, fun hs => by rw [hq] at hs; cases hs⟩
  · rw [getD_set_ne false (by decide : 7 ≠ 1), getD_set_ne false (by decide : 7 ≠ 14)]; exact h9.pre1
  · rw [getD_set_ne false (by decide : 7 ≠ 3), getD_set_ne false (by decide : 7 ≠ 14)]; exact h9.pre2
theorem Sp10.make (h : Sp10 W0 m S ps mo So po l x c0 c1 c2 c3 w') (hs : 12 < l.size) (hq : l.getD 14 false = false) :
    Sp10 W0 m S ps mo So po (l.setIfInBounds 12 true) (.pointer (some ⟨w'.heap.size, 0, none⟩)) c0 c1 c2 c3 (w'.alloc (.cells #[.string ⟨#[]⟩, .slice none 0 0] 26)) := by
  have h9 := h.more hq ((Below.refl _ _).alloc (Nat.le_refl _) (.cells #[.string ⟨#[]⟩, .slice none 0 0] 26))
  refine ⟨h9.bel, fun _ => ⟨w'.heap.size, rfl, h.bel.size, fun _ => World.alloc_heap_new w' _, fun hh => ?_⟩, ?_, ?_, ?_⟩
  · rw [getD_set_ne false (by decide : 12 ≠ 14), hq] at hh; cases hh
  · rw [getD_set_ne false (by decide : 12 ≠ 7)]; exact h9.called
  · rw [getD_set_ne false (by decide : 12 ≠ 1), getD_set_ne false (by decide : 12 ≠ 14)]; exact h9.pre1
  · rw [getD_set_ne false (by decide : 12 ≠ 3), getD_set_ne false (by decide : 12 ≠ 14)]; exact h9.pre2
theorem Sp10.put {g : Nat} {pa : Option Addr} {pc : Nat} (h : Sp10 W0 m S ps mo So po l x c0 c1 c2 c3 w') (hs : 14 < l.size) (hx : x = .pointer (some ⟨g, 0, none⟩)) (hg : W0.heap.size ≤ g) (mm : w'.heap[g]? = some (.cells #[.string ⟨#[]⟩, .slice none 0 0] 26 (0, 0))) (e1 : c1 = .agg #[.string So, .slice pa po.length pc]) :
    Sp10 W0 m S ps mo So po (l.setIfInBounds 14 true) x c0 c1 c2 c3 ((w'.setCell ⟨g, 0, none⟩ (.string So)).setCell ⟨g, 1, none⟩ (.slice pa po.length pc)) := by
  refine ⟨(h.bel.setCell (p := ⟨g, 0, none⟩) hg _).setCell (p := ⟨g, 1, none⟩) hg _, fun _ => ⟨g, hx, hg, fun hh => ?_, fun _ => ⟨pa, pc, e1, ?_⟩⟩, ?_, fun _ q => ?_, fun _ q => ?_⟩
  · rw [Rg.set_same hs] at hh; cases hh
  · unfold World.setCell
    simp [Array.getElem?_modify, mm]
  · rw [getD_set_ne false (by decide : 14 ≠ 7)]
    intro hc
    obtain ⟨va, vc, pa', pc', q0, q1, hM, hT⟩ := h.called hc
    exact ⟨va, vc, pa', pc', q0, q1, isM_box mm hM _ _, isT_box mm hT _ _⟩
  · rw [Rg.set_same hs] at q; cases q
  · rw [Rg.set_same hs] at q; cases q
end Go.Proofs.YtdggchcapjidjabGreatDoor.Ix

/- Walks: as what a piece goes out, and comes in, by the program. -/
import Derived.Test.YtdggchcapjidjabGreatDoorMg
import Derived.Test.YtdggchcapjidjabGreatDoorNm2
import Derived.Test.YtdggchcapjidjabGreatDoorMpTs
import Derived.Test.YtdggchcapjidjabGreatDoorIt4
import Derived.Test.YtdggchcapjidjabGreatDoorPcs
import Derived.Test.YtdggchcapjidjabGreatDoorSqRg
namespace Go.Proofs.YtdggchcapjidjabGreatDoor.Gp
open Go.RowKit Go.Proofs.YtdggchcapjidjabGreatDoor.Kit Go.Proofs.YtdggchcapjidjabGreatDoor.Mp Go.Proofs.YtdggchcapjidjabGreatDoor.Mj Go.Proofs.YtdggchcapjidjabGreatDoor.Mk Go.Proofs.YtdggchcapjidjabGreatDoor.Mg Go.Proofs.YtdggchcapjidjabGreatDoor.Tx Go.Proofs.YtdggchcapjidjabGreatDoor.Nm
open Go.Proofs.YtdggchcapjidjabGreatDoor.EndW (endV sideZ isB impl1)
open Go.Proofs.YtdggchcapjidjabGreatDoor.EndW (impl3)
open Go.Proofs.YtdggchcapjidjabGreatDoor.Text (txt txtL)
set_option linter.unusedSimpArgs false
set_option linter.unusedVariables false

theorem nm_data (x y : Int) (h : sideZ x y ≠ 0) : (⟨#[64]⟩ ++ txt x y ++ ⟨#[59]⟩ : ByteArray).data.toList = nmL (x, y) := by
  have e := Text.txt_list x y h
  rw [ByteArray.toList_eq] at e
  simp [ByteArray.data_append, nmL, e]
theorem isB3 (x y : Int) : isB 3 x y = decide (sideZ x y = 3) := by
  unfold isB; rw [Bool.eq_iff_iff]; simp

set_option maxRecDepth 8000 in
set_option maxHeartbeats 4000000 in
theorem out_piece (W : World) (bt bb : Nat) (es : List (Int × Int)) (h : Two W bt bb es) (hg : GoodE es) (P : Pc) (S : ByteArray) :
    Calls Tryz.prog 70 #[prtV bt bb, pcV P, .string S] W fun r W' => ∃ T, r = .returned (.string T) ∧ T.data.toList = (goO es P S.data.toList).2 ∧ Two W' bt bb (goO es P S.data.toList).1 ∧ But2 bt bb W W' := by
  obtain ⟨sz, nm, ad, po⟩ := P
  have bA : Below W.heap.size W ((W.alloc (.cells #[.map (some bt), .map (some bb)] 64)).alloc (.cells #[.int .i64 (sz : Nat), .bool nm, .int .i64 ad, .int .i64 po] 90)) := ((Below.refl _ _).alloc (Nat.le_refl _) _).alloc (by simp) _
  have hlt := h.lt
  cases nm
  · have hgo : goO es ⟨sz, false, ad, po⟩ S.data.toList = (es, S.data.toList) := by unfold goO; rw [if_neg (by rintro ⟨e, _⟩; cases e)]
    rw [hgo]
    go_enter Tryz.func70, Tryz.ntmps70
    go_wp2
    go_ret
    exact ⟨_, rfl, rfl, h.below bA, But2.ofBelow bA⟩
  · cases hi : inB (ad, po)
    · have hgo : goO es ⟨sz, true, ad, po⟩ S.data.toList = (es, S.data.toList) := by unfold goO; rw [if_neg (by rintro ⟨_, e, _⟩; simp only at e; rw [hi] at e; cases e)]
      rw [hgo]
      go_enter Tryz.func70, Tryz.ntmps70
      go_wp2_with fail
      refine (impl1 ad po _).mono ?_
      rintro r w1 ⟨rfl, k1⟩
      rw [show isB 1 ad po = inB (ad, po) from isB_inB (ad, po), hi]
      have b1 := bA.trans (k1.mono bA.size)
      go_wp2
      go_ret
      exact ⟨_, rfl, rfl, h.below b1, But2.ofBelow b1⟩
    · have hgo : goO es ⟨sz, true, ad, po⟩ S.data.toList = if (outE es (ad, po)).2.2 = true then ((outE es (ad, po)).1, nmL (9, (outE es (ad, po)).2.1)) else (es, S.data.toList) := by
        unfold goO; simp only [hi, true_and]
      rw [hgo]
      clear hgo
      have hop := outE_port es (ad, po) hg
      have hpre : (outE es (ad, po)).2.2 = false → (outE es (ad, po)).1 = es := by
        intro hf
        by_cases hm : (ad, po) ∈ es
        · rw [outE_has es _ hm]
        · by_cases hl : es.length < 8
          · rw [outE_new es _ hm hl] at hf; cases hf
          · rw [outE_full es _ hm (by omega)]
      obtain ⟨q, hq⟩ : ∃ q, outE es (ad, po) = q := ⟨_, rfl⟩
      have HQ : Hid (outE es (ad, po) = q) := hq
      rw [hq] at hop hpre ⊢
      clear hq
      obtain ⟨es2, pt, ok⟩ := q
      simp only at hop hpre ⊢
      go_enter Tryz.func70, Tryz.ntmps70
      go_wp2_with fail
      refine (impl1 ad po _).mono ?_
      rintro r w1 ⟨rfl, k1⟩
      rw [show isB 1 ad po = inB (ad, po) from isB_inB (ad, po), hi]
      have z1 := k1.size
      simp at z1
      have b1 := bA.trans (k1.mono bA.size)
      have c1 := keepc k1 (W.heap.size + 1) (by simp)
      have d1 := keepc k1 W.heap.size (by simp; omega)
      have t1 := h.below b1
      go_wp2_with fail
      refine (port_any _ bt bb es t1 hg (ad, po) hi).mono ?_
      rintro r w2 ⟨rfl, t2, k2⟩
      rw [HQ.out] at t2
      rw [HQ.out]
      have b2 : But2 bt bb W w2 := But2.one b1 k2
      cases ok
      · rw [show ((es2, pt, false) : List (Int × Int) × Int × Bool).1 = es from hpre rfl] at t2
        go_wp2
        go_ret
        exact ⟨_, rfl, by simp, by simpa using t2, b2⟩
      · obtain ⟨p1, p2, _⟩ := hop rfl
        have hsd : sideZ 9 pt ≠ 0 := by
          unfold sideZ; simp; omega
        go_wp2_with fail
        refine (nameOf_any 9 pt _).mono ?_
        rintro r w3 ⟨rfl, k3⟩
        go_wp2
        go_ret
        exact ⟨_, rfl, by simpa using nm_data 9 pt hsd, by simpa using t2.below k3, b2.trans (But2.ofBelow k3)⟩

set_option maxRecDepth 8000 in
set_option maxHeartbeats 4000000 in
theorem in_piece (W : World) (bt bb : Nat) (es : List (Int × Int)) (h : Two W bt bb es) (hg : GoodE es) (P : Pc) (S : ByteArray) :
    Calls Tryz.prog 71 #[prtV bt bb, pcV P, .string S] W fun r W' => ∃ T, r = .returned (.string T) ∧ T.data.toList = goI es P S.data.toList ∧ Below W.heap.size W W' := by
  obtain ⟨sz, nm, ad, po⟩ := P
  have bA : Below W.heap.size W ((W.alloc (.cells #[.map (some bt), .map (some bb)] 64)).alloc (.cells #[.int .i64 (sz : Nat), .bool nm, .int .i64 ad, .int .i64 po] 90)) := ((Below.refl _ _).alloc (Nat.le_refl _) _).alloc (by simp) _
  cases nm
  · have hgo : goI es ⟨sz, false, ad, po⟩ S.data.toList = S.data.toList := by unfold goI; rw [if_neg (by rintro ⟨e, _⟩; cases e)]
    rw [hgo]
    go_enter Tryz.func71, Tryz.ntmps71
    go_wp2
    go_ret
    exact ⟨_, rfl, rfl, bA⟩
  · by_cases hs : sideZ ad po = 3
    · have hdd : isB 3 ad po = true := by rw [isB3]; simp [hs]
      have hgo : goI es ⟨sz, true, ad, po⟩ S.data.toList = if (inE es po).2 = true then nmL (inE es po).1 else S.data.toList := by
        unfold goI; simp only [hs, true_and]
      rw [hgo]
      clear hgo
      have hbd : 10 ≤ po ∧ po ≤ 17 := by
        unfold sideZ at hs
        split at hs
        · omega
        · split at hs
          · omega
          · split at hs <;> omega
      have hin : (inE es po).2 = true → sideZ (inE es po).1.1 (inE es po).1.2 ≠ 0 := by
        intro ht
        rcases inE_cases es po with ⟨i, e, _, he, hq⟩ | ⟨_, hq⟩
        · rw [hq]
          have := hg.ins e (List.mem_of_getElem? he)
          simp only [inB, decide_eq_true_eq] at this
          simp only; omega
        · rw [hq] at ht; cases ht
      obtain ⟨q, hq⟩ : ∃ q, inE es po = q := ⟨_, rfl⟩
      have HQ : Hid (inE es po = q) := hq
      rw [hq] at hin ⊢
      clear hq
      obtain ⟨⟨ea, ep⟩, ok⟩ := q
      simp only at hin ⊢
      go_enter Tryz.func71, Tryz.ntmps71
      go_wp2_with fail
      refine (impl3 ad po _).mono ?_
      rintro r w1 ⟨rfl, k1⟩
      rw [hdd]
      have z1 := k1.size
      simp at z1
      have b1 := bA.trans (k1.mono bA.size)
      have c1 := keepc k1 (W.heap.size + 1) (by simp)
      have d1 := keepc k1 W.heap.size (by simp; omega)
      have t1 := h.below b1
      go_wp2_with fail
      refine (end_any _ bt bb es t1 hg.len po (wf_small _ (by omega) (by omega))).mono ?_
      rintro r w2 ⟨rfl, k2⟩
      rw [HQ.out]
      have b2 := b1.trans (k2.mono b1.size)
      cases ok
      · go_wp2
        go_ret
        exact ⟨_, rfl, by simp, b2.alloc b2.size _⟩
      · have hnz : sideZ ea ep ≠ 0 := hin rfl
        go_wp2_with fail
        refine (nameOf_any ea ep _).mono ?_
        rintro r w3 ⟨rfl, k3⟩
        have b3 := (b2.alloc (o := .cells #[.int .i64 ea, .int .i64 ep] 81) b2.size).trans (k3.mono (by have := b2.size; simp; omega))
        go_wp2
        go_ret
        exact ⟨_, rfl, by simpa using nm_data ea ep hnz, b3⟩
    · have hdd : isB 3 ad po = false := by rw [isB3]; simp [hs]
      have hgo : goI es ⟨sz, true, ad, po⟩ S.data.toList = S.data.toList := by unfold goI; rw [if_neg (by rintro ⟨_, e, _⟩; exact hs e)]
      rw [hgo]
      go_enter Tryz.func71, Tryz.ntmps71
      go_wp2_with fail
      refine (impl3 ad po _).mono ?_
      rintro r w1 ⟨rfl, k1⟩
      rw [hdd]
      have b1 := bA.trans (k1.mono bA.size)
      go_wp2
      go_ret
      exact ⟨_, rfl, rfl, b1⟩
end Go.Proofs.YtdggchcapjidjabGreatDoor.Gp

/- Plain facts on texts that are written anew. -/
namespace Go.Proofs.YtdggchcapjidjabGreatDoor.Wa
open Go.RowKit Go.Shelf Go.Proofs.YtdggchcapjidjabGreatDoor.Kit Go.Proofs.YtdggchcapjidjabGreatDoor.Mp Go.Proofs.YtdggchcapjidjabGreatDoor.Mj Go.Proofs.YtdggchcapjidjabGreatDoor.Mk Go.Proofs.YtdggchcapjidjabGreatDoor.Mg Go.Proofs.YtdggchcapjidjabGreatDoor.Tx Go.Proofs.YtdggchcapjidjabGreatDoor.Nm Go.Proofs.YtdggchcapjidjabGreatDoor.App Go.Proofs.YtdggchcapjidjabGreatDoor.It Go.Proofs.YtdggchcapjidjabGreatDoor.It4 Go.Proofs.YtdggchcapjidjabGreatDoor.Sq Go.Proofs.YtdggchcapjidjabGreatDoor.Gp Go.Proofs.YtdggchcapjidjabGreatDoor.Pcs
open Go.Proofs.YtdggchcapjidjabGreatDoor.EndW (endV sideZ)
set_option linter.unusedSimpArgs false
set_option linter.unusedVariables false

theorem ba_ext {a b : ByteArray} (h : a.data.toList = b.data.toList) : a = b := by
  cases a; cases b; simp only at h; congr; exact Array.toList_inj.1 h

/-- pieces of a text lie in it -/
theorem pie_in (s : ByteArray) (pre : List Pc) (x : Pc) (h : pre ++ [x] <+: pieL s.data.toList) : szs pre + x.sz ≤ s.size ∧ okB s.data.toList = true := by
  cases hok : okB s.data.toList
  · rw [pie_no _ hok] at h
    have := h.length_le
    simp at this
  · rw [pie_ok _ hok] at h
    obtain ⟨t, ht⟩ := h
    have hl := szs_pcs (bd s.data.toList)
    rw [← ht, bd_len, lenL] at hl
    have e : szs (pre ++ [x] ++ t) = szs pre + x.sz + szs t := by simp [szs]; omega
    rw [e] at hl
    exact ⟨by omega, rfl⟩
theorem szs_snoc (pre : List Pc) (x : Pc) : szs (pre ++ [x]) = szs pre + x.sz := by simp [szs]

theorem nmL_six (e : Int × Int) (h : sideZ e.1 e.2 ≠ 0) : (nmL e).length ≤ 6 := by
  rw [nm_len e h]; split <;> omega
theorem goO_len (es : List (Int × Int)) (hg : GoodE es) (p : Pc) (l : List UInt8) : (goO es p l).2.length ≤ 6 + l.length := by
  unfold goO
  split
  · next h =>
    have hp := outE_port es _ hg h.2.2
    have := nmL_six (9, (outE es (p.ad, p.po)).2.1) (by simp only; unfold sideZ; simp; omega)
    simp only; omega
  · simp only; omega
theorem outP_len (es : List (Int × Int)) (hg : GoodE es) (ps : List Pc) (l : List UInt8) : (outP es ps l).2.length ≤ 6 * ps.length + l.length := by
  induction ps generalizing es l with
  | nil => simp [outP]
  | cons p ps ih =>
    have h1 := goO_len es hg p (l.take p.sz)
    have h2 := ih (goO es p (l.take p.sz)).1 (goO_good es p _ hg) (l.drop p.sz)
    have h3 : (l.take p.sz).length + (l.drop p.sz).length = l.length := by rw [← List.length_append, List.take_append_drop]
    rw [outP, List.length_append, List.length_cons]
    omega
theorem goI_len (es : List (Int × Int)) (hg : GoodE es) (p : Pc) (l : List UInt8) : (goI es p l).length ≤ 6 + l.length := by
  unfold goI
  split
  · next h =>
    have hz : sideZ (inE es p.po).1.1 (inE es p.po).1.2 ≠ 0 := by
      rcases inE_cases es p.po with ⟨i, e, _, he, hq⟩ | ⟨_, hq⟩
      · rw [hq]
        have := hg.ins e (List.mem_of_getElem? he)
        simp only [inB, decide_eq_true_eq] at this
        simp only; omega
      · have := h.2.2; rw [hq] at this; cases this
    have := nmL_six _ hz
    omega
  · omega
theorem inP_len (es : List (Int × Int)) (hg : GoodE es) (ps : List Pc) (l : List UInt8) : (inP es ps l).length ≤ 6 * ps.length + l.length := by
  induction ps generalizing l with
  | nil => simp [inP]
  | cons p ps ih =>
    have h1 := goI_len es hg p (l.take p.sz)
    have h2 := ih (l.drop p.sz)
    have h3 : (l.take p.sz).length + (l.drop p.sz).length = l.length := by rw [← List.length_append, List.take_append_drop]
    rw [inP, List.length_append, List.length_cons]
    omega
theorem pie_sz1 (l : List UInt8) : ∀ p ∈ pieL l, 1 ≤ p.sz := by
  cases hok : okB l
  · rw [pie_no _ hok]; intro p hp; cases hp
  · rw [pie_ok _ hok]
    generalize bd l = m
    have key : ∀ (n : Nat) (m : List UInt8), m.length ≤ n → ∀ p ∈ pcs m, 1 ≤ p.sz := by
      intro n
      induction n with
      | zero =>
        intro m hm p hp
        have : m = [] := List.length_eq_zero_iff.1 (by omega)
        subst this; rw [pcs_nil] at hp; cases hp
      | succ n ih =>
        intro m hm p hp
        by_cases h0 : m = []
        · subst h0; rw [pcs_nil] at hp; cases hp
        · rw [pcs_cons m h0] at hp
          have h1 := pc1_sz m h0
          rcases List.mem_cons.1 hp with rfl | hp
          · exact h1.1
          · exact ih _ (by rw [List.length_drop]; omega) p hp
    exact key m.length m (Nat.le_refl _)
theorem len_szs (ps : List Pc) (h : ∀ p ∈ ps, 1 ≤ p.sz) : ps.length ≤ szs ps := by
  induction ps with
  | nil => exact Nat.zero_le _
  | cons p ps ih =>
    have e : szs (p :: ps) = p.sz + szs ps := by simp [szs]
    have h1 := h p (List.mem_cons_self ..)
    have h2 := ih fun q hq => h q (List.mem_cons_of_mem _ hq)
    rw [e, List.length_cons]; omega
theorem pre_len (s : ByteArray) (pre : List Pc) (x : Pc) (h : pre ++ [x] <+: pieL s.data.toList) : pre.length ≤ szs pre := by
  refine len_szs pre fun p hp => pie_sz1 s.data.toList p (h.subset (List.mem_append_left _ hp))


/-- pieces with their bytes, from a place on -/
def cutL (s : ByteArray) : Nat → List Pc → List (Pc × ByteArray)
  | _, [] => []
  | k, p :: ps => (p, s.extract k (k + p.sz)) :: cutL s (k + p.sz) ps
theorem szs_cons (p : Pc) (ps : List Pc) : szs (p :: ps) = p.sz + szs ps := by simp [szs]
theorem cutL_app (s : ByteArray) (k : Nat) (a b : List Pc) : cutL s k (a ++ b) = cutL s k a ++ cutL s (k + szs a) b := by
  induction a generalizing k with
  | nil => simp [cutL, szs]
  | cons p a ih => simp only [List.cons_append, cutL, ih, szs_cons]; rw [Nat.add_assoc]
theorem cutL_snoc (s : ByteArray) (pre : List Pc) (x : Pc) : cutL s 0 (pre ++ [x]) = cutL s 0 pre ++ [(x, s.extract (szs pre) (szs pre + x.sz))] := by
  rw [cutL_app]; simp [cutL]
theorem cutL_fst (s : ByteArray) (k : Nat) (ps : List Pc) : (cutL s k ps).map Prod.fst = ps := by
  induction ps generalizing k with
  | nil => rfl
  | cons p ps ih => rw [cutL, List.map_cons, ih]
theorem cutL_pre (s : ByteArray) (k : Nat) {a b : List Pc} (h : a <+: b) : cutL s k a <+: cutL s k b := by
  obtain ⟨c, rfl⟩ := h
  exact ⟨_, (cutL_app s k a c).symm⟩
theorem cutL_of (s : ByteArray) (pre : List (Pc × ByteArray)) (k : Nat) (ps : List Pc) (h : pre <+: cutL s k ps) : ∃ qs, qs <+: ps ∧ pre = cutL s k qs := by
  induction pre generalizing k ps with
  | nil => exact ⟨[], List.nil_prefix, rfl⟩
  | cons x pre ih =>
    cases ps with
    | nil => have := h.length_le; simp [cutL] at this
    | cons p ps =>
      rw [cutL, List.cons_prefix_cons] at h
      obtain ⟨rfl, h⟩ := h
      obtain ⟨qs, hq, rfl⟩ := ih _ _ h
      exact ⟨p :: qs, by rw [List.cons_prefix_cons]; exact ⟨rfl, hq⟩, rfl⟩
theorem cutL_snoc_of (s : ByteArray) (pre : List (Pc × ByteArray)) (x : Pc × ByteArray) (ps : List Pc) (h : pre ++ [x] <+: cutL s 0 ps) : ∃ qs p, qs ++ [p] <+: ps ∧ pre = cutL s 0 qs ∧ x = (p, s.extract (szs qs) (szs qs + p.sz)) := by
  obtain ⟨rs, hr, he⟩ := cutL_of s _ 0 ps h
  rcases List.eq_nil_or_concat rs with rfl | ⟨qs, p, rfl⟩
  · simp [cutL] at he
  · rw [List.concat_eq_append] at hr he
    rw [cutL_snoc] at he
    have := List.append_inj' he rfl
    exact ⟨qs, p, hr, this.1, by simpa using this.2⟩
end Go.Proofs.YtdggchcapjidjabGreatDoor.Wa

/- Walks: pieces, each with its bytes, are told by the program's second iterator. -/
namespace Go.Proofs.YtdggchcapjidjabGreatDoor.Wp
open Go.RowKit Go.Shelf Go.Proofs.YtdggchcapjidjabGreatDoor.Kit Go.Proofs.YtdggchcapjidjabGreatDoor.Tx Go.Proofs.YtdggchcapjidjabGreatDoor.Nm Go.Proofs.YtdggchcapjidjabGreatDoor.App Go.Proofs.YtdggchcapjidjabGreatDoor.It Go.Proofs.YtdggchcapjidjabGreatDoor.It4 Go.Proofs.YtdggchcapjidjabGreatDoor.Sq Go.Proofs.YtdggchcapjidjabGreatDoor.Pcs Go.Proofs.YtdggchcapjidjabGreatDoor.Wa
open Go.Proofs.YtdggchcapjidjabGreatDoor.Read (Errs ErrCell)
attribute [local go_sem] Oper.semAt_some
set_option linter.unusedSimpArgs false
set_option linter.unusedVariables false

/-- what is told of a piece -/
def wpV (x : Pc × ByteArray) : Array Value := #[pcV x.1, .string x.2]
theorem keepsFrom_set {B : Nat} {X : World} (p : Addr) (u : Value) (hp : p.block < B) : KeepsFrom B X (X.setCell p u) :=
  ⟨by simp [World.setCell], fun k o hB hk _ => (Below.heap_setCell _ _ _ _ (by omega)).trans hk⟩
/-- blocks that the iterator makes do not turn -/
structure NewX (X : Nat → TypeId → Prop) (B : Nat) : Prop where
  pc : ∀ b, B ≤ b → ¬ X b 90
  int : ∀ b, B ≤ b → ¬ X b 3
  str : ∀ b, B ≤ b → ¬ X b 9
  yld : ∀ b, B ≤ b → ¬ X b 147
theorem NewX.up {X : Nat → TypeId → Prop} {B B' : Nat} (h : NewX X B) (hB : B ≤ B') : NewX X B' :=
  ⟨fun b hb => h.pc b (by omega), fun b hb => h.int b (by omega), fun b hb => h.str b (by omega), fun b hb => h.yld b (by omega)⟩
/-- ahead of the call, and behind it -/
def Wh (b : Bool) (C : World → Prop) (Wd w' : World) : Prop := if b = true then C w' else w' = Wd
theorem wh_no {C : World → Prop} {Wd w' : World} : Wh false C Wd w' ↔ w' = Wd := by simp [Wh]
theorem wh_yes {C : World → Prop} {Wd w' : World} : Wh true C Wd w' ↔ C w' := by simp [Wh]
set_option maxRecDepth 8000 in
set_option maxHeartbeats 8000000 in
theorem told (n Bt : Nat) (h1 : 1 ≤ n) (X : Nat → TypeId → Prop) (s : ByteArray) (w : World) (hBt : Boxed w Bt 9 (.string s)) (herr : Errs w) (hXt : ¬ X Bt 9) (hXn : NewX X w.heap.size) (hXe : NoErrs X) :
    SeqL n Tryz.prog 91 #[.pointer (some ⟨Bt, 0, none⟩)] wpV (Kq X) (cutL s 0 (pieL s.data.toList)) w := by
  intro l J W hW hJ hY h0
  have hb0 : Boxed W Bt 9 (.string s) := (hW.block Bt hBt.lt).trans hBt
  have hc0 := hb0.cell
  have hltB := hb0.lt
  have hXn := hXn.up hW.size
  have herr := herr.below hW
  obtain ⟨g1, g2⟩ := errs_lt herr
  clear hBt hW
  refine callsIn_of_wp_marks Tryz.func91 rfl trivial ?_ rfl
  simp only [Tryz.ntmps91, List.size_toArray, List.length_cons, List.length_nil, Nat.reduceAdd, Nat.reduceSub, Array.replicate_succ, Array.replicate_zero, List.push_toArray, List.append_toArray, List.nil_append, List.cons_append]
  gi_wp2_with fail
  refine ⟨trivial, ?_⟩
  refine (of_in _ s _).mono ?_
  rintro e w1 ⟨rfl, rfl⟩
  gi_wp2
  have x0 := ((Boxed.new W 147 (.func (.yield l) #[] #[])).alloc (.cells #[.int .i64 0] 3)).alloc (.cells #[.string s] 9)
  have x1 := (Boxed.new (W.alloc (.cells #[.func (.yield l) #[] #[]] 147)) 3 (.int .i64 0)).alloc (.cells #[.string s] 9)
  have x2 := Boxed.new ((W.alloc (.cells #[.func (.yield l) #[] #[]] 147)).alloc (.cells #[.int .i64 0] 3)) 9 (.string s)
  have hB0 : Below W.heap.size W (((W.alloc (.cells #[.func (.yield l) #[] #[]] 147)).alloc (.cells #[.int .i64 0] 3)).alloc (.cells #[.string s] 9)) :=
    (((Below.refl _ W).alloc (Nat.le_refl _) _).alloc (by simp) _).alloc (by simp; omega) _
  have hsz : (((W.alloc (.cells #[.func (.yield l) #[] #[]] 147)).alloc (.cells #[.int .i64 0] 3)).alloc (.cells #[.string s] 9)).heap.size = W.heap.size + 1 + 1 + 1 := by simp
  simp only [World.size_alloc] at x1 x2
  obtain ⟨W0, hW0⟩ : ∃ W0, ((W.alloc (.cells #[.func (.yield l) #[] #[]] 147)).alloc (.cells #[.int .i64 0] 3)).alloc (.cells #[.string s] 9) = W0 := ⟨_, rfl⟩
  rw [hW0] at x0 x1 x2 hB0 hsz ⊢
  clear hW0
  have hOwn : OwnC W0.heap.size (fun (pre : List Pc) U => J (cutL s 0 pre) U ∧ Boxed U W.heap.size 147 (.func (.yield l) #[] #[]) ∧ Boxed U (W.heap.size + 1) 3 (.int .i64 (szs pre : Nat)) ∧ Boxed U Bt 9 (.string s) ∧ Boxed U (W.heap.size + 1 + 1) 9 (.string s)) := by
    rintro pre A B row ⟨i1, i2, i3, i4, i5⟩ hgr hr
    refine ⟨hJ _ A B row i1 hgr fun r e => ⟨by have := (hr r e).1; omega, (hr r e).2⟩, i2.kept hgr fun e => ?_, i3.kept hgr fun e => ?_, i4.kept hgr fun e => ?_, i5.kept hgr fun e => ?_⟩
    all_goals (have := (hr _ e.symm).1; omega)
  refine range_list (α := Pc) h1 (gf := 88) (lb := #[.pointer (some ⟨W.heap.size + 1 + 1, 0, none⟩)]) rfl (enters_of Tryz.func88 (by kernel_rfl) rfl)
    (known (n - 1) (W.heap.size + 1 + 1) (fun b t => X b t ∨ b = W.heap.size + 1) s W0 x2 (herr.below hB0) (fun h => h.elim (hXn.str _ (by omega)) (fun h => by omega)) (fun b hb h => h.elim (hXn.pc b (by omega)) (fun h => by omega)) (fun t => ⟨fun h => h.elim (hXe t).1 (fun h => by omega), fun h => h.elim (hXe t).2 (fun h => by omega)⟩))
    (fun h k => Kq.trans h k) (fun U l o o' _ ho hc => kq_putObj U l o o' ho hc) (Below.refl _ _) (fun _ => rfl)
    (fun pre U => J (cutL s 0 pre) U ∧ Boxed U W.heap.size 147 (.func (.yield l) #[] #[]) ∧ Boxed U (W.heap.size + 1) 3 (.int .i64 (szs pre : Nat)) ∧ Boxed U Bt 9 (.string s) ∧ Boxed U (W.heap.size + 1 + 1) 9 (.string s))
    hOwn
    ⟨ownC_below hJ h0 hB0, x0, x1, (hB0.block Bt hltB).trans hb0, x2⟩
    (fun x a' U => ∃ Bx, W0.heap.size ≤ Bx ∧ U.heap[Bx]? = some (.cells #[.int .i64 (x.sz : Nat), .bool x.nm, .int .i64 x.ad, .int .i64 x.po] 90 (0, 0)) ∧ a' = { tmps := #[.func (.yield l) #[] #[], .pointer (some ⟨Bt, 0, none⟩), .pointer (some ⟨W.heap.size, 0, none⟩), .pointer (some ⟨W.heap.size + 1, 0, none⟩), .pointer (some ⟨Bx, 0, none⟩), .string s, .func (.func 88) #[] #[.pointer (some ⟨W.heap.size + 1 + 1, 0, none⟩)], pcV x, undef, undef, undef, undef, undef, undef, undef, undef, undef, undef, undef, undef, undef, undef, undef], defers := [] })
    (fun x a' _ A B row hs hgr hr => by
      obtain ⟨Bx, h0, h2, h3⟩ := hs
      refine ⟨Bx, h0, (hgr.block Bx (Array.getElem?_eq_some_iff.1 h2).1 fun e => ?_).trans h2, h3⟩
      obtain ⟨_, o, ho, hc⟩ := hr Bx e.symm
      rw [h2] at ho; cases ho; cases hc)
    ?assign ?body ?done
  case assign =>
    intro l2 pre x U C hpre hi hC
    have hz : W0.heap.size ≤ U.heap.size := by have := hi.2.2.2.2.lt; omega
    gi_wp2
    exact hC _ _ ((KeepsOthers.alloc _ _).from _) (Kq.below ((Below.refl _ U).alloc (Nat.le_refl _) _)) ((ownC_from hOwn).alloc _ hi) ⟨U.heap.size, hz, World.alloc_heap_new U _, rfl⟩
  case body =>
    rintro l2 pre x a' U hpre hl2 ⟨hj, q0, q1, qt, q2⟩ ⟨Bx, hBx, hX', rfl⟩
    obtain ⟨hin, hok⟩ := pie_in s pre x hpre
    have hsb : s.size ≤ 40 := by have := (ok_parts _ hok).1; rw [lenL] at this; exact this
    have hmix : Tryz.prog.follows .mixedOrders = true := by kernel_rfl
    have hBlt := (Array.getElem?_eq_some_iff.1 hX').1
    have hwr : IntKind.i64.wrap (((szs pre : Nat) : Int) + ((x.sz : Nat) : Int)) = ((szs pre + x.sz : Nat) : Int) := by simp [IntKind.wrap, IntKind.bits, IntKind.signed]; omega
    have b0 : ((szs pre : Nat) : Int) ≤ ((szs pre + x.sz : Nat) : Int) := by omega
    have b1 : ((szs pre + x.sz : Nat) : Int) ≤ (s.size : Int) := by omega
    have b3 : ((szs pre : Nat) : Int) ≤ (s.size : Int) := by omega
    have hYx := hY (cutL s 0 pre) (x, s.extract (szs pre) (szs pre + x.sz)) U.drew (by rw [← cutL_snoc]; exact cutL_pre s 0 hpre) (ownC_below hJ hj (Below.refl _ U).drew)
    rw [← cutL_snoc] at hYx
    have HY := (show Hid _ from hYx)
    have HO := (show Hid _ from hOwn)
    have HJ := (show Hid _ from hJ)
    have HP := (show Hid _ from hpre)
    have HX := (show Hid _ from hX')
    have Q0 := (show Hid _ from q0)
    have Q1 := (show Hid _ from q1)
    have Qt := (show Hid _ from qt)
    have Q2 := (show Hid _ from q2)
    clear hYx hOwn hJ hpre hX' q0 q1 qt q2 x0 x1 x2 hB0 herr hj hY h0 hc0 hb0 hok
    gi_wp2_with fail
    refine wpIn_region_any hmix ?_
    refine Rg.any_inv (I := fun l' a' w' => l'.size = 11 ∧ ∃ t : Nat → Value, a' = { tmps := #[.func (.yield l) #[] #[], .pointer (some ⟨Bt, 0, none⟩), .pointer (some ⟨W.heap.size, 0, none⟩), .pointer (some ⟨W.heap.size + 1, 0, none⟩), .pointer (some ⟨Bx, 0, none⟩), .string s, .func (.func 88) #[] #[.pointer (some ⟨W.heap.size + 1 + 1, 0, none⟩)], pcV x, t 0, t 1, t 2, t 3, t 4, t 5, t 6, t 7, t 8, t 9, t 10, undef, undef, undef, undef], defers := [] } ∧
        Rg.Vals l' (fun j => [Value.func (.yield l) #[] #[], pcV x, .string s, .int .i64 (szs pre : Nat), .int .i64 (szs pre : Nat), .pointer (some ⟨Bx, 0, none⟩), .int .i64 (x.sz : Nat), .int .i64 ((szs pre + x.sz : Nat) : Int), .string (s.extract (szs pre) (szs pre + x.sz)), .bool true, .bool false].getD j undef) t ∧
        Wh (l'.getD 9 false) (fun w' => J (cutL s 0 (pre ++ [x])) w' ∧ Kq X U.drew w' ∧ KeepsFrom W.heap.size U.drew w') U.drew w')
      ?sz ?low ?step ?fin _ _ _ _ ?start (Rg.left_all _)
    case sz => exact fun l a' w' h => h.1
    case start => exact ⟨by simp, fun _ => undef, rfl, Rg.vals_none _ _ _, by rw [Rg.rep_none]; exact wh_no.2 rfl⟩
    case low => exact Rg.low_of (by kernel_rfl)
    case step =>
      rintro l' a' w' i ⟨hsz', t, rfl, hv, hw⟩ hi
      obtain ⟨hnl0, o, ho, hd⟩ := mem_ready.1 hi
      have hi11 : i < 11 := (Array.getElem?_eq_some_iff.1 ho).1
      have hnl := Rg.not_listed hnl0
      have hkw : Kq X U.drew w' := by
        cases q : l'.getD 9 false
        · rw [q] at hw; rw [wh_no.1 hw]; exact Kq.below (Below.refl _ _)
        · rw [q] at hw; exact (wh_yes.1 hw).2.1
      have m0 : w'.cell? ⟨W.heap.size, 0, none⟩ = some (.func (.yield l) #[] #[]) := Boxed.cell (hkw.keep _ _ _ _ Q0.out (hXn.yld _ (by omega)))
      have m1 : w'.cell? ⟨W.heap.size + 1, 0, none⟩ = some (.int .i64 (szs pre : Nat)) := Boxed.cell (hkw.keep _ _ _ _ Q1.out (hXn.int _ (by omega)))
      have mt : w'.cell? ⟨Bt, 0, none⟩ = some (.string s) := Boxed.cell (hkw.keep _ _ _ _ Qt.out hXt)
      have rx := hkw.keep _ _ _ _ HX.out (hXn.pc _ (by omega))
      have y0 : w'.cell? ⟨Bx, 0, none⟩ = some (.int .i64 (x.sz : Nat)) := by simp [World.cell?, rx]
      have y1 : w'.cell? ⟨Bx, 1, none⟩ = some (.bool x.nm) := by simp [World.cell?, rx]
      have y2 : w'.cell? ⟨Bx, 2, none⟩ = some (.int .i64 x.ad) := by simp [World.cell?, rx]
      have y3 : w'.cell? ⟨Bx, 3, none⟩ = some (.int .i64 x.po) := by simp [World.cell?, rx]
      clear rx hkw
      have hc : i = 0 ∨ i = 1 ∨ i = 2 ∨ i = 3 ∨ i = 4 ∨ i = 5 ∨ i = 6 ∨ i = 7 ∨ i = 8 ∨ i = 9 ∨ i = 10 := by omega
      rcases hc with rfl | rfl | rfl | rfl | rfl | rfl | rfl | rfl | rfl | rfl | rfl
      · have z2 := hw
        rw [← getD_set_ne (listed := l') (i := 0) (j := 9) false (by omega)] at z2
        clear hw
        refine wpOpIn_step rfl fun K hK => ?_
        go_simp
        exact hK _ _ ⟨by simp [hsz'], fun j => if j = 0 then Value.func (.yield l) #[] #[] else t j, rfl, hv.put 0 _ rfl, z2⟩
      · have z2 := hw
        rw [← getD_set_ne (listed := l') (i := 1) (j := 9) false (by omega)] at z2
        clear hw
        refine wpOpIn_step rfl fun K hK => ?_
        go_simp
        exact hK _ _ ⟨by simp [hsz'], fun j => if j = 1 then pcV x else t j, rfl, hv.put 1 _ rfl, z2⟩
      · have z2 := hw
        rw [← getD_set_ne (listed := l') (i := 2) (j := 9) false (by omega)] at z2
        clear hw
        refine wpOpIn_step rfl fun K hK => ?_
        go_simp
        exact hK _ _ ⟨by simp [hsz'], fun j => if j = 2 then Value.string s else t j, rfl, hv.put 2 _ rfl, z2⟩
      · have z2 := hw
        rw [← getD_set_ne (listed := l') (i := 3) (j := 9) false (by omega)] at z2
        clear hw
        refine wpOpIn_step rfl fun K hK => ?_
        go_simp
        exact hK _ _ ⟨by simp [hsz'], fun j => if j = 3 then Value.int .i64 (szs pre : Nat) else t j, rfl, hv.put 3 _ rfl, z2⟩
      · have z2 := hw
        rw [← getD_set_ne (listed := l') (i := 4) (j := 9) false (by omega)] at z2
        clear hw
        refine wpOpIn_step rfl fun K hK => ?_
        go_simp
        exact hK _ _ ⟨by simp [hsz'], fun j => if j = 4 then Value.int .i64 (szs pre : Nat) else t j, rfl, hv.put 4 _ rfl, z2⟩
      · have z2 := hw
        rw [← getD_set_ne (listed := l') (i := 5) (j := 9) false (by omega)] at z2
        clear hw
        refine wpOpIn_step rfl fun K hK => ?_
        go_simp
        exact hK _ _ ⟨by simp [hsz'], fun j => if j = 5 then Value.pointer (some ⟨Bx, 0, none⟩) else t j, rfl, hv.put 5 _ rfl, z2⟩
      · have z2 := hw
        rw [← getD_set_ne (listed := l') (i := 6) (j := 9) false (by omega)] at z2
        clear hw
        obtain rfl : _ = o := Option.some.inj (show some _ = some o from ho)
        have e5 : t 5 = .pointer (some ⟨Bx, 0, none⟩) := hv 5 (hd { on := 5, ground := .data } (by simp) rfl)
        refine wpOpIn_step rfl fun K hK => ?_
        go_simp
        exact hK _ _ ⟨by simp [hsz'], fun j => if j = 6 then Value.int .i64 (x.sz : Nat) else t j, by simp [e5], hv.put 6 _ rfl, z2⟩
      · have z2 := hw
        rw [← getD_set_ne (listed := l') (i := 7) (j := 9) false (by omega)] at z2
        clear hw
        obtain rfl : _ = o := Option.some.inj (show some _ = some o from ho)
        have e4 : t 4 = .int .i64 (szs pre : Nat) := hv 4 (hd { on := 4, ground := .data } (by simp) rfl)
        have e6 : t 6 = .int .i64 (x.sz : Nat) := hv 6 (hd { on := 6, ground := .data } (by simp) rfl)
        refine wpOpIn_step rfl fun K hK => ?_
        go_simp
        exact hK _ _ ⟨by simp [hsz'], fun j => if j = 7 then Value.int .i64 ((szs pre + x.sz : Nat) : Int) else t j, by simp [e4, e6], hv.put 7 _ rfl, z2⟩
      · have z2 := hw
        rw [← getD_set_ne (listed := l') (i := 8) (j := 9) false (by omega)] at z2
        clear hw
        obtain rfl : _ = o := Option.some.inj (show some _ = some o from ho)
        have e2 : t 2 = .string s := hv 2 (hd { on := 2, ground := .data } (by simp) rfl)
        have e3 : t 3 = .int .i64 (szs pre : Nat) := hv 3 (hd { on := 3, ground := .data } (by simp) rfl)
        have e7 : t 7 = .int .i64 ((szs pre + x.sz : Nat) : Int) := hv 7 (hd { on := 7, ground := .data } (by simp) rfl)
        refine wpOpIn_step rfl fun K hK => ?_
        have HKK := (show Hid _ from hK)
        clear hK
        go_simp
        gi_wp2_with fail
        exact HKK.out _ _ ⟨by simp [hsz'], fun j => if j = 8 then Value.string (s.extract (szs pre) (szs pre + x.sz)) else t j, by simp [e2, e3, e7], hv.put 8 _ rfl, z2⟩
      · rw [hnl] at hw
        obtain rfl : w' = U.drew := wh_no.1 hw
        obtain rfl : _ = o := Option.some.inj (show some _ = some o from ho)
        have l8 := hd { on := 8, ground := .data } (by simp) rfl
        have l0 := hd { on := 0, ground := .data } (by simp) rfl
        have l1 := hd { on := 1, ground := .data } (by simp) rfl
        have e0 : t 0 = .func (.yield l) #[] #[] := hv 0 l0
        have e1 : t 1 = pcV x := hv 1 l1
        have e8 : t 8 = .string (s.extract (szs pre) (szs pre + x.sz)) := hv 8 l8
        obtain ⟨fn, tmps, assign, bodyc, hy, hR⟩ := HY.out
        refine wpOpIn_step rfl fun K hK => ?_
        have HKK := (show Hid _ from hK)
        clear hK
        unfold wpV at hy
        go_simp
        refine ⟨(fun h => by cases h), ?_⟩
        refine RoundIn.mono (show RoundIn (Fence.wide.inRound l2) (n - 1 - 1 - 1) Tryz.prog l fn tmps assign bodyc U.drew _ from ⟨hR.1, fun c cs _ => hR.2 c cs (room_wide _)⟩) ?_
        rintro e w2 ⟨rfl, hj2, hk2, hf2⟩
        exact HKK.out _ _ ⟨by simp [hsz'], fun j => if j = 9 then Value.bool true else t j, by simp [e0, e1, e8], hv.put 9 _ rfl, by rw [Rg.set_same (by omega)]; exact wh_yes.2 ⟨hj2, hk2, hf2⟩⟩
      · have z2 := hw
        rw [← getD_set_ne (listed := l') (i := 10) (j := 9) false (by omega)] at z2
        clear hw
        obtain rfl : _ = o := Option.some.inj (show some _ = some o from ho)
        have e9 : t 9 = .bool true := hv 9 (hd { on := 9, ground := .data } (by simp) rfl)
        refine wpOpIn_step rfl fun K hK => ?_
        go_simp
        exact hK _ _ ⟨by simp [hsz'], fun j => if j = 10 then Value.bool false else t j, by simp [e9], hv.put 10 _ rfl, z2⟩
    case fin =>
      rintro l' a' w' ⟨hsz', t, rfl, hv, hw⟩ hall
      have l9 : l'.getD 9 false = true := hall 9 (by simp)
      rw [l9] at hw
      obtain ⟨hj', hk', hf'⟩ : J (cutL s 0 (pre ++ [x])) w' ∧ Kq X U.drew w' ∧ KeepsFrom W.heap.size U.drew w' := wh_yes.1 hw
      have e10 : t 10 = .bool false := hv 10 (hall 10 (by simp))
      have r1 : Boxed w' (W.heap.size + 1) 3 (.int .i64 (szs pre : Nat)) := hk'.keep _ _ _ _ Q1.out (hXn.int _ (by omega))
      have r0 : Boxed w' W.heap.size 147 (.func (.yield l) #[] #[]) := hk'.keep _ _ _ _ Q0.out (hXn.yld _ (by omega))
      have r2 : Boxed w' (W.heap.size + 1 + 1) 9 (.string s) := hk'.keep _ _ _ _ Q2.out (hXn.str _ (by omega))
      have rt : Boxed w' Bt 9 (.string s) := hk'.keep _ _ _ _ Qt.out hXt
      have rx := hk'.keep _ _ _ _ HX.out (hXn.pc _ (by omega))
      have c1 := r1.cell
      have f1 := r1.frozen
      have y0 : w'.cell? ⟨Bx, 0, none⟩ = some (.int .i64 (x.sz : Nat)) := by simp [World.cell?, rx]
      have b4 : ((szs pre : Nat) : Int) + ((x.sz : Nat) : Int) ≤ 40 := by omega
      have HK := (show Hid _ from hk')
      have HF := (show Hid _ from hf')
      have HJ' := (show Hid _ from hj')
      have R0 : Hid (Boxed w' W.heap.size 147 (.func (.yield l) #[] #[])) := r0
      have R1 : Hid (Boxed w' (W.heap.size + 1) 3 (.int .i64 (szs pre : Nat))) := r1
      have R2 : Hid (Boxed w' (W.heap.size + 1 + 1) 9 (.string s)) := r2
      have Rt : Hid (Boxed w' Bt 9 (.string s)) := rt
      clear hv hall hk' hf' hj' r0 r1 r2 rt rx hwr
      rw [e10]
      gi_wp2
      refine ⟨?_, ?_, ?_, ?_, ?_, ?_, ?_⟩
      · exact ((((KeepsOthers.drew U).from _).trans (keepsFrom_up HF.out (by omega))).trans (keepsFrom_set _ _ (by simp; omega)))
      · exact ((Kq.below (Below.refl _ U).drew).trans (HK.out.wider fun b t h => .inl h)).trans (kq_set _ _ fun cs t f _ => .inr rfl)
      · exact HJ.out _ _ _ (some (W.heap.size + 1)) HJ'.out (grownBy_setCell' _ _ _) fun r e => by cases e; exact ⟨by omega, _, R1.out, .inr ⟨_, _, rfl⟩⟩
      · exact R0.out.other (by omega) _
      · rw [szs_snoc]; exact R1.out.set _
      · exact Rt.out.other (by omega) _
      · exact R2.out.other (by omega) _
  case done =>
    have HJ := hJ
    clear hJ
    rintro D U hD ⟨hi, _⟩ hK
    gi_wp2
    refine ⟨by simp, .inl ⟨_, _, rfl, run_takeDeferred hK, ?_⟩⟩
    refine ⟨_, results_none rfl _ _ _, ⟨_, rfl⟩, ?_⟩
    exact (ownC_from HJ).putObj _ hi (by omega) hK rfl
end Go.Proofs.YtdggchcapjidjabGreatDoor.Wp

/- Walks: the way that a piece goes on, what a loop over pieces holds. -/
namespace Go.Proofs.YtdggchcapjidjabGreatDoor.Wa
open Go.RowKit Go.Shelf Go.Proofs.YtdggchcapjidjabGreatDoor.Kit Go.Proofs.YtdggchcapjidjabGreatDoor.Mp Go.Proofs.YtdggchcapjidjabGreatDoor.Mj Go.Proofs.YtdggchcapjidjabGreatDoor.Mk Go.Proofs.YtdggchcapjidjabGreatDoor.Mg Go.Proofs.YtdggchcapjidjabGreatDoor.Tx Go.Proofs.YtdggchcapjidjabGreatDoor.Nm Go.Proofs.YtdggchcapjidjabGreatDoor.App Go.Proofs.YtdggchcapjidjabGreatDoor.It Go.Proofs.YtdggchcapjidjabGreatDoor.It4 Go.Proofs.YtdggchcapjidjabGreatDoor.Sq Go.Proofs.YtdggchcapjidjabGreatDoor.Gp Go.Proofs.YtdggchcapjidjabGreatDoor.Pcs Go.Proofs.YtdggchcapjidjabGreatDoor.Wp
open Go.Proofs.YtdggchcapjidjabGreatDoor.EndW (endV sideZ)
open Go.Proofs.YtdggchcapjidjabGreatDoor.Read (Errs ErrCell)
attribute [local go_sem] Oper.semAt_some
set_option linter.unusedSimpArgs false
set_option linter.unusedVariables false

/-- a piece, by the way that it goes -/
def goX : Bool → List (Int × Int) → Pc → List UInt8 → List (Int × Int) × List UInt8
  | true, es, p, l => goO es p l
  | false, es, p, l => (es, goI es p l)
def outX : Bool → List (Int × Int) → List Pc → List UInt8 → List (Int × Int) × List UInt8
  | true, es, ps, l => outP es ps l
  | false, es, ps, l => (es, inP es ps l)
theorem goX_good (o : Bool) (es : List (Int × Int)) (p : Pc) (l : List UInt8) (hg : GoodE es) : GoodE (goX o es p l).1 := by
  cases o
  · exact hg
  · exact goO_good es p l hg
theorem outX_good (o : Bool) (es : List (Int × Int)) (ps : List Pc) (l : List UInt8) (hg : GoodE es) : GoodE (outX o es ps l).1 := by
  cases o
  · exact hg
  · exact outP_good es ps l hg
theorem goX_len (o : Bool) (es : List (Int × Int)) (hg : GoodE es) (p : Pc) (l : List UInt8) : (goX o es p l).2.length ≤ 6 + l.length := by
  cases o
  · exact goI_len es hg p l
  · exact goO_len es hg p l
theorem outX_len (o : Bool) (es : List (Int × Int)) (hg : GoodE es) (ps : List Pc) (l : List UInt8) : (outX o es ps l).2.length ≤ 6 * ps.length + l.length := by
  cases o
  · exact inP_len es hg ps l
  · exact outP_len es hg ps l
theorem outX_snoc (o : Bool) (es : List (Int × Int)) (ps : List Pc) (p : Pc) (l : List UInt8) :
    outX o es (ps ++ [p]) l = ((goX o (outX o es ps l).1 p ((l.drop (szs ps)).take p.sz)).1, (outX o es ps l).2 ++ (goX o (outX o es ps l).1 p ((l.drop (szs ps)).take p.sz)).2) := by
  cases o
  · simp only [outX, goX]; rw [inP_snoc]
  · exact outP_snoc es ps p l
theorem outX_nil (o : Bool) (es : List (Int × Int)) (l : List UInt8) : outX o es [] l = (es, []) := by cases o <;> rfl

/-- which ways this program has -/
def Av (o : Bool) : Prop := True
def fnX : Bool → Nat
  | true => 70
  | false => 71
/-- the function that goes on -/
def hV (o : Bool) (bt bb : Nat) : Value := .func (.func (fnX o)) #[prtV bt bb] #[]
theorem piece_x (o : Bool) (ho : Av o) (W : World) (bt bb : Nat) (es : List (Int × Int)) (h : Two W bt bb es) (hg : GoodE es) (P : Pc) (S : ByteArray) :
    Calls Tryz.prog (fnX o) #[prtV bt bb, pcV P, .string S] W fun r W' => ∃ T, r = .returned (.string T) ∧ T.data.toList = (goX o es P S.data.toList).2 ∧ Two W' bt bb (goX o es P S.data.toList).1 ∧ But2 bt bb W W' := by
  cases o
  · refine (in_piece W bt bb es h hg P S).mono ?_
    rintro e W' ⟨T, h1, h2, h3⟩
    exact ⟨T, h1, h2, h.below h3, But2.ofBelow h3⟩
  · exact out_piece W bt bb es h hg P S

/-- what a loop that writes a text anew holds: the function, what is written, the text -/
structure Inv (b0 : Nat) (fv : Value) (s : ByteArray) (L : List UInt8) (W : World) : Prop where
  x1 : Boxed W b0 76 fv
  x2 : ∃ S, Boxed W (b0 + 1) 9 (.string S) ∧ S.data.toList = L
  x4 : Boxed W (b0 + 1 + 1) 9 (.string s)
theorem Inv.own {b0 : Nat} {fv : Value} {s : ByteArray} {L : List UInt8} {B : Nat} {X Y : World} {row : Option Nat} (h : Inv b0 fv s L X) (hB : b0 + 1 + 1 < B) (hg : X.grownBy Y row) (hr : ∀ r, row = some r → B ≤ r) : Inv b0 fv s L Y := by
  obtain ⟨S, h2, h2'⟩ := h.x2
  refine ⟨h.x1.kept hg fun e => ?_, ⟨S, h2.kept hg fun e => ?_, h2'⟩, h.x4.kept hg fun e => ?_⟩
  all_goals (have := hr _ e.symm; omega)
theorem Inv.but2 {b0 : Nat} {fv : Value} {s : ByteArray} {L : List UInt8} {bt bb : Nat} {X Y : World} (h : Inv b0 fv s L X) (h1 : bt < b0) (h2 : bb < b0) (hk : But2 bt bb X Y) : Inv b0 fv s L Y := by
  obtain ⟨S, q2, q2'⟩ := h.x2
  exact ⟨(hk.block _ h.x1.lt (by omega) (by omega)).trans h.x1, ⟨S, (hk.block _ q2.lt (by omega) (by omega)).trans q2, q2'⟩, (hk.block _ h.x4.lt (by omega) (by omega)).trans h.x4⟩
theorem keepsFrom_but2 {bt bb B : Nat} {X Y : World} (h : But2 bt bb X Y) (h1 : bt < B) (h2 : bb < B) : KeepsFrom B X Y :=
  ⟨h.size, fun k o hB hk _ => (h.block k (Array.getElem?_eq_some_iff.1 hk).1 (by omega) (by omega)).trans hk⟩
theorem kq_but2 {bt bb : Nat} {Z : Nat → TypeId → Prop} {es : List (Int × Int)} {X Y : World} (h : But2 bt bb X Y) (ht : Two X bt bb es) : Kq Z X Y := by
  have key : ∀ (b : Nat) (cs : Array Value) (t : TypeId) (f : Nat × Nat), X.heap[b]? = some (.cells cs t f) → Y.heap[b]? = some (.cells cs t f) := by
    intro b cs t f hb
    refine (h.block b (Array.getElem?_eq_some_iff.1 hb).1 ?_ ?_).trans hb
    · rintro rfl; have := ht.th; rw [hb] at this; cases this
    · rintro rfl; have := ht.bk; rw [hb] at this; cases this
  exact ⟨h.size, fun b cs t f hb => ⟨cs, f, key b cs t f hb⟩, fun b cs t f hb _ => key b cs t f hb⟩
theorem but2_set {bt bb : Nat} {w X : World} (h : But2 bt bb w X) (p : Addr) (u : Value) (hp : w.heap.size ≤ p.block) : But2 bt bb w (X.setCell p u) :=
  ⟨h.os, h.tape, h.output, by simpa [World.setCell] using h.size, fun k hk h1 h2 => (Below.heap_setCell _ _ _ _ (by omega)).trans (h.block k hk h1 h2)⟩
theorem two_set {W : World} {bt bb : Nat} {es : List (Int × Int)} (h : Two W bt bb es) (p : Addr) (u : Value) (h1 : bt ≠ p.block) (h2 : bb ≠ p.block) : Two (W.setCell p u) bt bb es :=
  ⟨(Below.heap_setCell _ _ _ _ (by omega)).trans h.th, (Below.heap_setCell _ _ _ _ (by omega)).trans h.bk, h.ne⟩

/-- the memory between two operations of a round -/
structure Mid (b0 : Nat) (fv : Value) (s : ByteArray) (L : List UInt8) (Bx : Nat) (x : Pc) (bt bb : Nat) (W : World) (e : List (Int × Int)) (w' : World) : Prop where
  inv : Inv b0 fv s L w'
  box : w'.heap[Bx]? = some (.cells #[.int .i64 (x.sz : Nat), .bool x.nm, .int .i64 x.ad, .int .i64 x.po] 90 (0, 0))
  two : Two w' bt bb e
  but : But2 bt bb W w'
/-- which of these: ahead of the call, behind it, behind the store -/
def St (M : List (Int × Int) → World → Prop) (e1 e2 : List (Int × Int)) (p : Addr) (u : Value) : Bool → Bool → World → Prop
  | _, true, w' => ∃ w2, M e2 w2 ∧ w' = w2.setCell p u
  | true, false, w' => M e2 w'
  | false, false, w' => M e1 w'
theorem st_other {M : List (Int × Int) → World → Prop} {e1 e2 : List (Int × Int)} {p : Addr} {u : Value} {l : Array Bool} {i : Nat} {w' : World} (h4 : i ≠ 4) (h6 : i ≠ 6) (q6 : l.getD 6 false = false) (hw : St M e1 e2 p u (l.getD 4 false) (l.getD 6 false) w') :
    ((l.setIfInBounds i true).getD 6 false = true → ∀ j, j < 6 → (l.setIfInBounds i true).getD j false = true) ∧ St M e1 e2 p u ((l.setIfInBounds i true).getD 4 false) ((l.setIfInBounds i true).getD 6 false) w' := by
  rw [getD_set_ne false h4, getD_set_ne false h6]
  exact ⟨fun h => (by rw [q6] at h; cases h), hw⟩
theorem st_mid {M : List (Int × Int) → World → Prop} {e1 e2 : List (Int × Int)} {p : Addr} {u : Value} {b : Bool} {w' : World} (hw : St M e1 e2 p u b false w') : ∃ e, M e w' := by
  cases b
  · exact ⟨_, hw⟩
  · exact ⟨_, hw⟩

theorem written_in (n : Nat) (s : ByteArray) (w : World) :
    CallsIn Fence.wide n Tryz.prog 69 #[.string s] w fun e w' => e = .returned (.func (.func 91) #[] #[.pointer (some ⟨w.heap.size, 0, none⟩)]) ∧ w' = w.alloc (.cells #[.string s] 9) := by
  refine callsIn_of_wp Tryz.func69 rfl trivial ?_ rfl
  simp only [Tryz.ntmps69, List.size_toArray, List.length_cons, List.length_nil, Nat.reduceAdd, Nat.reduceSub, Array.replicate_succ, Array.replicate_zero, List.push_toArray, List.append_toArray, List.nil_append, List.cons_append]
  gi_wp2
  go_ret
  exact ⟨rfl, rfl⟩

end Go.Proofs.YtdggchcapjidjabGreatDoor.Wa

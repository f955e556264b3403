/- Walks: a text is written anew, piece by piece, by the program, both ways. -/
import Derived.Test.YtlejldaennlfaayDoorWp
namespace Go.Proofs.YtlejldaennlfaayDoor.Wa
open Go.RowKit Go.Shelf Go.Proofs.YtlejldaennlfaayDoor.Kit Go.Proofs.YtlejldaennlfaayDoor.Mp Go.Proofs.YtlejldaennlfaayDoor.Mj Go.Proofs.YtlejldaennlfaayDoor.Mk Go.Proofs.YtlejldaennlfaayDoor.Mg Go.Proofs.YtlejldaennlfaayDoor.Tx Go.Proofs.YtlejldaennlfaayDoor.Nm Go.Proofs.YtlejldaennlfaayDoor.App Go.Proofs.YtlejldaennlfaayDoor.It Go.Proofs.YtlejldaennlfaayDoor.It4 Go.Proofs.YtlejldaennlfaayDoor.Sq Go.Proofs.YtlejldaennlfaayDoor.Gp Go.Proofs.YtlejldaennlfaayDoor.Pcs Go.Proofs.YtlejldaennlfaayDoor.Wp
open Go.Proofs.YtlejldaennlfaayDoor.EndW (endV sideZ)
open Go.Proofs.YtlejldaennlfaayDoor.Read (Errs ErrCell)
attribute [local go_sem] Oper.semAt_some
set_option linter.unusedSimpArgs false
set_option linter.unusedVariables false

/-- a piece, by the way that it goes -/
def goX : Bool → List (Int × Int) → Pc → List UInt8 → List (Int × Int) × List UInt8
  | true, es, p, l => goO es p l
  | false, es, p, l => (es, goI es p l)
def outX : Bool → List (Int × Int) → List Pc → List UInt8 → List (Int × Int) × List UInt8
  | true, es, ps, l => outP es ps l
  | false, es, ps, l => (es, inP es ps l)
theorem goX_good (o : Bool) (es : List (Int × Int)) (p : Pc) (l : List UInt8) (hg : GoodE es) : GoodE (goX o es p l).1 := by
  cases o
  · exact hg
  · exact goO_good es p l hg
theorem outX_good (o : Bool) (es : List (Int × Int)) (ps : List Pc) (l : List UInt8) (hg : GoodE es) : GoodE (outX o es ps l).1 := by
  cases o
  · exact hg
  · exact outP_good es ps l hg
theorem goX_len (o : Bool) (es : List (Int × Int)) (hg : GoodE es) (p : Pc) (l : List UInt8) : (goX o es p l).2.length ≤ 6 + l.length := by
  cases o
  · exact goI_len es hg p l
  · exact goO_len es hg p l
theorem outX_len (o : Bool) (es : List (Int × Int)) (hg : GoodE es) (ps : List Pc) (l : List UInt8) : (outX o es ps l).2.length ≤ 6 * ps.length + l.length := by
  cases o
  · exact inP_len es hg ps l
  · exact outP_len es hg ps l
theorem outX_snoc (o : Bool) (es : List (Int × Int)) (ps : List Pc) (p : Pc) (l : List UInt8) :
    outX o es (ps ++ [p]) l = ((goX o (outX o es ps l).1 p ((l.drop (szs ps)).take p.sz)).1, (outX o es ps l).2 ++ (goX o (outX o es ps l).1 p ((l.drop (szs ps)).take p.sz)).2) := by
  cases o
  · simp only [outX, goX]; rw [inP_snoc]
  · exact outP_snoc es ps p l
theorem outX_nil (o : Bool) (es : List (Int × Int)) (l : List UInt8) : outX o es [] l = (es, []) := by cases o <;> rfl

/-- which ways this program has -/
def Av (o : Bool) : Prop := o = false
def fnX : Bool → Nat
  | true => 0
  | false => 16
/-- the function that goes on -/
def hV (o : Bool) (bt bb : Nat) : Value := .func (.func (fnX o)) #[prtV bt bb] #[]
theorem piece_x (o : Bool) (ho : Av o) (W : World) (bt bb : Nat) (es : List (Int × Int)) (h : Two W bt bb es) (hg : GoodE es) (P : Pc) (S : ByteArray) :
    Calls Tryd.prog (fnX o) #[prtV bt bb, pcV P, .string S] W fun r W' => ∃ T, r = .returned (.string T) ∧ T.data.toList = (goX o es P S.data.toList).2 ∧ Two W' bt bb (goX o es P S.data.toList).1 ∧ But2 bt bb W W' := by
  cases o
  · refine (in_piece W bt bb es h hg P S).mono ?_
    rintro e W' ⟨T, h1, h2, h3⟩
    exact ⟨T, h1, h2, h.below h3, But2.ofBelow h3⟩
  · cases ho

/-- what a loop that writes a text anew holds: the function, what is written, the text -/
structure Inv (b0 : Nat) (fv : Value) (s : ByteArray) (L : List UInt8) (W : World) : Prop where
  x1 : Boxed W b0 67 fv
  x2 : ∃ S, Boxed W (b0 + 1) 9 (.string S) ∧ S.data.toList = L
  x4 : Boxed W (b0 + 1 + 1) 9 (.string s)
theorem Inv.own {b0 : Nat} {fv : Value} {s : ByteArray} {L : List UInt8} {B : Nat} {X Y : World} {row : Option Nat} (h : Inv b0 fv s L X) (hB : b0 + 1 + 1 < B) (hg : X.grownBy Y row) (hr : ∀ r, row = some r → B ≤ r) : Inv b0 fv s L Y := by
  obtain ⟨S, h2, h2'⟩ := h.x2
  refine ⟨h.x1.kept hg fun e => ?_, ⟨S, h2.kept hg fun e => ?_, h2'⟩, h.x4.kept hg fun e => ?_⟩
  all_goals (have := hr _ e.symm; omega)
theorem Inv.but2 {b0 : Nat} {fv : Value} {s : ByteArray} {L : List UInt8} {bt bb : Nat} {X Y : World} (h : Inv b0 fv s L X) (h1 : bt < b0) (h2 : bb < b0) (hk : But2 bt bb X Y) : Inv b0 fv s L Y := by
  obtain ⟨S, q2, q2'⟩ := h.x2
  exact ⟨(hk.block _ h.x1.lt (by omega) (by omega)).trans h.x1, ⟨S, (hk.block _ q2.lt (by omega) (by omega)).trans q2, q2'⟩, (hk.block _ h.x4.lt (by omega) (by omega)).trans h.x4⟩
theorem keepsFrom_but2 {bt bb B : Nat} {X Y : World} (h : But2 bt bb X Y) (h1 : bt < B) (h2 : bb < B) : KeepsFrom B X Y :=
  ⟨h.size, fun k o hB hk _ => (h.block k (Array.getElem?_eq_some_iff.1 hk).1 (by omega) (by omega)).trans hk⟩
theorem kq_but2 {bt bb : Nat} {Z : Nat → TypeId → Prop} {es : List (Int × Int)} {X Y : World} (h : But2 bt bb X Y) (ht : Two X bt bb es) : Kq Z X Y := by
  have key : ∀ (b : Nat) (cs : Array Value) (t : TypeId) (f : Nat × Nat), X.heap[b]? = some (.cells cs t f) → Y.heap[b]? = some (.cells cs t f) := by
    intro b cs t f hb
    refine (h.block b (Array.getElem?_eq_some_iff.1 hb).1 ?_ ?_).trans hb
    · rintro rfl; have := ht.th; rw [hb] at this; cases this
    · rintro rfl; have := ht.bk; rw [hb] at this; cases this
  exact ⟨h.size, fun b cs t f hb => ⟨cs, f, key b cs t f hb⟩, fun b cs t f hb _ => key b cs t f hb⟩
theorem but2_set {bt bb : Nat} {w X : World} (h : But2 bt bb w X) (p : Addr) (u : Value) (hp : w.heap.size ≤ p.block) : But2 bt bb w (X.setCell p u) :=
  ⟨h.os, h.tape, h.output, by simpa [World.setCell] using h.size, fun k hk h1 h2 => (Below.heap_setCell _ _ _ _ (by omega)).trans (h.block k hk h1 h2)⟩
theorem two_set {W : World} {bt bb : Nat} {es : List (Int × Int)} (h : Two W bt bb es) (p : Addr) (u : Value) (h1 : bt ≠ p.block) (h2 : bb ≠ p.block) : Two (W.setCell p u) bt bb es :=
  ⟨(Below.heap_setCell _ _ _ _ (by omega)).trans h.th, (Below.heap_setCell _ _ _ _ (by omega)).trans h.bk, h.ne⟩

/-- the memory between two operations of a round -/
structure Mid (b0 : Nat) (fv : Value) (s : ByteArray) (L : List UInt8) (Bx : Nat) (x : Pc) (bt bb : Nat) (W : World) (e : List (Int × Int)) (w' : World) : Prop where
  inv : Inv b0 fv s L w'
  box : w'.heap[Bx]? = some (.cells #[.int .i64 (x.sz : Nat), .bool x.nm, .int .i64 x.ad, .int .i64 x.po] 37 (0, 0))
  two : Two w' bt bb e
  but : But2 bt bb W w'
/-- which of these: ahead of the call, behind it, behind the store -/
def St (M : List (Int × Int) → World → Prop) (e1 e2 : List (Int × Int)) (p : Addr) (u : Value) : Bool → Bool → World → Prop
  | _, true, w' => ∃ w2, M e2 w2 ∧ w' = w2.setCell p u
  | true, false, w' => M e2 w'
  | false, false, w' => M e1 w'
theorem st_other {M : List (Int × Int) → World → Prop} {e1 e2 : List (Int × Int)} {p : Addr} {u : Value} {l : Array Bool} {i : Nat} {w' : World} (h4 : i ≠ 4) (h6 : i ≠ 6) (q6 : l.getD 6 false = false) (hw : St M e1 e2 p u (l.getD 4 false) (l.getD 6 false) w') :
    ((l.setIfInBounds i true).getD 6 false = true → ∀ j, j < 6 → (l.setIfInBounds i true).getD j false = true) ∧ St M e1 e2 p u ((l.setIfInBounds i true).getD 4 false) ((l.setIfInBounds i true).getD 6 false) w' := by
  rw [getD_set_ne false h4, getD_set_ne false h6]
  exact ⟨fun h => (by rw [q6] at h; cases h), hw⟩
theorem st_mid {M : List (Int × Int) → World → Prop} {e1 e2 : List (Int × Int)} {p : Addr} {u : Value} {b : Bool} {w' : World} (hw : St M e1 e2 p u b false w') : ∃ e, M e w' := by
  cases b
  · exact ⟨_, hw⟩
  · exact ⟨_, hw⟩

theorem written_in (n : Nat) (s : ByteArray) (w : World) :
    CallsIn Fence.wide n Tryd.prog 28 #[.string s] w fun e w' => e = .returned (.func (.func 42) #[] #[.pointer (some ⟨w.heap.size, 0, none⟩)]) ∧ w' = w.alloc (.cells #[.string s] 9) := by
  refine callsIn_of_wp Tryd.func28 rfl trivial ?_ rfl
  simp only [Tryd.ntmps28, List.size_toArray, List.length_cons, List.length_nil, Nat.reduceAdd, Nat.reduceSub, Array.replicate_succ, Array.replicate_zero, List.push_toArray, List.append_toArray, List.nil_append, List.cons_append]
  gi_wp2
  go_ret
  exact ⟨rfl, rfl⟩

set_option maxRecDepth 8000 in
set_option maxHeartbeats 8000000 in
theorem anew_x (n : Nat) (hn : 9 ≤ n) (o : Bool) (hav : Av o) (s : ByteArray) (w : World) (bt bb : Nat) (es : List (Int × Int)) (ht : Two w bt bb es) (hg : GoodE es) (herr : Errs w) :
    CallsIn Fence.wide n Tryd.prog 15 #[.string s, hV o bt bb] w fun e W' =>
      ∃ T, e = .returned (.string T) ∧ T.data.toList = (outX o es (pieL s.data.toList) s.data.toList).2 ∧ Two W' bt bb (outX o es (pieL s.data.toList) s.data.toList).1 ∧ But2 bt bb w W' := by
  have h1 : 1 ≤ n := by omega
  obtain ⟨g1, g2⟩ := errs_lt herr
  have hlt := ht.lt
  refine callsIn_of_wp_marks Tryd.func15 rfl trivial ?_ rfl
  simp only [Tryd.ntmps15, List.size_toArray, List.length_cons, List.length_nil, Nat.reduceAdd, Nat.reduceSub, Array.replicate_succ, Array.replicate_zero, List.push_toArray, List.append_toArray, List.nil_append, List.cons_append]
  gi_wp2_with fail
  refine ⟨trivial, ?_⟩
  refine (written_in _ s _).mono ?_
  rintro e w1 ⟨rfl, rfl⟩
  gi_wp2
  have x1 := ((Boxed.new w 67 (hV o bt bb)).alloc (.cells #[.string ⟨#[]⟩] 9)).alloc (.cells #[.string s] 9)
  have x2 := (Boxed.new (w.alloc (.cells #[hV o bt bb] 67)) 9 (.string ⟨#[]⟩)).alloc (.cells #[.string s] 9)
  have x4 := Boxed.new ((w.alloc (.cells #[hV o bt bb] 67)).alloc (.cells #[.string ⟨#[]⟩] 9)) 9 (.string s)
  have hB0 : Below w.heap.size w (((w.alloc (.cells #[hV o bt bb] 67)).alloc (.cells #[.string ⟨#[]⟩] 9)).alloc (.cells #[.string s] 9)) :=
    (((Below.refl _ w).alloc (Nat.le_refl _) _).alloc (by simp) _).alloc (by simp; omega) _
  have hsz : (((w.alloc (.cells #[hV o bt bb] 67)).alloc (.cells #[.string ⟨#[]⟩] 9)).alloc (.cells #[.string s] 9)).heap.size = w.heap.size + 1 + 1 + 1 := by simp
  simp only [World.size_alloc] at x2 x4
  obtain ⟨W0, hW0⟩ : ∃ W0, ((w.alloc (.cells #[hV o bt bb] 67)).alloc (.cells #[.string ⟨#[]⟩] 9)).alloc (.cells #[.string s] 9) = W0 := ⟨_, rfl⟩
  rw [hW0] at x1 x2 x4 hB0 hsz ⊢
  clear hW0
  have hOwn : OwnC W0.heap.size (fun (pre : List (Pc × ByteArray)) W => Inv w.heap.size (hV o bt bb) s (outX o es (pre.map Prod.fst) s.data.toList).2 W ∧ Two W bt bb (outX o es (pre.map Prod.fst) s.data.toList).1 ∧ But2 bt bb w W) := by
    rintro pre X Y row ⟨i1, i2, i3⟩ hgr hr
    have kp : ∀ k, k < W0.heap.size → k < X.heap.size → Y.heap[k]? = X.heap[k]? := fun k h0 hx => hgr.block k hx fun e => by have := (hr k e.symm).1; omega
    refine ⟨i1.own (B := W0.heap.size) (by omega) hgr (fun r e => (hr r e).1), ⟨(kp _ (by omega) i2.lt.1).trans i2.th, (kp _ (by omega) i2.lt.2).trans i2.bk, i2.ne⟩, ⟨hgr.os.trans i3.os, hgr.tape.trans i3.tape, hgr.output.trans i3.output, Nat.le_trans i3.size hgr.size, fun k hk q1 q2 => (kp k (by omega) (Nat.lt_of_lt_of_le hk i3.size)).trans (i3.block k hk q1 q2)⟩⟩
  refine range_list (α := Pc × ByteArray) h1 (gf := 42) (lb := #[.pointer (some ⟨w.heap.size + 1 + 1, 0, none⟩)]) rfl (enters_of Tryd.func42 (by kernel_rfl) rfl)
    (told (n - 1) (w.heap.size + 1 + 1) (by omega) (fun b t => b = w.heap.size + 1) s W0 x4 (herr.below hB0) (by omega) ⟨fun b hb => by omega, fun b hb => by omega, fun b hb => by omega, fun b hb => by omega⟩ (fun t => ⟨by omega, by omega⟩))
    (fun h k => Kq.trans h k) (fun W l o o' _ ho hc => kq_putObj W l o o' ho hc) (Below.refl _ _) (fun _ => rfl)
    (fun pre W => Inv w.heap.size (hV o bt bb) s (outX o es (pre.map Prod.fst) s.data.toList).2 W ∧ Two W bt bb (outX o es (pre.map Prod.fst) s.data.toList).1 ∧ But2 bt bb w W)
    hOwn
    ⟨⟨x1, ⟨_, x2, by rw [List.map_nil, outX_nil]⟩, x4⟩, by rw [List.map_nil, outX_nil]; exact ht.below hB0, But2.ofBelow hB0⟩
    (fun x a' W => ∃ Bx, W0.heap.size ≤ Bx ∧ W.heap[Bx]? = some (.cells #[.int .i64 (x.1.sz : Nat), .bool x.1.nm, .int .i64 x.1.ad, .int .i64 x.1.po] 37 (0, 0)) ∧ a' = { tmps := #[.string s, hV o bt bb, undef, .pointer (some ⟨w.heap.size, 0, none⟩), .string ⟨#[]⟩, .pointer (some ⟨w.heap.size + 1, 0, none⟩), .pointer (some ⟨Bx, 0, none⟩), .string x.2, .string s, .func (.func 42) #[] #[.pointer (some ⟨w.heap.size + 1 + 1, 0, none⟩)], pcV x.1, .string x.2, undef, undef, undef, undef, undef, undef, undef], defers := [] })
    (fun x a' _ X Y row hs hgr hr => by
      obtain ⟨Bx, h0, h2, h3⟩ := hs
      refine ⟨Bx, h0, (hgr.block Bx (Array.getElem?_eq_some_iff.1 h2).1 fun e => ?_).trans h2, h3⟩
      obtain ⟨_, o, ho, hc⟩ := hr Bx e.symm
      rw [h2] at ho; cases ho; cases hc)
    ?assign ?body ?done
  case assign =>
    rintro l pre ⟨x, S0⟩ W C hpre hi hC
    have hz : W0.heap.size ≤ W.heap.size := by have := hi.1.x4.lt; omega
    simp only [wpV]
    gi_wp2
    exact hC _ _ ((KeepsOthers.alloc _ _).from _) (Kq.below ((Below.refl _ W).alloc (Nat.le_refl _) _)) ((ownC_from hOwn).alloc _ hi) ⟨W.heap.size, hz, World.alloc_heap_new W _, rfl⟩
  case body =>
    rintro l pre0 x0 a' W hpre0 hl ⟨hi, h2, hb2⟩ ⟨Bx, hBx, hX, rfl⟩
    obtain ⟨pre, x, hpre, rfl, rfl⟩ := cutL_snoc_of s pre0 x0 _ hpre0
    have hm : (cutL s 0 pre ++ [(x, s.extract (szs pre) (szs pre + x.sz))]).map Prod.fst = pre ++ [x] := by rw [List.map_append, cutL_fst]; rfl
    rw [cutL_fst] at hi h2
    obtain ⟨hin, hok⟩ := pie_in s pre x hpre
    have hsb : s.size ≤ 40 := by have := (ok_parts _ hok).1; rw [lenL] at this; exact this
    obtain ⟨S, q2, q2'⟩ := hi.x2
    have hpl := pre_len s pre x hpre
    have hSz : S.size ≤ 300 := by
      have := outX_len o es hg pre s.data.toList
      rw [← q2', lenL, lenL] at this; omega
    have hgd := outX_good o es pre s.data.toList hg
    have hmix : Tryd.prog.follows .mixedOrders = true := by kernel_rfl
    have hn2 : 1 ≤ n - 1 - 1 := by omega
    have hBn : Bx ≠ w.heap.size + 1 := by omega
    have hB3 : w.heap.size + 1 + 1 + 1 ≤ Bx := by omega
    obtain ⟨q, hq⟩ : ∃ q, goX o (outX o es pre s.data.toList).1 x (s.extract (szs pre) (szs pre + x.sz)).data.toList = q := ⟨_, rfl⟩
    obtain ⟨es2, Tl⟩ := q
    obtain ⟨T, hT⟩ : ∃ T : ByteArray, T.data.toList = Tl := ⟨⟨Tl.toArray⟩, by simp⟩
    have hTz : T.size ≤ 100 := by
      have h1 := goX_len o _ hgd x (s.extract (szs pre) (szs pre + x.sz)).data.toList
      rw [hq, lenL, ByteArray.size_extract] at h1
      rw [← lenL, hT]; simp only at h1; omega
    obtain ⟨X0, hX0⟩ : ∃ X0, s.extract (szs pre) (szs pre + x.sz) = X0 := ⟨_, rfl⟩
    have HX0 := (show Hid _ from hX0)
    rw [hX0] at hq hm hpre0 ⊢
    have HM := (show Hid _ from hm)
    have HQ := (show Hid _ from hq)
    have HT := (show Hid _ from hT)
    have HG := (show Hid _ from hgd)
    have HS := (show Hid _ from q2')
    have H2 := (show Hid _ from h2)
    have HB := (show Hid _ from hb2)
    have hM0 : Mid w.heap.size (hV o bt bb) s (outX o es pre s.data.toList).2 Bx x bt bb W (outX o es pre s.data.toList).1 W.drew :=
      ⟨hi.but2 hlt.1 hlt.2 (But2.ofBelow (Below.refl _ W).drew), hX, h2.below (Below.refl _ W).drew, But2.ofBelow (Below.refl _ W).drew⟩
    have H0 := (show Hid _ from hM0)
    clear hq hT hgd q2' hi h2 hb2 hpre hpre0 hM0 hX hOwn x1 x2 x4 hB0 herr ht hok q2 hm hX0
    gi_wp2_with fail
    refine wpIn_region_any hmix ?_
    refine Rg.any_inv (I := fun l a' w' => l.size = 7 ∧ ∃ t : Nat → Value, a' = { tmps := #[.string s, hV o bt bb, undef, .pointer (some ⟨w.heap.size, 0, none⟩), .string ⟨#[]⟩, .pointer (some ⟨w.heap.size + 1, 0, none⟩), .pointer (some ⟨Bx, 0, none⟩), .string X0, .string s, .func (.func 42) #[] #[.pointer (some ⟨w.heap.size + 1 + 1, 0, none⟩)], pcV x, .string X0, t 0, t 1, t 2, t 3, t 4, t 5, undef], defers := [] } ∧
        Rg.Vals l (fun j => [Value.string S, hV o bt bb, pcV x, .string X0, .string T, .string (S ++ T)].getD j undef) t ∧
        (l.getD 6 false = true → ∀ j, j < 6 → l.getD j false = true) ∧
        St (Mid w.heap.size (hV o bt bb) s (outX o es pre s.data.toList).2 Bx x bt bb W) (outX o es pre s.data.toList).1 es2 ⟨w.heap.size + 1, 0, none⟩ (.string (S ++ T)) (l.getD 4 false) (l.getD 6 false) w')
      ?sz ?low ?step ?fin _ _ _ _ ?start (Rg.left_all _)
    case sz => exact fun l a' w' h => h.1
    case start => exact ⟨by simp, fun _ => undef, rfl, Rg.vals_none _ _ _, (fun h => by rw [Rg.rep_none] at h; cases h), by rw [Rg.rep_none, Rg.rep_none]; exact H0.out⟩
    case low => exact Rg.low_of (by kernel_rfl)
    case step =>
      rintro l a' w' i ⟨hsz, t, rfl, hv, h6, hw⟩ hi
      obtain ⟨h0, op, ho, hd⟩ := mem_ready.1 hi
      have hi7 : i < 7 := (Array.getElem?_eq_some_iff.1 ho).1
      have hnl := Rg.not_listed h0
      have q6 : l.getD 6 false = false := by
        cases q : l.getD 6 false
        · rfl
        · by_cases e6 : i = 6
          · subst e6; rw [hnl] at q; cases q
          · have := h6 q i (by omega)
            rw [hnl] at this; cases this
      have hw6 := hw
      rw [q6] at hw6
      obtain ⟨ee, hM⟩ := st_mid hw6
      clear hw6
      obtain ⟨S', r2, r2'⟩ := hM.inv.x2
      have hSS : S' = S := ba_ext (r2'.trans HS.out.symm)
      rw [hSS] at r2
      have m2 := r2.cell
      have n2 := r2.frozen
      have m1 := hM.inv.x1.cell
      have y0 : w'.cell? ⟨Bx, 0, none⟩ = some (.int .i64 (x.sz : Nat)) := by simp [World.cell?, hM.box]
      have y1 : w'.cell? ⟨Bx, 1, none⟩ = some (.bool x.nm) := by simp [World.cell?, hM.box]
      have y2 : w'.cell? ⟨Bx, 2, none⟩ = some (.int .i64 x.ad) := by simp [World.cell?, hM.box]
      have y3 : w'.cell? ⟨Bx, 3, none⟩ = some (.int .i64 x.po) := by simp [World.cell?, hM.box]
      clear r2 r2' hSS hM
      have hc : i = 0 ∨ i = 1 ∨ i = 2 ∨ i = 3 ∨ i = 4 ∨ i = 5 ∨ i = 6 := by omega
      rcases hc with rfl | rfl | rfl | rfl | rfl | rfl | rfl
      · obtain ⟨z1, z2⟩ := st_other (i := 0) (by omega) (by omega) q6 hw
        clear hw h6
        refine wpOpIn_step rfl fun K hK => ?_
        go_simp
        exact hK _ _ ⟨by simp [hsz], fun j => if j = 0 then Value.string S else t j, rfl, hv.put 0 _ rfl, z1, z2⟩
      · obtain ⟨z1, z2⟩ := st_other (i := 1) (by omega) (by omega) q6 hw
        clear hw h6
        refine wpOpIn_step rfl fun K hK => ?_
        go_simp
        exact hK _ _ ⟨by simp [hsz], fun j => if j = 1 then hV o bt bb else t j, rfl, hv.put 1 _ rfl, z1, z2⟩
      · obtain ⟨z1, z2⟩ := st_other (i := 2) (by omega) (by omega) q6 hw
        clear hw h6
        refine wpOpIn_step rfl fun K hK => ?_
        go_simp
        exact hK _ _ ⟨by simp [hsz], fun j => if j = 2 then pcV x else t j, rfl, hv.put 2 _ rfl, z1, z2⟩
      · obtain ⟨z1, z2⟩ := st_other (i := 3) (by omega) (by omega) q6 hw
        clear hw h6
        refine wpOpIn_step rfl fun K hK => ?_
        go_simp
        exact hK _ _ ⟨by simp [hsz], fun j => if j = 3 then Value.string X0 else t j, rfl, hv.put 3 _ rfl, z1, z2⟩
      · rw [hnl, q6] at hw
        have hM : Mid w.heap.size (hV o bt bb) s (outX o es pre s.data.toList).2 Bx x bt bb W (outX o es pre s.data.toList).1 w' := hw
        obtain rfl : _ = op := Option.some.inj (show some _ = some op from ho)
        have e1 : t 1 = hV o bt bb := hv 1 (hd { on := 1, ground := .data } (by simp) rfl)
        have e2 : t 2 = pcV x := hv 2 (hd { on := 2, ground := .data } (by simp) rfl)
        have e3 : t 3 = .string X0 := hv 3 (hd { on := 3, ground := .data } (by simp) rfl)
        have HK := (show Hid _ from hM)
        have HV := (show Hid _ from hv)
        clear hM hw h6 hv
        refine wpOpIn_step rfl fun K hK => ?_
        have HKK := (show Hid _ from hK)
        clear hK
        cases o
        · have e1' : t 1 = .func (.func 16) #[prtV bt bb] #[] := e1
          clear e1
          go_simp
          refine ⟨trivial, ?_⟩
          refine (CallsIn.inRound _ (callsIn_wide.2 (piece_x false hav _ bt bb _ HK.out.two HG.out x X0))).mono ?_
          rintro e w2 ⟨T', rfl, hT', t2, kk⟩
          rw [HQ.out] at hT' t2
          obtain rfl : T' = T := ba_ext (hT'.trans HT.out.symm)
          refine HKK.out _ _ ⟨by simp [hsz], fun j => if j = 4 then .string T' else t j, by simp [e1', e2, e3], Rg.Vals.put HV.out 4 _ rfl, ?_, ?_⟩
          · rw [getD_set_ne false (by omega), q6]; intro h; cases h
          · rw [getD_set_ne false (show 4 ≠ 6 by omega), q6, Rg.set_same (by omega)]
            exact ⟨HK.out.inv.but2 hlt.1 hlt.2 kk, (kk.block Bx (Array.getElem?_eq_some_iff.1 HK.out.box).1 (by omega) (by omega)).trans HK.out.box, t2, HK.out.but.trans kk⟩
        · cases hav
      · obtain ⟨z1, z2⟩ := st_other (i := 5) (by omega) (by omega) q6 hw
        clear hw h6
        obtain rfl : _ = op := Option.some.inj (show some _ = some op from ho)
        have e0 : t 0 = .string S := hv 0 (hd { on := 0, ground := .data } (by simp) rfl)
        have e4 : t 4 = .string T := hv 4 (hd { on := 4, ground := .data } (by simp) rfl)
        refine wpOpIn_step rfl fun K hK => ?_
        have HKK := (show Hid _ from hK)
        clear hK
        go_simp
        gi_wp2_with fail
        exact HKK.out _ _ ⟨by simp [hsz], fun j => if j = 5 then Value.string (S ++ T) else t j, by simp [e0, e4], hv.put 5 _ rfl, z1, z2⟩
      · obtain rfl : _ = op := Option.some.inj (show some _ = some op from ho)
        have hall : ∀ j, j < 6 → l.getD j false = true := by
          intro j hj
          have hc : j = 0 ∨ j = 1 ∨ j = 2 ∨ j = 3 ∨ j = 4 ∨ j = 5 := by omega
          rcases hc with rfl | rfl | rfl | rfl | rfl | rfl
          all_goals exact hd { on := _, ground := .phase } (by simp) rfl
        have e5 : t 5 = .string (S ++ T) := hv 5 (hall 5 (by omega))
        rw [hnl, hall 4 (by omega)] at hw
        have hM : Mid w.heap.size (hV o bt bb) s (outX o es pre s.data.toList).2 Bx x bt bb W es2 w' := hw
        have HK := (show Hid _ from hM)
        have HA := (show Hid _ from hall)
        clear hM hw hall h6
        refine wpOpIn_step rfl fun K hK => ?_
        have HKK := (show Hid _ from hK)
        clear hK
        go_simp
        refine HKK.out _ _ ⟨by simp [hsz], fun j => if j = 6 then undef else t j, by simp [e5], hv.put 6 _ rfl, ?_, ?_⟩
        · intro _ j hj
          rw [getD_set_ne false (by omega)]; exact HA.out j hj
        · rw [Rg.set_same (by omega)]
          exact ⟨w', HK.out, rfl⟩
    case fin =>
      rintro l a' w' ⟨hsz, t, rfl, hv, h6, hw⟩ hall
      have q6 : l.getD 6 false = true := hall 6 (by simp)
      rw [q6] at hw
      obtain ⟨w2, hM, rfl⟩ : ∃ w2, Mid w.heap.size (hV o bt bb) s (outX o es pre s.data.toList).2 Bx x bt bb W es2 w2 ∧ w' = w2.setCell ⟨w.heap.size + 1, 0, none⟩ (.string (S ++ T)) := by
        cases q : l.getD 4 false <;> (rw [q] at hw; exact hw)
      have HK := (show Hid _ from hM)
      clear hM hv h6 hall q6 hw
      gi_wp2
      have hq2 : goX o (outX o es pre s.data.toList).1 x ((s.data.toList.drop (szs pre)).take x.sz) = (es2, Tl) := by
        have := HQ.out
        rw [← HX0.out] at this
        rwa [ext_to, show szs pre + x.sz - szs pre = x.sz by omega] at this
      have hsn := outX_snoc o es pre x s.data.toList
      rw [hq2] at hsn
      obtain ⟨S', r2, r2'⟩ := HK.out.inv.x2
      rw [HM.out]
      refine ⟨(keepsFrom_but2 HK.out.but (by omega) (by omega)).trans (keepsFrom_set _ _ (by simp; omega)), (kq_but2 HK.out.but H2.out).trans (kq_set _ _ fun _ _ _ _ => rfl), ⟨?_, ?_, ?_⟩, ?_, ?_⟩
      · exact HK.out.inv.x1.other (by omega) _
      · refine ⟨S ++ T, r2.set _, ?_⟩
        rw [hsn, ByteArray.data_append, Array.toList_append, HS.out, HT.out]
      · exact HK.out.inv.x4.other (by omega) _
      · rw [hsn]
        exact two_set HK.out.two _ _ (by simp; omega) (by simp; omega)
      · exact but2_set (HB.out.trans HK.out.but) _ _ (by simp)
  case done =>
    rintro D W hD ⟨hi, h2, hb2⟩ hK
    rw [cutL_fst] at hi h2
    obtain ⟨S, q2, q2'⟩ := hi.x2
    have hc := q2.cell
    gi_wp2
    refine ⟨by simp, .inl ⟨_, _, rfl, run_takeDeferred hK, ?_⟩⟩
    refine ⟨_, results_tmp rfl _ _ _, S, rfl, q2', ?_, ?_⟩
    · exact ⟨(World.putObj_heap_other (by omega)).trans h2.th, (World.putObj_heap_other (by omega)).trans h2.bk, h2.ne⟩
    · exact ⟨hb2.os, hb2.tape, hb2.output, by simpa using hb2.size, fun k hk q1 q2 => (World.putObj_heap_other (by omega)).trans (hb2.block k hk q1 q2)⟩
end Go.Proofs.YtlejldaennlfaayDoor.Wa

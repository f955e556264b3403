/- Walks: a text is written anew, piece by piece, by the program. -/
import Derived.Test.YtcoengedikcneayDoorGp
import Derived.Test.YtcoengedikcneayDoorIt4
import Derived.Test.YtcoengedikcneayDoorPcs
import Derived.Test.YtcoengedikcneayDoorRg
namespace Go.Proofs.YtcoengedikcneayDoor.Wa
open Go.RowKit Go.Shelf Go.Proofs.YtcoengedikcneayDoor.Kit Go.Proofs.YtcoengedikcneayDoor.Mp Go.Proofs.YtcoengedikcneayDoor.Mj Go.Proofs.YtcoengedikcneayDoor.Mk Go.Proofs.YtcoengedikcneayDoor.Mg Go.Proofs.YtcoengedikcneayDoor.Tx Go.Proofs.YtcoengedikcneayDoor.Nm Go.Proofs.YtcoengedikcneayDoor.App Go.Proofs.YtcoengedikcneayDoor.It Go.Proofs.YtcoengedikcneayDoor.It4 Go.Proofs.YtcoengedikcneayDoor.Sq Go.Proofs.YtcoengedikcneayDoor.Gp Go.Proofs.YtcoengedikcneayDoor.Pcs
open Go.Proofs.YtcoengedikcneayDoor.EndW (endV sideZ)
open Go.Proofs.YtcoengedikcneayDoor.Read (Errs ErrCell)
attribute [local go_sem] Oper.semAt_some
set_option linter.unusedSimpArgs false
set_option linter.unusedVariables false

theorem ba_ext {a b : ByteArray} (h : a.data.toList = b.data.toList) : a = b := by
  cases a; cases b; simp only at h; congr; exact Array.toList_inj.1 h

/-- pieces of a text lie in it -/
theorem pie_in (s : ByteArray) (pre : List Pc) (x : Pc) (h : pre ++ [x] <+: pieL s.data.toList) : szs pre + x.sz ≤ s.size ∧ okB s.data.toList = true := by
  cases hok : okB s.data.toList
  · rw [pie_no _ hok] at h
    have := h.length_le
    simp at this
  · rw [pie_ok _ hok] at h
    obtain ⟨t, ht⟩ := h
    have hl := szs_pcs (bd s.data.toList)
    rw [← ht, bd_len, lenL] at hl
    have e : szs (pre ++ [x] ++ t) = szs pre + x.sz + szs t := by simp [szs]; omega
    rw [e] at hl
    exact ⟨by omega, rfl⟩
theorem szs_snoc (pre : List Pc) (x : Pc) : szs (pre ++ [x]) = szs pre + x.sz := by simp [szs]

theorem nmL_six (e : Int × Int) (h : sideZ e.1 e.2 ≠ 0) : (nmL e).length ≤ 6 := by
  rw [nm_len e h]; split <;> omega
theorem goO_len (es : List (Int × Int)) (hg : GoodE es) (p : Pc) (l : List UInt8) : (goO es p l).2.length ≤ 6 + l.length := by
  unfold goO
  split
  · next h =>
    have hp := outE_port es _ hg h.2.2
    have := nmL_six (9, (outE es (p.ad, p.po)).2.1) (by simp only; unfold sideZ; simp; omega)
    simp only; omega
  · simp only; omega
theorem outP_len (es : List (Int × Int)) (hg : GoodE es) (ps : List Pc) (l : List UInt8) : (outP es ps l).2.length ≤ 6 * ps.length + l.length := by
  induction ps generalizing es l with
  | nil => simp [outP]
  | cons p ps ih =>
    have h1 := goO_len es hg p (l.take p.sz)
    have h2 := ih (goO es p (l.take p.sz)).1 (goO_good es p _ hg) (l.drop p.sz)
    have h3 : (l.take p.sz).length + (l.drop p.sz).length = l.length := by rw [← List.length_append, List.take_append_drop]
    rw [outP, List.length_append, List.length_cons]
    omega
theorem goI_len (es : List (Int × Int)) (hg : GoodE es) (p : Pc) (l : List UInt8) : (goI es p l).length ≤ 6 + l.length := by
  unfold goI
  split
  · next h =>
    have hz : sideZ (inE es p.po).1.1 (inE es p.po).1.2 ≠ 0 := by
      rcases inE_cases es p.po with ⟨i, e, _, he, hq⟩ | ⟨_, hq⟩
      · rw [hq]
        have := hg.ins e (List.mem_of_getElem? he)
        simp only [inB, decide_eq_true_eq] at this
        simp only; omega
      · have := h.2.2; rw [hq] at this; cases this
    have := nmL_six _ hz
    omega
  · omega
theorem inP_len (es : List (Int × Int)) (hg : GoodE es) (ps : List Pc) (l : List UInt8) : (inP es ps l).length ≤ 6 * ps.length + l.length := by
  induction ps generalizing l with
  | nil => simp [inP]
  | cons p ps ih =>
    have h1 := goI_len es hg p (l.take p.sz)
    have h2 := ih (l.drop p.sz)
    have h3 : (l.take p.sz).length + (l.drop p.sz).length = l.length := by rw [← List.length_append, List.take_append_drop]
    rw [inP, List.length_append, List.length_cons]
    omega
theorem pie_sz1 (l : List UInt8) : ∀ p ∈ pieL l, 1 ≤ p.sz := by
  cases hok : okB l
  · rw [pie_no _ hok]; intro p hp; cases hp
  · rw [pie_ok _ hok]
    generalize bd l = m
    have key : ∀ (n : Nat) (m : List UInt8), m.length ≤ n → ∀ p ∈ pcs m, 1 ≤ p.sz := by
      intro n
      induction n with
      | zero =>
        intro m hm p hp
        have : m = [] := List.length_eq_zero_iff.1 (by omega)
        subst this; rw [pcs_nil] at hp; cases hp
      | succ n ih =>
        intro m hm p hp
        by_cases h0 : m = []
        · subst h0; rw [pcs_nil] at hp; cases hp
        · rw [pcs_cons m h0] at hp
          have h1 := pc1_sz m h0
          rcases List.mem_cons.1 hp with rfl | hp
          · exact h1.1
          · exact ih _ (by rw [List.length_drop]; omega) p hp
    exact key m.length m (Nat.le_refl _)
theorem len_szs (ps : List Pc) (h : ∀ p ∈ ps, 1 ≤ p.sz) : ps.length ≤ szs ps := by
  induction ps with
  | nil => exact Nat.zero_le _
  | cons p ps ih =>
    have e : szs (p :: ps) = p.sz + szs ps := by simp [szs]
    have h1 := h p (List.mem_cons_self ..)
    have h2 := ih fun q hq => h q (List.mem_cons_of_mem _ hq)
    rw [e, List.length_cons]; omega
theorem pre_len (s : ByteArray) (pre : List Pc) (x : Pc) (h : pre ++ [x] <+: pieL s.data.toList) : pre.length ≤ szs pre := by
  refine len_szs pre fun p hp => pie_sz1 s.data.toList p (h.subset (List.mem_append_left _ hp))

/-- what a loop that writes a text anew holds: the text, the function, what is written, and how far -/
structure Inv (w : World) (b0 : Nat) (fv : Value) (s : ByteArray) (L : List UInt8) (k : Nat) (W : World) : Prop where
  x0 : Boxed W b0 9 (.string s)
  x1 : Boxed W (b0 + 1) 53 fv
  x2 : ∃ S, Boxed W (b0 + 1 + 1) 9 (.string S) ∧ S.data.toList = L
  x3 : Boxed W (b0 + 1 + 1 + 1) 3 (.int .i64 (k : Nat))
  x4 : b0 + 1 + 1 + 1 + 1 < W.heap.size
theorem Inv.own {w : World} {b0 : Nat} {fv : Value} {s : ByteArray} {L : List UInt8} {k B : Nat} {X Y : World} {row : Option Nat} (h : Inv w b0 fv s L k X) (hB : b0 + 1 + 1 + 1 < B) (hg : X.grownBy Y row) (hr : ∀ r, row = some r → B ≤ r) : Inv w b0 fv s L k Y := by
  obtain ⟨S, h2, h2'⟩ := h.x2
  refine ⟨h.x0.kept hg fun e => ?_, h.x1.kept hg fun e => ?_, ⟨S, h2.kept hg fun e => ?_, h2'⟩, h.x3.kept hg fun e => ?_, Nat.lt_of_lt_of_le h.x4 hg.size⟩
  · have := hr _ e.symm; omega
  · have := hr _ e.symm; omega
  · have := hr _ e.symm; omega
  · have := hr _ e.symm; omega
/-- it abides what turns two other blocks -/
theorem Inv.but2 {w : World} {b0 : Nat} {fv : Value} {s : ByteArray} {L : List UInt8} {k bt bb : Nat} {X Y : World} (h : Inv w b0 fv s L k X) (h1 : bt < b0) (h2 : bb < b0) (hk : But2 bt bb X Y) : Inv w b0 fv s L k Y := by
  obtain ⟨S, q2, q2'⟩ := h.x2
  exact ⟨(hk.block _ h.x0.lt (by omega) (by omega)).trans h.x0, (hk.block _ h.x1.lt (by omega) (by omega)).trans h.x1, ⟨S, (hk.block _ q2.lt (by omega) (by omega)).trans q2, q2'⟩, (hk.block _ h.x3.lt (by omega) (by omega)).trans h.x3, Nat.lt_of_lt_of_le h.x4 hk.size⟩

theorem keepsFrom_but2 {bt bb B : Nat} {X Y : World} (h : But2 bt bb X Y) (h1 : bt < B) (h2 : bb < B) : KeepsFrom B X Y :=
  ⟨h.size, fun k o hB hk _ => (h.block k (Array.getElem?_eq_some_iff.1 hk).1 (by omega) (by omega)).trans hk⟩
theorem keepsFrom_set {B : Nat} {X : World} (p : Addr) (u : Value) (hp : p.block < B) : KeepsFrom B X (X.setCell p u) :=
  ⟨by simp [World.setCell], fun k o hB hk _ => (Below.heap_setCell _ _ _ _ (by omega)).trans hk⟩
theorem kq_but2 {bt bb B1 B2 : Nat} {X Y : World} (h : But2 bt bb X Y) (h1 : ∀ j, X.cell? ⟨bt, j, none⟩ = none) (h2 : ∀ j, X.cell? ⟨bb, j, none⟩ = none) : Kq B1 B2 X Y := by
  refine ⟨h.size, fun a u ha _ _ => ?_⟩
  have hs := World.cell?_spot ha
  obtain ⟨ab, ao, asp⟩ := a
  simp only at hs
  subst hs
  have hlt := World.block_lt_of_cell? _ _ ha
  refine (h.cell (p := ⟨ab, ao, none⟩) hlt (fun e => ?_) (fun e => ?_)).trans ha
  · simp only at e; subst e; rw [h1] at ha; cases ha
  · simp only at e; subst e; rw [h2] at ha; cases ha
theorem kq_set {B1 B2 : Nat} {X : World} (p : Addr) (u : Value) (hp : p.block = B1 ∨ p.block = B2) : Kq B1 B2 X (X.setCell p u) := by
  refine ⟨by simp [World.setCell], fun a v ha h1 h2 => ?_⟩
  rw [cell_set (p := p) (q := a) (fun e => by omega)]; exact ha
theorem two_none {W : World} {bt bb : Nat} {es : List (Int × Int)} (h : Two W bt bb es) : (∀ j, W.cell? ⟨bt, j, none⟩ = none) ∧ (∀ j, W.cell? ⟨bb, j, none⟩ = none) :=
  ⟨fun j => by simp [World.cell?, h.th], fun j => by simp [World.cell?, h.bk]⟩

/-- the memory between two operations of a round -/
structure Mid (w : World) (b0 : Nat) (fv : Value) (s : ByteArray) (L : List UInt8) (k : Nat) (Bx : Nat) (x : Pc) (bt bb : Nat) (W : World) (e : List (Int × Int)) (w' : World) : Prop where
  inv : Inv w b0 fv s L k w'
  box : w'.heap[Bx]? = some (.cells #[.int .i64 (x.sz : Nat), .bool x.nm, .int .i64 x.ad, .int .i64 x.po] 37 (0, 0))
  two : Two w' bt bb e
  but : But2 bt bb W w'

theorem but2_set {bt bb : Nat} {w X : World} (h : But2 bt bb w X) (p : Addr) (u : Value) (hp : w.heap.size ≤ p.block) : But2 bt bb w (X.setCell p u) :=
  ⟨h.os, h.tape, h.output, by simpa [World.setCell] using h.size, fun k hk h1 h2 => (Below.heap_setCell _ _ _ _ (by omega)).trans (h.block k hk h1 h2)⟩
theorem two_set {W : World} {bt bb : Nat} {es : List (Int × Int)} (h : Two W bt bb es) (p : Addr) (u : Value) (h1 : bt ≠ p.block) (h2 : bb ≠ p.block) : Two (W.setCell p u) bt bb es :=
  ⟨(Below.heap_setCell _ _ _ _ (by omega)).trans h.th, (Below.heap_setCell _ _ _ _ (by omega)).trans h.bk, h.ne⟩


set_option maxRecDepth 8000 in
set_option maxHeartbeats 8000000 in
theorem in_in (n : Nat) (hn : 9 ≤ n) (s : ByteArray) (w : World) (bt bb : Nat) (es : List (Int × Int)) (ht : Two w bt bb es) (hg : GoodE es) (herr : Errs w) :
    CallsIn Fence.wide n Tryd.prog 15 #[.string s, .func (.func 16) #[prtV bt bb] #[]] w fun e W' =>
      ∃ T, e = .returned (.string T) ∧ T.data.toList = inP es (pieL s.data.toList) s.data.toList ∧ Two W' bt bb es ∧ But2 bt bb w W' := by
  have h1 : 1 ≤ n := by omega
  obtain ⟨g1, g2⟩ := errs_lt herr
  have hlt := ht.lt
  refine callsIn_of_wp_marks Tryd.func15 rfl trivial ?_ rfl
  simp only [Tryd.ntmps15, List.size_toArray, List.length_cons, List.length_nil, Nat.reduceAdd, Nat.reduceSub, Array.replicate_succ, Array.replicate_zero, List.push_toArray, List.append_toArray, List.nil_append, List.cons_append]
  gi_wp2_with fail
  refine ⟨trivial, ?_⟩
  refine (of_in _ s _).mono ?_
  rintro e w1 ⟨rfl, rfl⟩
  gi_wp2
  have x0 := ((((Boxed.new w 9 (.string s)).alloc (.cells #[.func (.func 16) #[prtV bt bb] #[]] 53)).alloc (.cells #[.string ⟨#[]⟩] 9)).alloc (.cells #[.int .i64 0] 3)).alloc (.cells #[.string s] 9)
  have x1 := (((Boxed.new (w.alloc (.cells #[.string s] 9)) 53 (.func (.func 16) #[prtV bt bb] #[])).alloc (.cells #[.string ⟨#[]⟩] 9)).alloc (.cells #[.int .i64 0] 3)).alloc (.cells #[.string s] 9)
  have x2 := ((Boxed.new ((w.alloc (.cells #[.string s] 9)).alloc (.cells #[.func (.func 16) #[prtV bt bb] #[]] 53)) 9 (.string ⟨#[]⟩)).alloc (.cells #[.int .i64 0] 3)).alloc (.cells #[.string s] 9)
  have x3 := (Boxed.new (((w.alloc (.cells #[.string s] 9)).alloc (.cells #[.func (.func 16) #[prtV bt bb] #[]] 53)).alloc (.cells #[.string ⟨#[]⟩] 9)) 3 (.int .i64 0)).alloc (.cells #[.string s] 9)
  have x4 := Boxed.new ((((w.alloc (.cells #[.string s] 9)).alloc (.cells #[.func (.func 16) #[prtV bt bb] #[]] 53)).alloc (.cells #[.string ⟨#[]⟩] 9)).alloc (.cells #[.int .i64 0] 3)) 9 (.string s)
  have hB0 : Below w.heap.size w (((((w.alloc (.cells #[.string s] 9)).alloc (.cells #[.func (.func 16) #[prtV bt bb] #[]] 53)).alloc (.cells #[.string ⟨#[]⟩] 9)).alloc (.cells #[.int .i64 0] 3)).alloc (.cells #[.string s] 9)) :=
    (((((Below.refl _ w).alloc (Nat.le_refl _) _).alloc (by simp) _).alloc (by simp; omega) _).alloc (by simp; omega) _).alloc (by simp; omega) _
  have hsz : (((((w.alloc (.cells #[.string s] 9)).alloc (.cells #[.func (.func 16) #[prtV bt bb] #[]] 53)).alloc (.cells #[.string ⟨#[]⟩] 9)).alloc (.cells #[.int .i64 0] 3)).alloc (.cells #[.string s] 9)).heap.size = w.heap.size + 1 + 1 + 1 + 1 + 1 := by simp
  simp only [World.size_alloc] at x1 x2 x3 x4
  obtain ⟨W0, hW0⟩ : ∃ W0, ((((w.alloc (.cells #[.string s] 9)).alloc (.cells #[.func (.func 16) #[prtV bt bb] #[]] 53)).alloc (.cells #[.string ⟨#[]⟩] 9)).alloc (.cells #[.int .i64 0] 3)).alloc (.cells #[.string s] 9) = W0 := ⟨_, rfl⟩
  rw [hW0] at x0 x1 x2 x3 x4 hB0 hsz ⊢
  clear hW0
  have hOwn : OwnFrom W0.heap.size (fun (pre : List Pc) W => Inv w w.heap.size (.func (.func 16) #[prtV bt bb] #[]) s (inP es pre s.data.toList) (szs pre) W ∧ Two W bt bb es ∧ But2 bt bb w W) := by
    rintro pre X Y row ⟨i1, i2, i3⟩ hgr hr
    have kp : ∀ k, k < W0.heap.size → k < X.heap.size → Y.heap[k]? = X.heap[k]? := fun k h0 hx => hgr.block k hx fun e => by have := (hr k e.symm).1; omega
    refine ⟨i1.own (B := W0.heap.size) (by omega) hgr (fun r e => (hr r e).1), ⟨(kp _ (by omega) i2.lt.1).trans i2.th, (kp _ (by omega) i2.lt.2).trans i2.bk, i2.ne⟩, ⟨hgr.os.trans i3.os, hgr.tape.trans i3.tape, hgr.output.trans i3.output, Nat.le_trans i3.size hgr.size, fun k hk q1 q2 => (kp k (by omega) (Nat.lt_of_lt_of_le hk i3.size)).trans (i3.block k hk q1 q2)⟩⟩
  refine range_list (α := Pc) h1 (gf := 42) (lb := #[.pointer (some ⟨w.heap.size + 1 + 1 + 1 + 1, 0, none⟩)]) rfl (enters_of Tryd.func42 (by kernel_rfl) rfl)
    (known (n - 1) (w.heap.size + 1 + 1 + 1 + 1) (w.heap.size + 1 + 1) (w.heap.size + 1 + 1 + 1) s W0 x4.cell (herr.below hB0) (by omega) (by omega) (by omega) (by omega) (by omega) (by omega) (by omega) (by omega))
    (fun h k => Kq.trans h k) (fun W l o o' _ ho hc => kq_putObj W l o o' ho hc) (Below.refl _ _) (fun _ => rfl)
    (fun pre W => Inv w w.heap.size (.func (.func 16) #[prtV bt bb] #[]) s (inP es pre s.data.toList) (szs pre) W ∧ Two W bt bb es ∧ But2 bt bb w W)
    hOwn
    ⟨⟨x0, x1, ⟨_, x2, rfl⟩, x3, by omega⟩, ht.below hB0, But2.ofBelow hB0⟩
    (fun x a' W => ∃ Bx, W0.heap.size ≤ Bx ∧ W.heap[Bx]? = some (.cells #[.int .i64 (x.sz : Nat), .bool x.nm, .int .i64 x.ad, .int .i64 x.po] 37 (0, 0)) ∧ a' = { tmps := #[.string s, .func (.func 16) #[prtV bt bb] #[], .pointer (some ⟨w.heap.size, 0, none⟩), .pointer (some ⟨w.heap.size + 1, 0, none⟩), .string ⟨#[]⟩, .pointer (some ⟨w.heap.size + 1 + 1, 0, none⟩), .pointer (some ⟨w.heap.size + 1 + 1 + 1, 0, none⟩), .pointer (some ⟨Bx, 0, none⟩), .string s, .func (.func 42) #[] #[.pointer (some ⟨w.heap.size + 1 + 1 + 1 + 1, 0, none⟩)], pcV x, undef, undef, undef, undef, undef, undef, undef, undef, undef, undef, undef, undef, undef, undef, undef, undef, undef], defers := [] })
    (fun x a' _ X Y row hs hgr hr => by
      obtain ⟨Bx, h0, h2, h3⟩ := hs
      refine ⟨Bx, h0, (hgr.block Bx (Array.getElem?_eq_some_iff.1 h2).1 fun e => ?_).trans h2, h3⟩
      obtain ⟨_, o, ho, hc⟩ := hr Bx e.symm
      rw [h2] at ho; cases ho; cases hc)
    ?assign ?body ?done
  case assign =>
    intro l pre x W C hpre hi hC
    have hz : W0.heap.size ≤ W.heap.size := by have := hi.1.x4; omega
    gi_wp2
    exact hC _ _ ((KeepsOthers.alloc _ _).from _) (Kq.below ((Below.refl _ W).alloc (Nat.le_refl _) _)) (hOwn.alloc _ hi) ⟨W.heap.size, hz, World.alloc_heap_new W _, rfl⟩
  case body =>
    rintro l pre x a' W hpre hl ⟨hi, h2, hb2⟩ ⟨Bx, hBx, hX, rfl⟩
    obtain ⟨hin, hok⟩ := pie_in s pre x hpre
    have hsb : s.size ≤ 40 := by have := (ok_parts _ hok).1; rw [lenL] at this; exact this
    obtain ⟨S, q2, q2'⟩ := hi.x2
    have hpl := pre_len s pre x hpre
    have hSz : S.size ≤ 300 := by
      have := inP_len es hg pre s.data.toList
      rw [← q2', lenL, lenL] at this; omega
    have k0 := hi.x0.cell
    have k1 := hi.x1.cell
    have k2 := q2.cell
    have k3 := hi.x3.cell
    have f2 := q2.frozen
    have f3 := hi.x3.frozen
    have y0 : W.cell? ⟨Bx, 0, none⟩ = some (.int .i64 (x.sz : Nat)) := by simp [World.cell?, hX]
    have y1 : W.cell? ⟨Bx, 1, none⟩ = some (.bool x.nm) := by simp [World.cell?, hX]
    have y2 : W.cell? ⟨Bx, 2, none⟩ = some (.int .i64 x.ad) := by simp [World.cell?, hX]
    have y3 : W.cell? ⟨Bx, 3, none⟩ = some (.int .i64 x.po) := by simp [World.cell?, hX]
    have hgd := hg
    have hwr : IntKind.i64.wrap (((szs pre : Nat) : Int) + ((x.sz : Nat) : Int)) = ((szs pre + x.sz : Nat) : Int) := by simp [IntKind.wrap, IntKind.bits, IntKind.signed]; omega
    have b0 : ((szs pre : Nat) : Int) ≤ ((szs pre + x.sz : Nat) : Int) := by omega
    have b1 : ((szs pre + x.sz : Nat) : Int) ≤ (s.size : Int) := by omega
    have b3 : ((szs pre : Nat) : Int) ≤ (s.size : Int) := by omega
    have hmix : Tryd.prog.follows .mixedOrders = true := by kernel_rfl
    have hn2 : 1 ≤ n - 1 - 1 := by omega
    have hBn : Bx ≠ w.heap.size + 1 + 1 ∧ Bx ≠ w.heap.size + 1 + 1 + 1 := by omega
    obtain ⟨Tl, hq⟩ : ∃ q, goI es x (s.extract (szs pre) (szs pre + x.sz)).data.toList = q := ⟨_, rfl⟩
    obtain ⟨es2, hes2⟩ : ∃ e2, e2 = es := ⟨_, rfl⟩
    obtain ⟨T, hT⟩ : ∃ T : ByteArray, T.data.toList = Tl := ⟨⟨Tl.toArray⟩, by simp⟩
    have hTz : T.size ≤ 100 := by
      have h1 := goI_len _ hgd x (s.extract (szs pre) (szs pre + x.sz)).data.toList
      rw [hq, lenL, ByteArray.size_extract] at h1
      rw [← lenL, hT]; omega
    have HQ := (show Hid _ from hq)
    have HE2 := (show Hid _ from hes2)
    have HT := (show Hid _ from hT)
    have HG := (show Hid _ from hgd)
    have HS := (show Hid _ from q2')
    have HI := (show Hid _ from hi)
    have H2 := (show Hid _ from h2)
    have HB := (show Hid _ from hb2)
    have HP := (show Hid _ from hpre)
    have hM0 : Mid w w.heap.size (.func (.func 16) #[prtV bt bb] #[]) s (inP es pre s.data.toList) (szs pre) Bx x bt bb W es W.drew :=
      ⟨hi.but2 hlt.1 hlt.2 (But2.ofBelow (Below.refl _ W).drew), hX, h2.below (Below.refl _ W).drew, But2.ofBelow (Below.refl _ W).drew⟩
    have H0 := (show Hid _ from hM0)
    clear hq hT hgd hes2 q2' hi h2 hb2 hpre hM0 hX hOwn x0 x1 x2 x3 x4 hB0 herr ht hok q2 k0 k1 k2 k3 f2 f3 y0 y1 y2 y3
    gi_wp2_with fail
    refine wpIn_region_any hmix ?_
    refine Rg.any_inv (I := fun l a' w' => l.size = 13 ∧ ∃ t : Nat → Value, a' = { tmps := #[.string s, .func (.func 16) #[prtV bt bb] #[], .pointer (some ⟨w.heap.size, 0, none⟩), .pointer (some ⟨w.heap.size + 1, 0, none⟩), .string ⟨#[]⟩, .pointer (some ⟨w.heap.size + 1 + 1, 0, none⟩), .pointer (some ⟨w.heap.size + 1 + 1 + 1, 0, none⟩), .pointer (some ⟨Bx, 0, none⟩), .string s, .func (.func 42) #[] #[.pointer (some ⟨w.heap.size + 1 + 1 + 1 + 1, 0, none⟩)], pcV x, t 0, t 1, t 2, t 3, t 4, t 5, t 6, t 7, t 8, t 9, t 10, t 11, undef, undef, undef, undef, undef], defers := [] } ∧
        Rg.Vals l (fun j => [Value.string S, .func (.func 16) #[prtV bt bb] #[], pcV x, .string s, .int .i64 (szs pre : Nat), .int .i64 (szs pre : Nat), .pointer (some ⟨Bx, 0, none⟩), .int .i64 (x.sz : Nat), .int .i64 ((szs pre + x.sz : Nat) : Int), .string (s.extract (szs pre) (szs pre + x.sz)), .string T, .string (S ++ T)].getD j undef) t ∧
        (l.getD 12 false = true → ∀ j, j < 12 → l.getD j false = true) ∧
        (if l.getD 12 false = true then ∃ w2, Mid w w.heap.size (.func (.func 16) #[prtV bt bb] #[]) s (inP es pre s.data.toList) (szs pre) Bx x bt bb W es2 w2 ∧ w' = w2.setCell ⟨w.heap.size + 1 + 1, 0, none⟩ (.string (S ++ T)) else Mid w w.heap.size (.func (.func 16) #[prtV bt bb] #[]) s (inP es pre s.data.toList) (szs pre) Bx x bt bb W (if l.getD 10 false = true then es2 else es) w'))
      ?sz ?low ?step ?fin _ _ _ _ ?start (Rg.left_all _)
    case sz => exact fun l a' w' h => h.1
    case start => exact ⟨by simp, fun _ => undef, rfl, Rg.vals_none _ _ _, (fun h => by rw [Rg.rep_none] at h; cases h), by rw [Rg.rep_none, Rg.rep_none]; exact H0.out⟩
    case low => exact Rg.low_of (by kernel_rfl)
    case step =>
      rintro l a' w' i ⟨hsz, t, rfl, hv, h12, hw⟩ hi
      obtain ⟨h0, o, ho, hd⟩ := mem_ready.1 hi
      have hi13 : i < 13 := (Array.getElem?_eq_some_iff.1 ho).1
      have hnl := Rg.not_listed h0
      have hb12 : i ≠ 12 → l.getD 12 false = false := fun hne => by
        cases q : l.getD 12 false
        · rfl
        · have := h12 q i (by omega)
          rw [hnl] at this; cases this
      have hc : i = 0 ∨ i = 1 ∨ i = 2 ∨ i = 3 ∨ i = 4 ∨ i = 5 ∨ i = 6 ∨ i = 7 ∨ i = 8 ∨ i = 9 ∨ i = 10 ∨ i = 11 ∨ i = 12 := by omega
      rcases hc with rfl | rfl | rfl | rfl | rfl | rfl | rfl | rfl | rfl | rfl | rfl | rfl | rfl
      · have q12 := hb12 (by omega)
        rw [q12] at hw
        have hM : Mid w w.heap.size (.func (.func 16) #[prtV bt bb] #[]) s (inP es pre s.data.toList) (szs pre) Bx x bt bb W (if l.getD 10 false = true then es2 else es) w' := hw
        obtain ⟨S', r2, r2'⟩ := hM.inv.x2
        have hSS : S' = S := ba_ext (r2'.trans HS.out.symm)
        rw [hSS] at r2
        have m2 := r2.cell
        clear r2 r2' hSS
        have HK := (show Hid _ from hM)
        clear hM hw
        refine wpOpIn_step rfl fun K hK => ?_
        go_simp
        refine hK _ _ ⟨by simp [hsz], fun j => if j = 0 then Value.string S else t j, rfl, hv.put 0 _ rfl, Rg.other (D := fun b10 b12 w' => if b12 = true then ∃ w2, Mid w w.heap.size (.func (.func 16) #[prtV bt bb] #[]) s (inP es pre s.data.toList) (szs pre) Bx x bt bb W es2 w2 ∧ w' = w2.setCell ⟨w.heap.size + 1 + 1, 0, none⟩ (.string (S ++ T)) else Mid w w.heap.size (.func (.func 16) #[prtV bt bb] #[]) s (inP es pre s.data.toList) (szs pre) Bx x bt bb W (if b10 = true then es2 else es) w') (by omega) (by omega) q12 (by rw [q12]; exact HK.out)⟩
      · have q12 := hb12 (by omega)
        rw [q12] at hw
        have hM : Mid w w.heap.size (.func (.func 16) #[prtV bt bb] #[]) s (inP es pre s.data.toList) (szs pre) Bx x bt bb W (if l.getD 10 false = true then es2 else es) w' := hw
        have m1 := hM.inv.x1.cell
        have HK := (show Hid _ from hM)
        clear hM hw
        refine wpOpIn_step rfl fun K hK => ?_
        go_simp
        refine hK _ _ ⟨by simp [hsz], fun j => if j = 1 then Value.func (.func 16) #[prtV bt bb] #[] else t j, rfl, hv.put 1 _ rfl, Rg.other (D := fun b10 b12 w' => if b12 = true then ∃ w2, Mid w w.heap.size (.func (.func 16) #[prtV bt bb] #[]) s (inP es pre s.data.toList) (szs pre) Bx x bt bb W es2 w2 ∧ w' = w2.setCell ⟨w.heap.size + 1 + 1, 0, none⟩ (.string (S ++ T)) else Mid w w.heap.size (.func (.func 16) #[prtV bt bb] #[]) s (inP es pre s.data.toList) (szs pre) Bx x bt bb W (if b10 = true then es2 else es) w') (by omega) (by omega) q12 (by rw [q12]; exact HK.out)⟩
      · have q12 := hb12 (by omega)
        rw [q12] at hw
        have hM : Mid w w.heap.size (.func (.func 16) #[prtV bt bb] #[]) s (inP es pre s.data.toList) (szs pre) Bx x bt bb W (if l.getD 10 false = true then es2 else es) w' := hw
        have y0 : w'.cell? ⟨Bx, 0, none⟩ = some (.int .i64 (x.sz : Nat)) := by simp [World.cell?, hM.box]
        have y1 : w'.cell? ⟨Bx, 1, none⟩ = some (.bool x.nm) := by simp [World.cell?, hM.box]
        have y2 : w'.cell? ⟨Bx, 2, none⟩ = some (.int .i64 x.ad) := by simp [World.cell?, hM.box]
        have y3 : w'.cell? ⟨Bx, 3, none⟩ = some (.int .i64 x.po) := by simp [World.cell?, hM.box]
        have HK := (show Hid _ from hM)
        clear hM hw
        refine wpOpIn_step rfl fun K hK => ?_
        go_simp
        refine hK _ _ ⟨by simp [hsz], fun j => if j = 2 then pcV x else t j, rfl, hv.put 2 _ rfl, Rg.other (D := fun b10 b12 w' => if b12 = true then ∃ w2, Mid w w.heap.size (.func (.func 16) #[prtV bt bb] #[]) s (inP es pre s.data.toList) (szs pre) Bx x bt bb W es2 w2 ∧ w' = w2.setCell ⟨w.heap.size + 1 + 1, 0, none⟩ (.string (S ++ T)) else Mid w w.heap.size (.func (.func 16) #[prtV bt bb] #[]) s (inP es pre s.data.toList) (szs pre) Bx x bt bb W (if b10 = true then es2 else es) w') (by omega) (by omega) q12 (by rw [q12]; exact HK.out)⟩
      · have q12 := hb12 (by omega)
        rw [q12] at hw
        have hM : Mid w w.heap.size (.func (.func 16) #[prtV bt bb] #[]) s (inP es pre s.data.toList) (szs pre) Bx x bt bb W (if l.getD 10 false = true then es2 else es) w' := hw
        have m0 := hM.inv.x0.cell
        have HK := (show Hid _ from hM)
        clear hM hw
        refine wpOpIn_step rfl fun K hK => ?_
        go_simp
        refine hK _ _ ⟨by simp [hsz], fun j => if j = 3 then Value.string s else t j, rfl, hv.put 3 _ rfl, Rg.other (D := fun b10 b12 w' => if b12 = true then ∃ w2, Mid w w.heap.size (.func (.func 16) #[prtV bt bb] #[]) s (inP es pre s.data.toList) (szs pre) Bx x bt bb W es2 w2 ∧ w' = w2.setCell ⟨w.heap.size + 1 + 1, 0, none⟩ (.string (S ++ T)) else Mid w w.heap.size (.func (.func 16) #[prtV bt bb] #[]) s (inP es pre s.data.toList) (szs pre) Bx x bt bb W (if b10 = true then es2 else es) w') (by omega) (by omega) q12 (by rw [q12]; exact HK.out)⟩
      · have q12 := hb12 (by omega)
        rw [q12] at hw
        have hM : Mid w w.heap.size (.func (.func 16) #[prtV bt bb] #[]) s (inP es pre s.data.toList) (szs pre) Bx x bt bb W (if l.getD 10 false = true then es2 else es) w' := hw
        have m3 := hM.inv.x3.cell
        have HK := (show Hid _ from hM)
        clear hM hw
        refine wpOpIn_step rfl fun K hK => ?_
        go_simp
        refine hK _ _ ⟨by simp [hsz], fun j => if j = 4 then Value.int .i64 (szs pre : Nat) else t j, rfl, hv.put 4 _ rfl, Rg.other (D := fun b10 b12 w' => if b12 = true then ∃ w2, Mid w w.heap.size (.func (.func 16) #[prtV bt bb] #[]) s (inP es pre s.data.toList) (szs pre) Bx x bt bb W es2 w2 ∧ w' = w2.setCell ⟨w.heap.size + 1 + 1, 0, none⟩ (.string (S ++ T)) else Mid w w.heap.size (.func (.func 16) #[prtV bt bb] #[]) s (inP es pre s.data.toList) (szs pre) Bx x bt bb W (if b10 = true then es2 else es) w') (by omega) (by omega) q12 (by rw [q12]; exact HK.out)⟩
      · have q12 := hb12 (by omega)
        rw [q12] at hw
        have hM : Mid w w.heap.size (.func (.func 16) #[prtV bt bb] #[]) s (inP es pre s.data.toList) (szs pre) Bx x bt bb W (if l.getD 10 false = true then es2 else es) w' := hw
        have m3 := hM.inv.x3.cell
        have HK := (show Hid _ from hM)
        clear hM hw
        refine wpOpIn_step rfl fun K hK => ?_
        go_simp
        refine hK _ _ ⟨by simp [hsz], fun j => if j = 5 then Value.int .i64 (szs pre : Nat) else t j, rfl, hv.put 5 _ rfl, Rg.other (D := fun b10 b12 w' => if b12 = true then ∃ w2, Mid w w.heap.size (.func (.func 16) #[prtV bt bb] #[]) s (inP es pre s.data.toList) (szs pre) Bx x bt bb W es2 w2 ∧ w' = w2.setCell ⟨w.heap.size + 1 + 1, 0, none⟩ (.string (S ++ T)) else Mid w w.heap.size (.func (.func 16) #[prtV bt bb] #[]) s (inP es pre s.data.toList) (szs pre) Bx x bt bb W (if b10 = true then es2 else es) w') (by omega) (by omega) q12 (by rw [q12]; exact HK.out)⟩
      · have q12 := hb12 (by omega)
        rw [q12] at hw
        have hM : Mid w w.heap.size (.func (.func 16) #[prtV bt bb] #[]) s (inP es pre s.data.toList) (szs pre) Bx x bt bb W (if l.getD 10 false = true then es2 else es) w' := hw
        have HK := (show Hid _ from hM)
        clear hM hw
        refine wpOpIn_step rfl fun K hK => ?_
        go_simp
        refine hK _ _ ⟨by simp [hsz], fun j => if j = 6 then Value.pointer (some ⟨Bx, 0, none⟩) else t j, rfl, hv.put 6 _ rfl, Rg.other (D := fun b10 b12 w' => if b12 = true then ∃ w2, Mid w w.heap.size (.func (.func 16) #[prtV bt bb] #[]) s (inP es pre s.data.toList) (szs pre) Bx x bt bb W es2 w2 ∧ w' = w2.setCell ⟨w.heap.size + 1 + 1, 0, none⟩ (.string (S ++ T)) else Mid w w.heap.size (.func (.func 16) #[prtV bt bb] #[]) s (inP es pre s.data.toList) (szs pre) Bx x bt bb W (if b10 = true then es2 else es) w') (by omega) (by omega) q12 (by rw [q12]; exact HK.out)⟩
      · have q12 := hb12 (by omega)
        rw [q12] at hw
        have hM : Mid w w.heap.size (.func (.func 16) #[prtV bt bb] #[]) s (inP es pre s.data.toList) (szs pre) Bx x bt bb W (if l.getD 10 false = true then es2 else es) w' := hw
        have y0 : w'.cell? ⟨Bx, 0, none⟩ = some (.int .i64 (x.sz : Nat)) := by simp [World.cell?, hM.box]
        obtain rfl : _ = o := Option.some.inj (show some _ = some o from ho)
        have e6 : t 6 = .pointer (some ⟨Bx, 0, none⟩) := hv 6 (hd { on := 6, ground := .data } (by simp) rfl)
        have HK := (show Hid _ from hM)
        clear hM hw
        refine wpOpIn_step rfl fun K hK => ?_
        go_simp
        refine hK _ _ ⟨by simp [hsz], fun j => if j = 7 then Value.int .i64 (x.sz : Nat) else t j, by simp [e6], hv.put 7 _ rfl, Rg.other (D := fun b10 b12 w' => if b12 = true then ∃ w2, Mid w w.heap.size (.func (.func 16) #[prtV bt bb] #[]) s (inP es pre s.data.toList) (szs pre) Bx x bt bb W es2 w2 ∧ w' = w2.setCell ⟨w.heap.size + 1 + 1, 0, none⟩ (.string (S ++ T)) else Mid w w.heap.size (.func (.func 16) #[prtV bt bb] #[]) s (inP es pre s.data.toList) (szs pre) Bx x bt bb W (if b10 = true then es2 else es) w') (by omega) (by omega) q12 (by rw [q12]; exact HK.out)⟩
      · have q12 := hb12 (by omega)
        rw [q12] at hw
        have hM : Mid w w.heap.size (.func (.func 16) #[prtV bt bb] #[]) s (inP es pre s.data.toList) (szs pre) Bx x bt bb W (if l.getD 10 false = true then es2 else es) w' := hw
        obtain rfl : _ = o := Option.some.inj (show some _ = some o from ho)
        have e5 : t 5 = .int .i64 (szs pre : Nat) := hv 5 (hd { on := 5, ground := .data } (by simp) rfl)
        have e7 : t 7 = .int .i64 (x.sz : Nat) := hv 7 (hd { on := 7, ground := .data } (by simp) rfl)
        have HK := (show Hid _ from hM)
        clear hM hw
        refine wpOpIn_step rfl fun K hK => ?_
        go_simp
        refine hK _ _ ⟨by simp [hsz], fun j => if j = 8 then Value.int .i64 ((szs pre + x.sz : Nat) : Int) else t j, by simp [e5, e7], hv.put 8 _ rfl, Rg.other (D := fun b10 b12 w' => if b12 = true then ∃ w2, Mid w w.heap.size (.func (.func 16) #[prtV bt bb] #[]) s (inP es pre s.data.toList) (szs pre) Bx x bt bb W es2 w2 ∧ w' = w2.setCell ⟨w.heap.size + 1 + 1, 0, none⟩ (.string (S ++ T)) else Mid w w.heap.size (.func (.func 16) #[prtV bt bb] #[]) s (inP es pre s.data.toList) (szs pre) Bx x bt bb W (if b10 = true then es2 else es) w') (by omega) (by omega) q12 (by rw [q12]; exact HK.out)⟩
      · have q12 := hb12 (by omega)
        rw [q12] at hw
        have hM : Mid w w.heap.size (.func (.func 16) #[prtV bt bb] #[]) s (inP es pre s.data.toList) (szs pre) Bx x bt bb W (if l.getD 10 false = true then es2 else es) w' := hw
        obtain rfl : _ = o := Option.some.inj (show some _ = some o from ho)
        have e3 : t 3 = .string s := hv 3 (hd { on := 3, ground := .data } (by simp) rfl)
        have e4 : t 4 = .int .i64 (szs pre : Nat) := hv 4 (hd { on := 4, ground := .data } (by simp) rfl)
        have e8 : t 8 = .int .i64 ((szs pre + x.sz : Nat) : Int) := hv 8 (hd { on := 8, ground := .data } (by simp) rfl)
        have HK := (show Hid _ from hM)
        clear hM hw
        refine wpOpIn_step rfl fun K hK => ?_
        have HKK := (show Hid _ from hK)
        clear hK
        go_simp
        gi_wp2_with fail
        refine HKK.out _ _ ⟨by simp [hsz], fun j => if j = 9 then Value.string (s.extract (szs pre) (szs pre + x.sz)) else t j, by simp [e3, e4, e8], hv.put 9 _ rfl, Rg.other (D := fun b10 b12 w' => if b12 = true then ∃ w2, Mid w w.heap.size (.func (.func 16) #[prtV bt bb] #[]) s (inP es pre s.data.toList) (szs pre) Bx x bt bb W es2 w2 ∧ w' = w2.setCell ⟨w.heap.size + 1 + 1, 0, none⟩ (.string (S ++ T)) else Mid w w.heap.size (.func (.func 16) #[prtV bt bb] #[]) s (inP es pre s.data.toList) (szs pre) Bx x bt bb W (if b10 = true then es2 else es) w') (by omega) (by omega) q12 (by rw [q12]; exact HK.out)⟩
      · have q12 := hb12 (by omega)
        rw [q12, hnl] at hw
        have hM : Mid w w.heap.size (.func (.func 16) #[prtV bt bb] #[]) s (inP es pre s.data.toList) (szs pre) Bx x bt bb W es w' := hw
        obtain rfl : _ = o := Option.some.inj (show some _ = some o from ho)
        have e1 : t 1 = .func (.func 16) #[prtV bt bb] #[] := hv 1 (hd { on := 1, ground := .data } (by simp) rfl)
        have e2 : t 2 = pcV x := hv 2 (hd { on := 2, ground := .data } (by simp) rfl)
        have e9 : t 9 = .string (s.extract (szs pre) (szs pre + x.sz)) := hv 9 (hd { on := 9, ground := .data } (by simp) rfl)
        have HK := (show Hid _ from hM)
        clear hM hw
        refine wpOpIn_step rfl fun K hK => ?_
        have HKK := (show Hid _ from hK)
        clear hK
        go_simp
        refine ⟨trivial, ?_⟩
        refine (CallsIn.inRound _ (callsIn_wide.2 (in_piece _ bt bb _ HK.out.two HG.out x (s.extract (szs pre) (szs pre + x.sz))))).mono ?_
        rintro e w2 ⟨T', rfl, hT', kb⟩
        rw [HQ.out] at hT'
        have t2 : Two w2 bt bb es2 := by rw [HE2.out]; exact HK.out.two.below kb
        have kk : But2 bt bb w' w2 := But2.ofBelow kb
        obtain rfl : T' = T := ba_ext (hT'.trans HT.out.symm)
        refine HKK.out _ _ ⟨by simp [hsz], fun j => if j = 10 then .string T' else t j, by simp [e1, e2, e9], hv.put 10 _ rfl, ?_, ?_⟩
        · rw [getD_set_ne false (by omega), q12]; intro h; cases h
        · rw [getD_set_ne false (show 10 ≠ 12 by omega), q12, Rg.set_same (by omega)]
          exact ⟨HK.out.inv.but2 hlt.1 hlt.2 kk, (kk.block Bx (Array.getElem?_eq_some_iff.1 HK.out.box).1 (by omega) (by omega)).trans HK.out.box, t2, HK.out.but.trans kk⟩
      · have q12 := hb12 (by omega)
        rw [q12] at hw
        have hM : Mid w w.heap.size (.func (.func 16) #[prtV bt bb] #[]) s (inP es pre s.data.toList) (szs pre) Bx x bt bb W (if l.getD 10 false = true then es2 else es) w' := hw
        obtain rfl : _ = o := Option.some.inj (show some _ = some o from ho)
        have e0 : t 0 = .string S := hv 0 (hd { on := 0, ground := .data } (by simp) rfl)
        have e10 : t 10 = .string T := hv 10 (hd { on := 10, ground := .data } (by simp) rfl)
        have HK := (show Hid _ from hM)
        clear hM hw
        refine wpOpIn_step rfl fun K hK => ?_
        have HKK := (show Hid _ from hK)
        clear hK
        go_simp
        gi_wp2_with fail
        refine HKK.out _ _ ⟨by simp [hsz], fun j => if j = 11 then Value.string (S ++ T) else t j, by simp [e0, e10], hv.put 11 _ rfl, Rg.other (D := fun b10 b12 w' => if b12 = true then ∃ w2, Mid w w.heap.size (.func (.func 16) #[prtV bt bb] #[]) s (inP es pre s.data.toList) (szs pre) Bx x bt bb W es2 w2 ∧ w' = w2.setCell ⟨w.heap.size + 1 + 1, 0, none⟩ (.string (S ++ T)) else Mid w w.heap.size (.func (.func 16) #[prtV bt bb] #[]) s (inP es pre s.data.toList) (szs pre) Bx x bt bb W (if b10 = true then es2 else es) w') (by omega) (by omega) q12 (by rw [q12]; exact HK.out)⟩
      · have hsome : some _ = some o := ho
        obtain rfl : _ = o := Option.some.inj hsome
        have hall : ∀ j, j < 12 → l.getD j false = true := by
          intro j hj
          have hc : j = 0 ∨ j = 1 ∨ j = 2 ∨ j = 3 ∨ j = 4 ∨ j = 5 ∨ j = 6 ∨ j = 7 ∨ j = 8 ∨ j = 9 ∨ j = 10 ∨ j = 11 := by omega
          rcases hc with rfl | rfl | rfl | rfl | rfl | rfl | rfl | rfl | rfl | rfl | rfl | rfl
          all_goals exact hd { on := _, ground := .phase } (by simp) rfl
        have e11 : t 11 = .string (S ++ T) := hv 11 (hall 11 (by omega))
        rw [hnl, hall 10 (by omega)] at hw
        have hM : Mid w w.heap.size (.func (.func 16) #[prtV bt bb] #[]) s (inP es pre s.data.toList) (szs pre) Bx x bt bb W es2 w' := hw
        obtain ⟨S', r2, r2'⟩ := hM.inv.x2
        have m2 := r2.cell
        have n2 := r2.frozen
        have HK := (show Hid _ from hM)
        have HA := (show Hid _ from hall)
        clear hM hw hall r2 r2'
        refine wpOpIn_step rfl fun K hK => ?_
        have HKK := (show Hid _ from hK)
        clear hK
        go_simp
        refine HKK.out _ _ ⟨by simp [hsz], fun j => if j = 12 then undef else t j, by simp [e11], hv.put 12 _ rfl, ?_, ?_⟩
        · intro _ j hj
          rw [getD_set_ne false (by omega)]; exact HA.out j hj
        · rw [Rg.set_same (by omega)]
          exact ⟨w', HK.out, rfl⟩
    case fin =>
      rintro l a' w' ⟨hsz, t, rfl, hv, h12, hw⟩ hall
      have q12 : l.getD 12 false = true := hall 12 (by simp)
      rw [q12] at hw
      obtain ⟨w2, hM, rfl⟩ : ∃ w2, Mid w w.heap.size (.func (.func 16) #[prtV bt bb] #[]) s (inP es pre s.data.toList) (szs pre) Bx x bt bb W es2 w2 ∧ w' = w2.setCell ⟨w.heap.size + 1 + 1, 0, none⟩ (.string (S ++ T)) := hw
      have m3 := hM.inv.x3.cell
      have n3 := hM.inv.x3.frozen
      have y0 : w2.cell? ⟨Bx, 0, none⟩ = some (.int .i64 (x.sz : Nat)) := by simp [World.cell?, hM.box]
      have b4 : ((szs pre : Nat) : Int) + ((x.sz : Nat) : Int) ≤ 40 := by omega
      have HK := (show Hid _ from hM)
      clear hM hv h12 hall q12 hwr
      gi_wp2
      have hq2 : goI es x ((s.data.toList.drop (szs pre)).take x.sz) = Tl := by
        have := HQ.out
        rwa [ext_to, show szs pre + x.sz - szs pre = x.sz by omega] at this
      have hsn := inP_snoc es pre x s.data.toList
      rw [hq2] at hsn
      obtain ⟨S', r2, r2'⟩ := HK.out.inv.x2
      refine ⟨((keepsFrom_but2 HK.out.but (by omega) (by omega)).trans (keepsFrom_set _ _ (by simp; omega))).trans (keepsFrom_set _ _ (by simp; omega)), ((kq_but2 HK.out.but (two_none H2.out).1 (two_none H2.out).2).trans (kq_set ⟨w.heap.size + 1 + 1, 0, none⟩ _ (.inl rfl))).trans (kq_set ⟨w.heap.size + 1 + 1 + 1, 0, none⟩ _ (.inr rfl)), ⟨?_, ?_, ?_, ?_, ?_⟩, ?_, ?_⟩
      · exact (HK.out.inv.x0.other (by omega) _).other (by omega) _
      · exact (HK.out.inv.x1.other (by omega) _).other (by omega) _
      · refine ⟨S ++ T, (r2.set _).other (by omega) _, ?_⟩
        rw [hsn, ByteArray.data_append, Array.toList_append, HS.out, HT.out]
      · have q3 := (HK.out.inv.x3.other (show w.heap.size + 1 + 1 + 1 ≠ w.heap.size + 1 + 1 by omega) (.string (S ++ T))).set (.int .i64 (((szs pre : Nat) : Int) + ((x.sz : Nat) : Int)))
        rw [szs_snoc]
        exact q3
      · have := HK.out.inv.x4
        simpa [World.setCell] using this
      · rw [← HE2.out]
        exact two_set (two_set HK.out.two _ _ (by simp; omega) (by simp; omega)) _ _ (by simp; omega) (by simp; omega)
      · exact but2_set (but2_set (HB.out.trans HK.out.but) _ _ (by simp; omega)) _ _ (by simp; omega)
  case done =>
    rintro D W hD ⟨hi, h2, hb2⟩ hK
    obtain ⟨S, q2, q2'⟩ := hi.x2
    have hc := q2.cell
    gi_wp2
    refine ⟨by simp, .inl ⟨_, _, rfl, run_takeDeferred hK, ?_⟩⟩
    refine ⟨_, results_tmp rfl _ _ _, S, rfl, q2', ?_, ?_⟩
    · exact ⟨(World.putObj_heap_other (by omega)).trans h2.th, (World.putObj_heap_other (by omega)).trans h2.bk, h2.ne⟩
    · exact ⟨hb2.os, hb2.tape, hb2.output, by simpa using hb2.size, fun k hk q1 q2 => (World.putObj_heap_other (by omega)).trans (hb2.block k hk q1 q2)⟩
end Go.Proofs.YtcoengedikcneayDoor.Wa

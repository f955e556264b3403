/- Walks: pieces, each with its bytes, are told by the program's second iterator. -/
import Derived.Test.YtlejldaennlfaayDoorWaP
namespace Go.Proofs.YtlejldaennlfaayDoor.Wp
open Go.RowKit Go.Shelf Go.Proofs.YtlejldaennlfaayDoor.Kit Go.Proofs.YtlejldaennlfaayDoor.Tx Go.Proofs.YtlejldaennlfaayDoor.Nm Go.Proofs.YtlejldaennlfaayDoor.App Go.Proofs.YtlejldaennlfaayDoor.It Go.Proofs.YtlejldaennlfaayDoor.It4 Go.Proofs.YtlejldaennlfaayDoor.Sq Go.Proofs.YtlejldaennlfaayDoor.Pcs Go.Proofs.YtlejldaennlfaayDoor.Wa
open Go.Proofs.YtlejldaennlfaayDoor.Read (Errs ErrCell)
attribute [local go_sem] Oper.semAt_some
set_option linter.unusedSimpArgs false
set_option linter.unusedVariables false

/-- what is told of a piece -/
def wpV (x : Pc × ByteArray) : Array Value := #[pcV x.1, .string x.2]
theorem keepsFrom_set {B : Nat} {X : World} (p : Addr) (u : Value) (hp : p.block < B) : KeepsFrom B X (X.setCell p u) :=
  ⟨by simp [World.setCell], fun k o hB hk _ => (Below.heap_setCell _ _ _ _ (by omega)).trans hk⟩
/-- blocks that the iterator makes do not turn -/
structure NewX (X : Nat → TypeId → Prop) (B : Nat) : Prop where
  pc : ∀ b, B ≤ b → ¬ X b 37
  int : ∀ b, B ≤ b → ¬ X b 3
  str : ∀ b, B ≤ b → ¬ X b 9
  yld : ∀ b, B ≤ b → ¬ X b 78
theorem NewX.up {X : Nat → TypeId → Prop} {B B' : Nat} (h : NewX X B) (hB : B ≤ B') : NewX X B' :=
  ⟨fun b hb => h.pc b (by omega), fun b hb => h.int b (by omega), fun b hb => h.str b (by omega), fun b hb => h.yld b (by omega)⟩
/-- ahead of the call, and behind it -/
def Wh (b : Bool) (C : World → Prop) (Wd w' : World) : Prop := if b = true then C w' else w' = Wd
theorem wh_no {C : World → Prop} {Wd w' : World} : Wh false C Wd w' ↔ w' = Wd := by simp [Wh]
theorem wh_yes {C : World → Prop} {Wd w' : World} : Wh true C Wd w' ↔ C w' := by simp [Wh]
set_option maxRecDepth 8000 in
set_option maxHeartbeats 8000000 in
theorem told (n Bt : Nat) (h1 : 1 ≤ n) (X : Nat → TypeId → Prop) (s : ByteArray) (w : World) (hBt : Boxed w Bt 9 (.string s)) (herr : Errs w) (hXt : ¬ X Bt 9) (hXn : NewX X w.heap.size) (hXe : NoErrs X) :
    SeqL n Tryd.prog 42 #[.pointer (some ⟨Bt, 0, none⟩)] wpV (Kq X) (cutL s 0 (pieL s.data.toList)) w := by
  intro l J W hW hJ hY h0
  have hb0 : Boxed W Bt 9 (.string s) := (hW.block Bt hBt.lt).trans hBt
  have hc0 := hb0.cell
  have hltB := hb0.lt
  have hXn := hXn.up hW.size
  have herr := herr.below hW
  obtain ⟨g1, g2⟩ := errs_lt herr
  clear hBt hW
  refine callsIn_of_wp_marks Tryd.func42 rfl trivial ?_ rfl
  simp only [Tryd.ntmps42, List.size_toArray, List.length_cons, List.length_nil, Nat.reduceAdd, Nat.reduceSub, Array.replicate_succ, Array.replicate_zero, List.push_toArray, List.append_toArray, List.nil_append, List.cons_append]
  gi_wp2_with fail
  refine ⟨trivial, ?_⟩
  refine (of_in _ s _).mono ?_
  rintro e w1 ⟨rfl, rfl⟩
  gi_wp2
  have x0 := ((Boxed.new W 78 (.func (.yield l) #[] #[])).alloc (.cells #[.int .i64 0] 3)).alloc (.cells #[.string s] 9)
  have x1 := (Boxed.new (W.alloc (.cells #[.func (.yield l) #[] #[]] 78)) 3 (.int .i64 0)).alloc (.cells #[.string s] 9)
  have x2 := Boxed.new ((W.alloc (.cells #[.func (.yield l) #[] #[]] 78)).alloc (.cells #[.int .i64 0] 3)) 9 (.string s)
  have hB0 : Below W.heap.size W (((W.alloc (.cells #[.func (.yield l) #[] #[]] 78)).alloc (.cells #[.int .i64 0] 3)).alloc (.cells #[.string s] 9)) :=
    (((Below.refl _ W).alloc (Nat.le_refl _) _).alloc (by simp) _).alloc (by simp; omega) _
  have hsz : (((W.alloc (.cells #[.func (.yield l) #[] #[]] 78)).alloc (.cells #[.int .i64 0] 3)).alloc (.cells #[.string s] 9)).heap.size = W.heap.size + 1 + 1 + 1 := by simp
  simp only [World.size_alloc] at x1 x2
  obtain ⟨W0, hW0⟩ : ∃ W0, ((W.alloc (.cells #[.func (.yield l) #[] #[]] 78)).alloc (.cells #[.int .i64 0] 3)).alloc (.cells #[.string s] 9) = W0 := ⟨_, rfl⟩
  rw [hW0] at x0 x1 x2 hB0 hsz ⊢
  clear hW0
  have hOwn : OwnC W0.heap.size (fun (pre : List Pc) U => J (cutL s 0 pre) U ∧ Boxed U W.heap.size 78 (.func (.yield l) #[] #[]) ∧ Boxed U (W.heap.size + 1) 3 (.int .i64 (szs pre : Nat)) ∧ Boxed U Bt 9 (.string s) ∧ Boxed U (W.heap.size + 1 + 1) 9 (.string s)) := by
    rintro pre A B row ⟨i1, i2, i3, i4, i5⟩ hgr hr
    refine ⟨hJ _ A B row i1 hgr fun r e => ⟨by have := (hr r e).1; omega, (hr r e).2⟩, i2.kept hgr fun e => ?_, i3.kept hgr fun e => ?_, i4.kept hgr fun e => ?_, i5.kept hgr fun e => ?_⟩
    all_goals (have := (hr _ e.symm).1; omega)
  refine range_list (α := Pc) h1 (gf := 48) (lb := #[.pointer (some ⟨W.heap.size + 1 + 1, 0, none⟩)]) rfl (enters_of Tryd.func48 (by kernel_rfl) rfl)
    (known (n - 1) (W.heap.size + 1 + 1) (fun b t => X b t ∨ b = W.heap.size + 1) s W0 x2 (herr.below hB0) (fun h => h.elim (hXn.str _ (by omega)) (fun h => by omega)) (fun b hb h => h.elim (hXn.pc b (by omega)) (fun h => by omega)) (fun t => ⟨fun h => h.elim (hXe t).1 (fun h => by omega), fun h => h.elim (hXe t).2 (fun h => by omega)⟩))
    (fun h k => Kq.trans h k) (fun U l o o' _ ho hc => kq_putObj U l o o' ho hc) (Below.refl _ _) (fun _ => rfl)
    (fun pre U => J (cutL s 0 pre) U ∧ Boxed U W.heap.size 78 (.func (.yield l) #[] #[]) ∧ Boxed U (W.heap.size + 1) 3 (.int .i64 (szs pre : Nat)) ∧ Boxed U Bt 9 (.string s) ∧ Boxed U (W.heap.size + 1 + 1) 9 (.string s))
    hOwn
    ⟨ownC_below hJ h0 hB0, x0, x1, (hB0.block Bt hltB).trans hb0, x2⟩
    (fun x a' U => ∃ Bx, W0.heap.size ≤ Bx ∧ U.heap[Bx]? = some (.cells #[.int .i64 (x.sz : Nat), .bool x.nm, .int .i64 x.ad, .int .i64 x.po] 37 (0, 0)) ∧ a' = { tmps := #[.func (.yield l) #[] #[], .pointer (some ⟨Bt, 0, none⟩), .pointer (some ⟨W.heap.size, 0, none⟩), .pointer (some ⟨W.heap.size + 1, 0, none⟩), .pointer (some ⟨Bx, 0, none⟩), .string s, .func (.func 48) #[] #[.pointer (some ⟨W.heap.size + 1 + 1, 0, none⟩)], pcV x, undef, undef, undef, undef, undef, undef, undef, undef, undef, undef, undef, undef, undef, undef, undef], defers := [] })
    (fun x a' _ A B row hs hgr hr => by
      obtain ⟨Bx, h0, h2, h3⟩ := hs
      refine ⟨Bx, h0, (hgr.block Bx (Array.getElem?_eq_some_iff.1 h2).1 fun e => ?_).trans h2, h3⟩
      obtain ⟨_, o, ho, hc⟩ := hr Bx e.symm
      rw [h2] at ho; cases ho; cases hc)
    ?assign ?body ?done
  case assign =>
    intro l2 pre x U C hpre hi hC
    have hz : W0.heap.size ≤ U.heap.size := by have := hi.2.2.2.2.lt; omega
    gi_wp2
    exact hC _ _ ((KeepsOthers.alloc _ _).from _) (Kq.below ((Below.refl _ U).alloc (Nat.le_refl _) _)) ((ownC_from hOwn).alloc _ hi) ⟨U.heap.size, hz, World.alloc_heap_new U _, rfl⟩
  case body =>
    rintro l2 pre x a' U hpre hl2 ⟨hj, q0, q1, qt, q2⟩ ⟨Bx, hBx, hX', rfl⟩
    obtain ⟨hin, hok⟩ := pie_in s pre x hpre
    have hsb : s.size ≤ 40 := by have := (ok_parts _ hok).1; rw [lenL] at this; exact this
    have hmix : Tryd.prog.follows .mixedOrders = true := by kernel_rfl
    have hBlt := (Array.getElem?_eq_some_iff.1 hX').1
    have hwr : IntKind.i64.wrap (((szs pre : Nat) : Int) + ((x.sz : Nat) : Int)) = ((szs pre + x.sz : Nat) : Int) := by simp [IntKind.wrap, IntKind.bits, IntKind.signed]; omega
    have b0 : ((szs pre : Nat) : Int) ≤ ((szs pre + x.sz : Nat) : Int) := by omega
    have b1 : ((szs pre + x.sz : Nat) : Int) ≤ (s.size : Int) := by omega
    have b3 : ((szs pre : Nat) : Int) ≤ (s.size : Int) := by omega
    have hYx := hY (cutL s 0 pre) (x, s.extract (szs pre) (szs pre + x.sz)) U.drew (by rw [← cutL_snoc]; exact cutL_pre s 0 hpre) (ownC_below hJ hj (Below.refl _ U).drew)
    rw [← cutL_snoc] at hYx
    have HY := (show Hid _ from hYx)
    have HO := (show Hid _ from hOwn)
    have HJ := (show Hid _ from hJ)
    have HP := (show Hid _ from hpre)
    have HX := (show Hid _ from hX')
    have Q0 := (show Hid _ from q0)
    have Q1 := (show Hid _ from q1)
    have Qt := (show Hid _ from qt)
    have Q2 := (show Hid _ from q2)
    clear hYx hOwn hJ hpre hX' q0 q1 qt q2 x0 x1 x2 hB0 herr hj hY h0 hc0 hb0 hok
    gi_wp2_with fail
    refine wpIn_region_any hmix ?_
    refine Rg.any_inv (I := fun l' a' w' => l'.size = 11 ∧ ∃ t : Nat → Value, a' = { tmps := #[.func (.yield l) #[] #[], .pointer (some ⟨Bt, 0, none⟩), .pointer (some ⟨W.heap.size, 0, none⟩), .pointer (some ⟨W.heap.size + 1, 0, none⟩), .pointer (some ⟨Bx, 0, none⟩), .string s, .func (.func 48) #[] #[.pointer (some ⟨W.heap.size + 1 + 1, 0, none⟩)], pcV x, t 0, t 1, t 2, t 3, t 4, t 5, t 6, t 7, t 8, t 9, t 10, undef, undef, undef, undef], defers := [] } ∧
        Rg.Vals l' (fun j => [Value.func (.yield l) #[] #[], pcV x, .string s, .int .i64 (szs pre : Nat), .int .i64 (szs pre : Nat), .pointer (some ⟨Bx, 0, none⟩), .int .i64 (x.sz : Nat), .int .i64 ((szs pre + x.sz : Nat) : Int), .string (s.extract (szs pre) (szs pre + x.sz)), .bool true, .bool false].getD j undef) t ∧
        Wh (l'.getD 9 false) (fun w' => J (cutL s 0 (pre ++ [x])) w' ∧ Kq X U.drew w' ∧ KeepsFrom W.heap.size U.drew w') U.drew w')
      ?sz ?low ?step ?fin _ _ _ _ ?start (Rg.left_all _)
    case sz => exact fun l a' w' h => h.1
    case start => exact ⟨by simp, fun _ => undef, rfl, Rg.vals_none _ _ _, by rw [Rg.rep_none]; exact wh_no.2 rfl⟩
    case low => exact Rg.low_of (by kernel_rfl)
    case step =>
      rintro l' a' w' i ⟨hsz', t, rfl, hv, hw⟩ hi
      obtain ⟨hnl0, o, ho, hd⟩ := mem_ready.1 hi
      have hi11 : i < 11 := (Array.getElem?_eq_some_iff.1 ho).1
      have hnl := Rg.not_listed hnl0
      have hkw : Kq X U.drew w' := by
        cases q : l'.getD 9 false
        · rw [q] at hw; rw [wh_no.1 hw]; exact Kq.below (Below.refl _ _)
        · rw [q] at hw; exact (wh_yes.1 hw).2.1
      have m0 : w'.cell? ⟨W.heap.size, 0, none⟩ = some (.func (.yield l) #[] #[]) := Boxed.cell (hkw.keep _ _ _ _ Q0.out (hXn.yld _ (by omega)))
      have m1 : w'.cell? ⟨W.heap.size + 1, 0, none⟩ = some (.int .i64 (szs pre : Nat)) := Boxed.cell (hkw.keep _ _ _ _ Q1.out (hXn.int _ (by omega)))
      have mt : w'.cell? ⟨Bt, 0, none⟩ = some (.string s) := Boxed.cell (hkw.keep _ _ _ _ Qt.out hXt)
      have rx := hkw.keep _ _ _ _ HX.out (hXn.pc _ (by omega))
      have y0 : w'.cell? ⟨Bx, 0, none⟩ = some (.int .i64 (x.sz : Nat)) := by simp [World.cell?, rx]
      have y1 : w'.cell? ⟨Bx, 1, none⟩ = some (.bool x.nm) := by simp [World.cell?, rx]
      have y2 : w'.cell? ⟨Bx, 2, none⟩ = some (.int .i64 x.ad) := by simp [World.cell?, rx]
      have y3 : w'.cell? ⟨Bx, 3, none⟩ = some (.int .i64 x.po) := by simp [World.cell?, rx]
      clear rx hkw
      have hc : i = 0 ∨ i = 1 ∨ i = 2 ∨ i = 3 ∨ i = 4 ∨ i = 5 ∨ i = 6 ∨ i = 7 ∨ i = 8 ∨ i = 9 ∨ i = 10 := by omega
      rcases hc with rfl | rfl | rfl | rfl | rfl | rfl | rfl | rfl | rfl | rfl | rfl
      · have z2 := hw
        rw [← getD_set_ne (listed := l') (i := 0) (j := 9) false (by omega)] at z2
        clear hw
        refine wpOpIn_step rfl fun K hK => ?_
        go_simp
        exact hK _ _ ⟨by simp [hsz'], fun j => if j = 0 then Value.func (.yield l) #[] #[] else t j, rfl, hv.put 0 _ rfl, z2⟩
      · have z2 := hw
        rw [← getD_set_ne (listed := l') (i := 1) (j := 9) false (by omega)] at z2
        clear hw
        refine wpOpIn_step rfl fun K hK => ?_
        go_simp
        exact hK _ _ ⟨by simp [hsz'], fun j => if j = 1 then pcV x else t j, rfl, hv.put 1 _ rfl, z2⟩
      · have z2 := hw
        rw [← getD_set_ne (listed := l') (i := 2) (j := 9) false (by omega)] at z2
        clear hw
        refine wpOpIn_step rfl fun K hK => ?_
        go_simp
        exact hK _ _ ⟨by simp [hsz'], fun j => if j = 2 then Value.string s else t j, rfl, hv.put 2 _ rfl, z2⟩
      · have z2 := hw
        rw [← getD_set_ne (listed := l') (i := 3) (j := 9) false (by omega)] at z2
        clear hw
        refine wpOpIn_step rfl fun K hK => ?_
        go_simp
        exact hK _ _ ⟨by simp [hsz'], fun j => if j = 3 then Value.int .i64 (szs pre : Nat) else t j, rfl, hv.put 3 _ rfl, z2⟩
      · have z2 := hw
        rw [← getD_set_ne (listed := l') (i := 4) (j := 9) false (by omega)] at z2
        clear hw
        refine wpOpIn_step rfl fun K hK => ?_
        go_simp
        exact hK _ _ ⟨by simp [hsz'], fun j => if j = 4 then Value.int .i64 (szs pre : Nat) else t j, rfl, hv.put 4 _ rfl, z2⟩
      · have z2 := hw
        rw [← getD_set_ne (listed := l') (i := 5) (j := 9) false (by omega)] at z2
        clear hw
        refine wpOpIn_step rfl fun K hK => ?_
        go_simp
        exact hK _ _ ⟨by simp [hsz'], fun j => if j = 5 then Value.pointer (some ⟨Bx, 0, none⟩) else t j, rfl, hv.put 5 _ rfl, z2⟩
      · have z2 := hw
        rw [← getD_set_ne (listed := l') (i := 6) (j := 9) false (by omega)] at z2
        clear hw
        obtain rfl : _ = o := Option.some.inj (show some _ = some o from ho)
        have e5 : t 5 = .pointer (some ⟨Bx, 0, none⟩) := hv 5 (hd { on := 5, ground := .data } (by simp) rfl)
        refine wpOpIn_step rfl fun K hK => ?_
        go_simp
        exact hK _ _ ⟨by simp [hsz'], fun j => if j = 6 then Value.int .i64 (x.sz : Nat) else t j, by simp [e5], hv.put 6 _ rfl, z2⟩
      · have z2 := hw
        rw [← getD_set_ne (listed := l') (i := 7) (j := 9) false (by omega)] at z2
        clear hw
        obtain rfl : _ = o := Option.some.inj (show some _ = some o from ho)
        have e4 : t 4 = .int .i64 (szs pre : Nat) := hv 4 (hd { on := 4, ground := .data } (by simp) rfl)
        have e6 : t 6 = .int .i64 (x.sz : Nat) := hv 6 (hd { on := 6, ground := .data } (by simp) rfl)
        refine wpOpIn_step rfl fun K hK => ?_
        go_simp
        exact hK _ _ ⟨by simp [hsz'], fun j => if j = 7 then Value.int .i64 ((szs pre + x.sz : Nat) : Int) else t j, by simp [e4, e6], hv.put 7 _ rfl, z2⟩
      · have z2 := hw
        rw [← getD_set_ne (listed := l') (i := 8) (j := 9) false (by omega)] at z2
        clear hw
        obtain rfl : _ = o := Option.some.inj (show some _ = some o from ho)
        have e2 : t 2 = .string s := hv 2 (hd { on := 2, ground := .data } (by simp) rfl)
        have e3 : t 3 = .int .i64 (szs pre : Nat) := hv 3 (hd { on := 3, ground := .data } (by simp) rfl)
        have e7 : t 7 = .int .i64 ((szs pre + x.sz : Nat) : Int) := hv 7 (hd { on := 7, ground := .data } (by simp) rfl)
        refine wpOpIn_step rfl fun K hK => ?_
        have HKK := (show Hid _ from hK)
        clear hK
        go_simp
        gi_wp2_with fail
        exact HKK.out _ _ ⟨by simp [hsz'], fun j => if j = 8 then Value.string (s.extract (szs pre) (szs pre + x.sz)) else t j, by simp [e2, e3, e7], hv.put 8 _ rfl, z2⟩
      · rw [hnl] at hw
        obtain rfl : w' = U.drew := wh_no.1 hw
        obtain rfl : _ = o := Option.some.inj (show some _ = some o from ho)
        have l8 := hd { on := 8, ground := .data } (by simp) rfl
        have l0 := hd { on := 0, ground := .data } (by simp) rfl
        have l1 := hd { on := 1, ground := .data } (by simp) rfl
        have e0 : t 0 = .func (.yield l) #[] #[] := hv 0 l0
        have e1 : t 1 = pcV x := hv 1 l1
        have e8 : t 8 = .string (s.extract (szs pre) (szs pre + x.sz)) := hv 8 l8
        obtain ⟨fn, tmps, assign, bodyc, hy, hR⟩ := HY.out
        refine wpOpIn_step rfl fun K hK => ?_
        have HKK := (show Hid _ from hK)
        clear hK
        unfold wpV at hy
        go_simp
        refine ⟨(fun h => by cases h), ?_⟩
        refine RoundIn.mono (show RoundIn (Fence.wide.inRound l2) (n - 1 - 1 - 1) Tryd.prog l fn tmps assign bodyc U.drew _ from ⟨hR.1, fun c cs _ => hR.2 c cs (room_wide _)⟩) ?_
        rintro e w2 ⟨rfl, hj2, hk2, hf2⟩
        exact HKK.out _ _ ⟨by simp [hsz'], fun j => if j = 9 then Value.bool true else t j, by simp [e0, e1, e8], hv.put 9 _ rfl, by rw [Rg.set_same (by omega)]; exact wh_yes.2 ⟨hj2, hk2, hf2⟩⟩
      · have z2 := hw
        rw [← getD_set_ne (listed := l') (i := 10) (j := 9) false (by omega)] at z2
        clear hw
        obtain rfl : _ = o := Option.some.inj (show some _ = some o from ho)
        have e9 : t 9 = .bool true := hv 9 (hd { on := 9, ground := .data } (by simp) rfl)
        refine wpOpIn_step rfl fun K hK => ?_
        go_simp
        exact hK _ _ ⟨by simp [hsz'], fun j => if j = 10 then Value.bool false else t j, by simp [e9], hv.put 10 _ rfl, z2⟩
    case fin =>
      rintro l' a' w' ⟨hsz', t, rfl, hv, hw⟩ hall
      have l9 : l'.getD 9 false = true := hall 9 (by simp)
      rw [l9] at hw
      obtain ⟨hj', hk', hf'⟩ : J (cutL s 0 (pre ++ [x])) w' ∧ Kq X U.drew w' ∧ KeepsFrom W.heap.size U.drew w' := wh_yes.1 hw
      have e10 : t 10 = .bool false := hv 10 (hall 10 (by simp))
      have r1 : Boxed w' (W.heap.size + 1) 3 (.int .i64 (szs pre : Nat)) := hk'.keep _ _ _ _ Q1.out (hXn.int _ (by omega))
      have r0 : Boxed w' W.heap.size 78 (.func (.yield l) #[] #[]) := hk'.keep _ _ _ _ Q0.out (hXn.yld _ (by omega))
      have r2 : Boxed w' (W.heap.size + 1 + 1) 9 (.string s) := hk'.keep _ _ _ _ Q2.out (hXn.str _ (by omega))
      have rt : Boxed w' Bt 9 (.string s) := hk'.keep _ _ _ _ Qt.out hXt
      have rx := hk'.keep _ _ _ _ HX.out (hXn.pc _ (by omega))
      have c1 := r1.cell
      have f1 := r1.frozen
      have y0 : w'.cell? ⟨Bx, 0, none⟩ = some (.int .i64 (x.sz : Nat)) := by simp [World.cell?, rx]
      have b4 : ((szs pre : Nat) : Int) + ((x.sz : Nat) : Int) ≤ 40 := by omega
      have HK := (show Hid _ from hk')
      have HF := (show Hid _ from hf')
      have HJ' := (show Hid _ from hj')
      have R0 : Hid (Boxed w' W.heap.size 78 (.func (.yield l) #[] #[])) := r0
      have R1 : Hid (Boxed w' (W.heap.size + 1) 3 (.int .i64 (szs pre : Nat))) := r1
      have R2 : Hid (Boxed w' (W.heap.size + 1 + 1) 9 (.string s)) := r2
      have Rt : Hid (Boxed w' Bt 9 (.string s)) := rt
      clear hv hall hk' hf' hj' r0 r1 r2 rt rx hwr
      rw [e10]
      gi_wp2
      refine ⟨?_, ?_, ?_, ?_, ?_, ?_, ?_⟩
      · exact ((((KeepsOthers.drew U).from _).trans (keepsFrom_up HF.out (by omega))).trans (keepsFrom_set _ _ (by simp; omega)))
      · exact ((Kq.below (Below.refl _ U).drew).trans (HK.out.wider fun b t h => .inl h)).trans (kq_set _ _ fun cs t f _ => .inr rfl)
      · exact HJ.out _ _ _ (some (W.heap.size + 1)) HJ'.out (grownBy_setCell' _ _ _) fun r e => by cases e; exact ⟨by omega, _, R1.out, .inr ⟨_, _, rfl⟩⟩
      · exact R0.out.other (by omega) _
      · rw [szs_snoc]; exact R1.out.set _
      · exact Rt.out.other (by omega) _
      · exact R2.out.other (by omega) _
  case done =>
    have HJ := hJ
    clear hJ
    rintro D U hD ⟨hi, _⟩ hK
    gi_wp2
    refine ⟨by simp, .inl ⟨_, _, rfl, run_takeDeferred hK, ?_⟩⟩
    refine ⟨_, results_none rfl _ _ _, ⟨_, rfl⟩, ?_⟩
    exact (ownC_from HJ).putObj _ hi (by omega) hK rfl
end Go.Proofs.YtlejldaennlfaayDoor.Wp

/- Walks: a text is written anew, piece by piece, by the program, both ways. -/
import Derived.Test.YtdggchcapjidjaaGreatDoorWaWh
namespace Go.Proofs.YtdggchcapjidjaaGreatDoor.Wa
open Go.RowKit Go.Shelf Go.Proofs.YtdggchcapjidjaaGreatDoor.Kit Go.Proofs.YtdggchcapjidjaaGreatDoor.Mp Go.Proofs.YtdggchcapjidjaaGreatDoor.Mj Go.Proofs.YtdggchcapjidjaaGreatDoor.Mk Go.Proofs.YtdggchcapjidjaaGreatDoor.Mg Go.Proofs.YtdggchcapjidjaaGreatDoor.Tx Go.Proofs.YtdggchcapjidjaaGreatDoor.Nm Go.Proofs.YtdggchcapjidjaaGreatDoor.App Go.Proofs.YtdggchcapjidjaaGreatDoor.It Go.Proofs.YtdggchcapjidjaaGreatDoor.It4 Go.Proofs.YtdggchcapjidjaaGreatDoor.Sq Go.Proofs.YtdggchcapjidjaaGreatDoor.Gp Go.Proofs.YtdggchcapjidjaaGreatDoor.Pcs Go.Proofs.YtdggchcapjidjaaGreatDoor.Wp
open Go.Proofs.YtdggchcapjidjaaGreatDoor.EndW (endV sideZ)
open Go.Proofs.YtdggchcapjidjaaGreatDoor.Read (Errs ErrCell)
attribute [local go_sem] Oper.semAt_some
set_option linter.unusedSimpArgs false
set_option linter.unusedVariables false

set_option maxRecDepth 8000 in
set_option maxHeartbeats 8000000 in
theorem anew_x (n : Nat) (hn : 9 ≤ n) (o : Bool) (hav : Av o) (s : ByteArray) (w : World) (bt bb : Nat) (es : List (Int × Int)) (ht : Two w bt bb es) (hg : GoodE es) (herr : Errs w) :
    CallsIn Fence.wide n Tryz.prog 41 #[.string s, hV o bt bb] w fun e W' =>
      ∃ T, e = .returned (.string T) ∧ T.data.toList = (outX o es (pieL s.data.toList) s.data.toList).2 ∧ Two W' bt bb (outX o es (pieL s.data.toList) s.data.toList).1 ∧ But2 bt bb w W' := by
  have h1 : 1 ≤ n := by omega
  obtain ⟨g1, g2⟩ := errs_lt herr
  have hlt := ht.lt
  refine callsIn_of_wp_marks Tryz.func41 rfl trivial ?_ rfl
  simp only [Tryz.ntmps41, List.size_toArray, List.length_cons, List.length_nil, Nat.reduceAdd, Nat.reduceSub, Array.replicate_succ, Array.replicate_zero, List.push_toArray, List.append_toArray, List.nil_append, List.cons_append]
  gi_wp2_with fail
  refine ⟨trivial, ?_⟩
  refine (written_in _ s _).mono ?_
  rintro e w1 ⟨rfl, rfl⟩
  gi_wp2
  have x1 := ((Boxed.new w 69 (hV o bt bb)).alloc (.cells #[.string ⟨#[]⟩] 9)).alloc (.cells #[.string s] 9)
  have x2 := (Boxed.new (w.alloc (.cells #[hV o bt bb] 69)) 9 (.string ⟨#[]⟩)).alloc (.cells #[.string s] 9)
  have x4 := Boxed.new ((w.alloc (.cells #[hV o bt bb] 69)).alloc (.cells #[.string ⟨#[]⟩] 9)) 9 (.string s)
  have hB0 : Below w.heap.size w (((w.alloc (.cells #[hV o bt bb] 69)).alloc (.cells #[.string ⟨#[]⟩] 9)).alloc (.cells #[.string s] 9)) :=
    (((Below.refl _ w).alloc (Nat.le_refl _) _).alloc (by simp) _).alloc (by simp; omega) _
  have hsz : (((w.alloc (.cells #[hV o bt bb] 69)).alloc (.cells #[.string ⟨#[]⟩] 9)).alloc (.cells #[.string s] 9)).heap.size = w.heap.size + 1 + 1 + 1 := by simp
  simp only [World.size_alloc] at x2 x4
  obtain ⟨W0, hW0⟩ : ∃ W0, ((w.alloc (.cells #[hV o bt bb] 69)).alloc (.cells #[.string ⟨#[]⟩] 9)).alloc (.cells #[.string s] 9) = W0 := ⟨_, rfl⟩
  rw [hW0] at x1 x2 x4 hB0 hsz ⊢
  clear hW0
  have hOwn : OwnC W0.heap.size (fun (pre : List (Pc × ByteArray)) W => Inv w.heap.size (hV o bt bb) s (outX o es (pre.map Prod.fst) s.data.toList).2 W ∧ Two W bt bb (outX o es (pre.map Prod.fst) s.data.toList).1 ∧ But2 bt bb w W) := by
    rintro pre X Y row ⟨i1, i2, i3⟩ hgr hr
    have kp : ∀ k, k < W0.heap.size → k < X.heap.size → Y.heap[k]? = X.heap[k]? := fun k h0 hx => hgr.block k hx fun e => by have := (hr k e.symm).1; omega
    refine ⟨i1.own (B := W0.heap.size) (by omega) hgr (fun r e => (hr r e).1), ⟨(kp _ (by omega) i2.lt.1).trans i2.th, (kp _ (by omega) i2.lt.2).trans i2.bk, i2.ne⟩, ⟨hgr.os.trans i3.os, hgr.tape.trans i3.tape, hgr.output.trans i3.output, Nat.le_trans i3.size hgr.size, fun k hk q1 q2 => (kp k (by omega) (Nat.lt_of_lt_of_le hk i3.size)).trans (i3.block k hk q1 q2)⟩⟩
  refine range_list (α := Pc × ByteArray) h1 (gf := 77) (lb := #[.pointer (some ⟨w.heap.size + 1 + 1, 0, none⟩)]) rfl (enters_of Tryz.func77 (by kernel_rfl) rfl)
    (told (n - 1) (w.heap.size + 1 + 1) (by omega) (fun b t => b = w.heap.size + 1) s W0 x4 (herr.below hB0) (by omega) ⟨fun b hb => by omega, fun b hb => by omega, fun b hb => by omega, fun b hb => by omega⟩ (fun t => ⟨by omega, by omega⟩))
    (fun h k => Kq.trans h k) (fun W l o o' _ ho hc => kq_putObj W l o o' ho hc) (Below.refl _ _) (fun _ => rfl)
    (fun pre W => Inv w.heap.size (hV o bt bb) s (outX o es (pre.map Prod.fst) s.data.toList).2 W ∧ Two W bt bb (outX o es (pre.map Prod.fst) s.data.toList).1 ∧ But2 bt bb w W)
    hOwn
    ⟨⟨x1, ⟨_, x2, by rw [List.map_nil, outX_nil]⟩, x4⟩, by rw [List.map_nil, outX_nil]; exact ht.below hB0, But2.ofBelow hB0⟩
    (fun x a' W => ∃ Bx, W0.heap.size ≤ Bx ∧ W.heap[Bx]? = some (.cells #[.int .i64 (x.1.sz : Nat), .bool x.1.nm, .int .i64 x.1.ad, .int .i64 x.1.po] 81 (0, 0)) ∧ a' = { tmps := #[.string s, hV o bt bb, undef, .pointer (some ⟨w.heap.size, 0, none⟩), .string ⟨#[]⟩, .pointer (some ⟨w.heap.size + 1, 0, none⟩), .pointer (some ⟨Bx, 0, none⟩), .string x.2, .string s, .func (.func 77) #[] #[.pointer (some ⟨w.heap.size + 1 + 1, 0, none⟩)], pcV x.1, .string x.2, undef, undef, undef, undef, undef, undef, undef], defers := [] })
    (fun x a' _ X Y row hs hgr hr => by
      obtain ⟨Bx, h0, h2, h3⟩ := hs
      refine ⟨Bx, h0, (hgr.block Bx (Array.getElem?_eq_some_iff.1 h2).1 fun e => ?_).trans h2, h3⟩
      obtain ⟨_, o, ho, hc⟩ := hr Bx e.symm
      rw [h2] at ho; cases ho; cases hc)
    ?assign ?body ?done
  case assign =>
    rintro l pre ⟨x, S0⟩ W C hpre hi hC
    have hz : W0.heap.size ≤ W.heap.size := by have := hi.1.x4.lt; omega
    simp only [wpV]
    gi_wp2
    exact hC _ _ ((KeepsOthers.alloc _ _).from _) (Kq.below ((Below.refl _ W).alloc (Nat.le_refl _) _)) ((ownC_from hOwn).alloc _ hi) ⟨W.heap.size, hz, World.alloc_heap_new W _, rfl⟩
  case body =>
    rintro l pre0 x0 a' W hpre0 hl ⟨hi, h2, hb2⟩ ⟨Bx, hBx, hX, rfl⟩
    obtain ⟨pre, x, hpre, rfl, rfl⟩ := cutL_snoc_of s pre0 x0 _ hpre0
    have hm : (cutL s 0 pre ++ [(x, s.extract (szs pre) (szs pre + x.sz))]).map Prod.fst = pre ++ [x] := by rw [List.map_append, cutL_fst]; rfl
    rw [cutL_fst] at hi h2
    obtain ⟨hin, hok⟩ := pie_in s pre x hpre
    have hsb : s.size ≤ 40 := by have := (ok_parts _ hok).1; rw [lenL] at this; exact this
    obtain ⟨S, q2, q2'⟩ := hi.x2
    have hpl := pre_len s pre x hpre
    have hSz : S.size ≤ 300 := by
      have := outX_len o es hg pre s.data.toList
      rw [← q2', lenL, lenL] at this; omega
    have hgd := outX_good o es pre s.data.toList hg
    have hmix : Tryz.prog.follows .mixedOrders = true := by kernel_rfl
    have hn2 : 1 ≤ n - 1 - 1 := by omega
    have hBn : Bx ≠ w.heap.size + 1 := by omega
    have hB3 : w.heap.size + 1 + 1 + 1 ≤ Bx := by omega
    obtain ⟨q, hq⟩ : ∃ q, goX o (outX o es pre s.data.toList).1 x (s.extract (szs pre) (szs pre + x.sz)).data.toList = q := ⟨_, rfl⟩
    obtain ⟨es2, Tl⟩ := q
    obtain ⟨T, hT⟩ : ∃ T : ByteArray, T.data.toList = Tl := ⟨⟨Tl.toArray⟩, by simp⟩
    have hTz : T.size ≤ 100 := by
      have h1 := goX_len o _ hgd x (s.extract (szs pre) (szs pre + x.sz)).data.toList
      rw [hq, lenL, ByteArray.size_extract] at h1
      rw [← lenL, hT]; simp only at h1; omega
    obtain ⟨X0, hX0⟩ : ∃ X0, s.extract (szs pre) (szs pre + x.sz) = X0 := ⟨_, rfl⟩
    have HX0 := (show Hid _ from hX0)
    rw [hX0] at hq hm hpre0 ⊢
    have HM := (show Hid _ from hm)
    have HQ := (show Hid _ from hq)
    have HT := (show Hid _ from hT)
    have HG := (show Hid _ from hgd)
    have HS := (show Hid _ from q2')
    have H2 := (show Hid _ from h2)
    have HB := (show Hid _ from hb2)
    have hM0 : Mid w.heap.size (hV o bt bb) s (outX o es pre s.data.toList).2 Bx x bt bb W (outX o es pre s.data.toList).1 W.drew :=
      ⟨hi.but2 hlt.1 hlt.2 (But2.ofBelow (Below.refl _ W).drew), hX, h2.below (Below.refl _ W).drew, But2.ofBelow (Below.refl _ W).drew⟩
    have H0 := (show Hid _ from hM0)
    clear hq hT hgd q2' hi h2 hb2 hpre hpre0 hM0 hX hOwn x1 x2 x4 hB0 herr ht hok q2 hm hX0
    gi_wp2_with fail
    refine wpIn_region_any hmix ?_
    refine Rg.any_inv (I := fun l a' w' => l.size = 7 ∧ ∃ t : Nat → Value, a' = { tmps := #[.string s, hV o bt bb, undef, .pointer (some ⟨w.heap.size, 0, none⟩), .string ⟨#[]⟩, .pointer (some ⟨w.heap.size + 1, 0, none⟩), .pointer (some ⟨Bx, 0, none⟩), .string X0, .string s, .func (.func 77) #[] #[.pointer (some ⟨w.heap.size + 1 + 1, 0, none⟩)], pcV x, .string X0, t 0, t 1, t 2, t 3, t 4, t 5, undef], defers := [] } ∧
        Rg.Vals l (fun j => [Value.string S, hV o bt bb, pcV x, .string X0, .string T, .string (S ++ T)].getD j undef) t ∧
        (l.getD 6 false = true → ∀ j, j < 6 → l.getD j false = true) ∧
        St (Mid w.heap.size (hV o bt bb) s (outX o es pre s.data.toList).2 Bx x bt bb W) (outX o es pre s.data.toList).1 es2 ⟨w.heap.size + 1, 0, none⟩ (.string (S ++ T)) (l.getD 4 false) (l.getD 6 false) w')
      ?sz ?low ?step ?fin _ _ _ _ ?start (Rg.left_all _)
    case sz => exact fun l a' w' h => h.1
    case start => exact ⟨by simp, fun _ => undef, rfl, Rg.vals_none _ _ _, (fun h => by rw [Rg.rep_none] at h; cases h), by rw [Rg.rep_none, Rg.rep_none]; exact H0.out⟩
    case low => exact Rg.low_of (by kernel_rfl)
    case step =>
      rintro l a' w' i ⟨hsz, t, rfl, hv, h6, hw⟩ hi
      obtain ⟨h0, op, ho, hd⟩ := mem_ready.1 hi
      have hi7 : i < 7 := (Array.getElem?_eq_some_iff.1 ho).1
      have hnl := Rg.not_listed h0
      have q6 : l.getD 6 false = false := by
        cases q : l.getD 6 false
        · rfl
        · by_cases e6 : i = 6
          · subst e6; rw [hnl] at q; cases q
          · have := h6 q i (by omega)
            rw [hnl] at this; cases this
      have hw6 := hw
      rw [q6] at hw6
      obtain ⟨ee, hM⟩ := st_mid hw6
      clear hw6
      obtain ⟨S', r2, r2'⟩ := hM.inv.x2
      have hSS : S' = S := ba_ext (r2'.trans HS.out.symm)
      rw [hSS] at r2
      have m2 := r2.cell
      have n2 := r2.frozen
      have m1 := hM.inv.x1.cell
      have y0 : w'.cell? ⟨Bx, 0, none⟩ = some (.int .i64 (x.sz : Nat)) := by simp [World.cell?, hM.box]
      have y1 : w'.cell? ⟨Bx, 1, none⟩ = some (.bool x.nm) := by simp [World.cell?, hM.box]
      have y2 : w'.cell? ⟨Bx, 2, none⟩ = some (.int .i64 x.ad) := by simp [World.cell?, hM.box]
      have y3 : w'.cell? ⟨Bx, 3, none⟩ = some (.int .i64 x.po) := by simp [World.cell?, hM.box]
      clear r2 r2' hSS hM
      have hc : i = 0 ∨ i = 1 ∨ i = 2 ∨ i = 3 ∨ i = 4 ∨ i = 5 ∨ i = 6 := by omega
      rcases hc with rfl | rfl | rfl | rfl | rfl | rfl | rfl
      · obtain ⟨z1, z2⟩ := st_other (i := 0) (by omega) (by omega) q6 hw
        clear hw h6
        refine wpOpIn_step rfl fun K hK => ?_
        go_simp
        exact hK _ _ ⟨by simp [hsz], fun j => if j = 0 then Value.string S else t j, rfl, hv.put 0 _ rfl, z1, z2⟩
      · obtain ⟨z1, z2⟩ := st_other (i := 1) (by omega) (by omega) q6 hw
        clear hw h6
        refine wpOpIn_step rfl fun K hK => ?_
        go_simp
        exact hK _ _ ⟨by simp [hsz], fun j => if j = 1 then hV o bt bb else t j, rfl, hv.put 1 _ rfl, z1, z2⟩
      · obtain ⟨z1, z2⟩ := st_other (i := 2) (by omega) (by omega) q6 hw
        clear hw h6
        refine wpOpIn_step rfl fun K hK => ?_
        go_simp
        exact hK _ _ ⟨by simp [hsz], fun j => if j = 2 then pcV x else t j, rfl, hv.put 2 _ rfl, z1, z2⟩
      · obtain ⟨z1, z2⟩ := st_other (i := 3) (by omega) (by omega) q6 hw
        clear hw h6
        refine wpOpIn_step rfl fun K hK => ?_
        go_simp
        exact hK _ _ ⟨by simp [hsz], fun j => if j = 3 then Value.string X0 else t j, rfl, hv.put 3 _ rfl, z1, z2⟩
      · rw [hnl, q6] at hw
        have hM : Mid w.heap.size (hV o bt bb) s (outX o es pre s.data.toList).2 Bx x bt bb W (outX o es pre s.data.toList).1 w' := hw
        obtain rfl : _ = op := Option.some.inj (show some _ = some op from ho)
        have e1 : t 1 = hV o bt bb := hv 1 (hd { on := 1, ground := .data } (by simp) rfl)
        have e2 : t 2 = pcV x := hv 2 (hd { on := 2, ground := .data } (by simp) rfl)
        have e3 : t 3 = .string X0 := hv 3 (hd { on := 3, ground := .data } (by simp) rfl)
        have HK := (show Hid _ from hM)
        have HV := (show Hid _ from hv)
        clear hM hw h6 hv
        refine wpOpIn_step rfl fun K hK => ?_
        have HKK := (show Hid _ from hK)
        clear hK
        cases o
        · have e1' : t 1 = .func (.func 42) #[prtV bt bb] #[] := e1
          clear e1
          go_simp
          refine ⟨trivial, ?_⟩
          refine (CallsIn.inRound _ (callsIn_wide.2 (piece_x false hav _ bt bb _ HK.out.two HG.out x X0))).mono ?_
          rintro e w2 ⟨T', rfl, hT', t2, kk⟩
          rw [HQ.out] at hT' t2
          obtain rfl : T' = T := ba_ext (hT'.trans HT.out.symm)
          refine HKK.out _ _ ⟨by simp [hsz], fun j => if j = 4 then .string T' else t j, by simp [e1', e2, e3], Rg.Vals.put HV.out 4 _ rfl, ?_, ?_⟩
          · rw [getD_set_ne false (by omega), q6]; intro h; cases h
          · rw [getD_set_ne false (show 4 ≠ 6 by omega), q6, Rg.set_same (by omega)]
            exact ⟨HK.out.inv.but2 hlt.1 hlt.2 kk, (kk.block Bx (Array.getElem?_eq_some_iff.1 HK.out.box).1 (by omega) (by omega)).trans HK.out.box, t2, HK.out.but.trans kk⟩
        · have e1' : t 1 = .func (.func 43) #[prtV bt bb] #[] := e1
          clear e1
          go_simp
          refine ⟨trivial, ?_⟩
          refine (CallsIn.inRound _ (callsIn_wide.2 (piece_x true hav _ bt bb _ HK.out.two HG.out x X0))).mono ?_
          rintro e w2 ⟨T', rfl, hT', t2, kk⟩
          rw [HQ.out] at hT' t2
          obtain rfl : T' = T := ba_ext (hT'.trans HT.out.symm)
          refine HKK.out _ _ ⟨by simp [hsz], fun j => if j = 4 then .string T' else t j, by simp [e1', e2, e3], Rg.Vals.put HV.out 4 _ rfl, ?_, ?_⟩
          · rw [getD_set_ne false (by omega), q6]; intro h; cases h
          · rw [getD_set_ne false (show 4 ≠ 6 by omega), q6, Rg.set_same (by omega)]
            exact ⟨HK.out.inv.but2 hlt.1 hlt.2 kk, (kk.block Bx (Array.getElem?_eq_some_iff.1 HK.out.box).1 (by omega) (by omega)).trans HK.out.box, t2, HK.out.but.trans kk⟩
      · obtain ⟨z1, z2⟩ := st_other (i := 5) (by omega) (by omega) q6 hw
        clear hw h6
        obtain rfl : _ = op := Option.some.inj (show some _ = some op from ho)
        have e0 : t 0 = .string S := hv 0 (hd { on := 0, ground := .data } (by simp) rfl)
        have e4 : t 4 = .string T := hv 4 (hd { on := 4, ground := .data } (by simp) rfl)
        refine wpOpIn_step rfl fun K hK => ?_
        have HKK := (show Hid _ from hK)
        clear hK
        go_simp
        gi_wp2_with fail
        exact HKK.out _ _ ⟨by simp [hsz], fun j => if j = 5 then Value.string (S ++ T) else t j, by simp [e0, e4], hv.put 5 _ rfl, z1, z2⟩
      · obtain rfl : _ = op := Option.some.inj (show some _ = some op from ho)
        have hall : ∀ j, j < 6 → l.getD j false = true := by
          intro j hj
          have hc : j = 0 ∨ j = 1 ∨ j = 2 ∨ j = 3 ∨ j = 4 ∨ j = 5 := by omega
          rcases hc with rfl | rfl | rfl | rfl | rfl | rfl
          all_goals exact hd { on := _, ground := .phase } (by simp) rfl
        have e5 : t 5 = .string (S ++ T) := hv 5 (hall 5 (by omega))
        rw [hnl, hall 4 (by omega)] at hw
        have hM : Mid w.heap.size (hV o bt bb) s (outX o es pre s.data.toList).2 Bx x bt bb W es2 w' := hw
        have HK := (show Hid _ from hM)
        have HA := (show Hid _ from hall)
        clear hM hw hall h6
        refine wpOpIn_step rfl fun K hK => ?_
        have HKK := (show Hid _ from hK)
        clear hK
        go_simp
        refine HKK.out _ _ ⟨by simp [hsz], fun j => if j = 6 then undef else t j, by simp [e5], hv.put 6 _ rfl, ?_, ?_⟩
        · intro _ j hj
          rw [getD_set_ne false (by omega)]; exact HA.out j hj
        · rw [Rg.set_same (by omega)]
          exact ⟨w', HK.out, rfl⟩
    case fin =>
      rintro l a' w' ⟨hsz, t, rfl, hv, h6, hw⟩ hall
      have q6 : l.getD 6 false = true := hall 6 (by simp)
      rw [q6] at hw
      obtain ⟨w2, hM, rfl⟩ : ∃ w2, Mid w.heap.size (hV o bt bb) s (outX o es pre s.data.toList).2 Bx x bt bb W es2 w2 ∧ w' = w2.setCell ⟨w.heap.size + 1, 0, none⟩ (.string (S ++ T)) := by
        cases q : l.getD 4 false <;> (rw [q] at hw; exact hw)
      have HK := (show Hid _ from hM)
      clear hM hv h6 hall q6 hw
      gi_wp2
      have hq2 : goX o (outX o es pre s.data.toList).1 x ((s.data.toList.drop (szs pre)).take x.sz) = (es2, Tl) := by
        have := HQ.out
        rw [← HX0.out] at this
        rwa [ext_to, show szs pre + x.sz - szs pre = x.sz by omega] at this
      have hsn := outX_snoc o es pre x s.data.toList
      rw [hq2] at hsn
      obtain ⟨S', r2, r2'⟩ := HK.out.inv.x2
      rw [HM.out]
      refine ⟨(keepsFrom_but2 HK.out.but (by omega) (by omega)).trans (keepsFrom_set _ _ (by simp; omega)), (kq_but2 HK.out.but H2.out).trans (kq_set _ _ fun _ _ _ _ => rfl), ⟨?_, ?_, ?_⟩, ?_, ?_⟩
      · exact HK.out.inv.x1.other (by omega) _
      · refine ⟨S ++ T, r2.set _, ?_⟩
        rw [hsn, ByteArray.data_append, Array.toList_append, HS.out, HT.out]
      · exact HK.out.inv.x4.other (by omega) _
      · rw [hsn]
        exact two_set HK.out.two _ _ (by simp; omega) (by simp; omega)
      · exact but2_set (HB.out.trans HK.out.but) _ _ (by simp)
  case done =>
    rintro D W hD ⟨hi, h2, hb2⟩ hK
    rw [cutL_fst] at hi h2
    obtain ⟨S, q2, q2'⟩ := hi.x2
    have hc := q2.cell
    gi_wp2
    refine ⟨by simp, .inl ⟨_, _, rfl, run_takeDeferred hK, ?_⟩⟩
    refine ⟨_, results_tmp rfl _ _ _, S, rfl, q2', ?_, ?_⟩
    · exact ⟨(World.putObj_heap_other (by omega)).trans h2.th, (World.putObj_heap_other (by omega)).trans h2.bk, h2.ne⟩
    · exact ⟨hb2.os, hb2.tape, hb2.output, by simpa using hb2.size, fun k hk q1 q2 => (World.putObj_heap_other (by omega)).trans (hb2.block k hk q1 q2)⟩
end Go.Proofs.YtdggchcapjidjaaGreatDoor.Wa

/- Walks: streams that are drawn from a code. -/
import Derived.Test.YtdggchcapjidjabGreatDoorSpSs
import Derived.Test.YtdggchcapjidjabGreatDoorStCE
import Derived.Test.YtdggchcapjidjabGreatDoorDrMS
import Derived.Test.YtdggchcapjidjabGreatDoorRi
import Derived.Deep.RegionWith
import Derived.Deep.Cut
import Derived.Deep.CutRange
import Derived.Test.YtdggchcapjidjabGreatDoorSsC
namespace Go.Proofs.YtdggchcapjidjabGreatDoor.StP
open Go.RowKit Go.Shelf Go.Proofs.YtdggchcapjidjabGreatDoor.Kit Go.Proofs.YtdggchcapjidjabGreatDoor.Rd Go.Proofs.YtdggchcapjidjabGreatDoor.Draw Go.Proofs.YtdggchcapjidjabGreatDoor.Tx Go.Proofs.YtdggchcapjidjabGreatDoor.Mp Go.Proofs.YtdggchcapjidjabGreatDoor.Mm Go.Proofs.YtdggchcapjidjabGreatDoor.Ms Go.Proofs.YtdggchcapjidjabGreatDoor.Nm Go.Proofs.YtdggchcapjidjabGreatDoor.App Go.Proofs.YtdggchcapjidjabGreatDoor.St Go.Proofs.YtdggchcapjidjabGreatDoor.SpA
open Go.Proofs.YtdggchcapjidjabGreatDoor.DrawM (rd_base aside_base row_but row_aside isM_aside Small NewM newM_row RoomM map_room)
set_option linter.unusedSimpArgs false
set_option linter.unusedVariables false

theorem ownP_of {W : World} {base : Nat} {v : Value} {es : List (Int × Int)} (hm : IsM W v (prs es)) (hr : RoomM W v) (hn : NewM base v) : OwnP W base v es := by
  rcases hm with ⟨rfl, h0⟩ | ⟨g, o, cap, rfl, h1, h2, h3, h4⟩
  · refine .inl ⟨rfl, ?_⟩
    have := congrArg List.length h0
    rw [prs_len] at this
    exact List.length_eq_zero_iff.1 this
  · obtain ⟨_, cur, hc, hf⟩ := hr g o _ cap rfl
    rw [prs_len] at h1
    exact .inr ⟨g, o, cap, cur, by rw [prs_len], hn g o _ cap rfl, hc, h1, h2, hf, h4⟩
theorem ownP_aside {W W' : World} {base b : Nat} {v : Value} {es : List (Int × Int)} (h : OwnP W base v es) (k : Kit.Aside b W W') (hb : b < base) : OwnP W' base v es := by
  refine h.kept (row := some b) ⟨k.os, k.tape, k.output, k.size, fun i hi hn => k.block i hi (fun q => hn (by rw [q]))⟩ ?_
  cases q : v.ownBlock with
  | none => exact .inl rfl
  | some g =>
    refine .inr fun e => ?_
    have := (h.lt g q).1
    simp at e; omega

/-- what stands while a stream is drawn -/
structure Dr (W : World) (base Rb Xb : Nat) (v : Value) (es : List (Int × Int)) (S : ByteArray) (pv : Value) (ps : List (Int × ByteArray)) : Prop where
  hx : W.heap[Xb]? = some (.cells #[.string S, pv] 26 (0, 0))
  hr : W.heap[Rb]? = some (.cells #[.string ⟨#[]⟩, .slice none 0 0] 26 (0, 0))
  rows : Rows2 W base v es pv ps
  nm : ∀ k, v.ownBlock = some k → k ≠ Xb ∧ k ≠ Rb
  np : ∀ k, pv.ownBlock = some k → k ≠ Xb ∧ k ≠ Rb
  br : base ≤ Rb
  bx : base ≤ Xb
  ne : Xb ≠ Rb
theorem Dr.aside {W W' : World} {base Rb Xb b : Nat} {v : Value} {es : List (Int × Int)} {S : ByteArray} {pv : Value} {ps : List (Int × ByteArray)} (h : Dr W base Rb Xb v es S pv ps) (k : Kit.Aside b W W') (hb : b < base) : Dr W' base Rb Xb v es S pv ps := by
  have h1 := h.br
  have h2 := h.bx
  exact ⟨(k.block _ (Array.getElem?_eq_some_iff.1 h.hx).1 (by omega)).trans h.hx, (k.block _ (Array.getElem?_eq_some_iff.1 h.hr).1 (by omega)).trans h.hr, ⟨ownP_aside h.rows.rm k hb, row_aside h.rows.rt k hb, h.rows.ne, h.rows.nn⟩, h.nm, h.np, h1, h2, h.ne⟩
theorem Dr.drew {W : World} {base Rb Xb : Nat} {v : Value} {es : List (Int × Int)} {S : ByteArray} {pv : Value} {ps : List (Int × ByteArray)} (h : Dr W base Rb Xb v es S pv ps) : Dr W.drew base Rb Xb v es S pv ps := ⟨h.hx, h.hr, ⟨h.rows.rm.drew, h.rows.rt.drew, h.rows.ne, h.rows.nn⟩, h.nm, h.np, h.br, h.bx, h.ne⟩
theorem stB_nil : stB ⟨#[]⟩ [] = true := by
  have hpn : pieL (⟨#[]⟩ : ByteArray).data.toList = [] := by
    rw [pie_ok _ (by decide)]
    have e : bd (⟨#[]⟩ : ByteArray).data.toList = [] := rfl
    rw [e]; exact pcs_nil
  exact stB_parts.2 ⟨by decide, by rw [hpn]; rfl, fun i x p hx => by rw [hpn] at hx; simp at hx⟩
theorem putF_size (o : Bool) (es : List (Int × Int)) (S : ByteArray) (ps : List (Int × ByteArray)) (T : ByteArray) (h0 : 0 < T.size) (h : S.size + T.size ≤ 40) : (putF o es S ps (S.size : Nat) T).2.1.size = S.size + T.size := by
  unfold putF
  rw [if_neg (by omega), if_neg (by omega)]
  have e0 : ((S.size : Nat) : Int).toNat = S.size := by simp
  rw [e0, mkB_size, List.length_append, List.length_drop, lenL, lenL]
  omega
def lenX : Value → Nat
  | .string s => s.size
  | _ => 0
def lenAt (W : World) (Xb : Nat) : Nat := match W.cell? ⟨Xb, 0, none⟩ with | some (.string s) => s.size | _ => 0

theorem lenAt_of {W : World} {base Rb Xb : Nat} {v : Value} {es : List (Int × Int)} {S : ByteArray} {pv : Value} {ps : List (Int × ByteArray)} (h : Dr W base Rb Xb v es S pv ps) : lenAt W Xb = S.size := by
  have c : W.cell? ⟨Xb, 0, none⟩ = some (.string S) := by simp [World.cell?, h.hx]
  unfold lenAt; rw [c]
theorem Dr.fin {W : World} {base Rb Xb : Nat} {v : Value} {es : List (Int × Int)} {S : ByteArray} {pv : Value} {ps : List (Int × ByteArray)} (h : Dr W base Rb Xb v es S pv ps) (u u' : Value) :
    OwnP ((W.setCell ⟨Rb, 0, none⟩ u).setCell ⟨Rb, 1, none⟩ u') base v es ∧ ((W.setCell ⟨Rb, 0, none⟩ u).setCell ⟨Rb, 1, none⟩ u').ownsRow base 79 2 pv ps.length (cellsT ps) ∧ Below base W ((W.setCell ⟨Rb, 0, none⟩ u).setCell ⟨Rb, 1, none⟩ u') :=
  ⟨OwnP.setCell_other (OwnP.setCell_other h.rows.rm (a := ⟨Rb, 0, none⟩) (fun e => (h.nm _ e).2 rfl) _) (a := ⟨Rb, 1, none⟩) (fun e => (h.nm _ e).2 rfl) _,
   ownsRow_setCell_other (ownsRow_setCell_other h.rows.rt (a := ⟨Rb, 0, none⟩) (fun e => (h.np _ e).2 rfl) _) (a := ⟨Rb, 1, none⟩) (fun e => (h.np _ e).2 rfl) _,
   ((Below.refl _ _).setCell (p := ⟨Rb, 0, none⟩) h.br _).setCell (p := ⟨Rb, 1, none⟩) h.br _⟩

theorem Dr.setS {W : World} {base Rb Xb : Nat} {v : Value} {es : List (Int × Int)} {S : ByteArray} {pv : Value} {ps : List (Int × ByteArray)} (h : Dr W base Rb Xb v es S pv ps) (S' : ByteArray) : Dr (W.setCell ⟨Xb, 0, none⟩ (.string S')) base Rb Xb v es S' pv ps := by
  refine ⟨by rw [setCell_obj h.hx]; simp, (Below.heap_setCell _ _ _ _ (fun e => h.ne e.symm)).trans h.hr, ⟨?_, ?_, h.rows.ne, h.rows.nn⟩, h.nm, h.np, h.br, h.bx, h.ne⟩
  · exact OwnP.setCell_other h.rows.rm (a := ⟨Xb, 0, none⟩) (fun e => (h.nm _ e).1 rfl) _
  · exact ownsRow_setCell_other h.rows.rt (a := ⟨Xb, 0, none⟩) (fun e => (h.np _ e).1 rfl) _
theorem Dr.setPart {W : World} {base Rb Xb g c : Nat} {v : Value} {es : List (Int × Int)} {S : ByteArray} {q : Int × ByteArray} {ps : List (Int × ByteArray)} (h : Dr W base Rb Xb v es S (.slice (some ⟨g, 0, none⟩) (q :: ps).length c) (q :: ps)) (X : ByteArray) : Dr (W.setCell ⟨g, 1, none⟩ (.string X)) base Rb Xb v es S (.slice (some ⟨g, 0, none⟩) (q :: ps).length c) ((q.1, X) :: ps) := by
  obtain ⟨n1, n2⟩ := h.np g rfl
  refine ⟨(Below.heap_setCell _ _ _ _ (fun e => n1 e.symm)).trans h.hx, (Below.heap_setCell _ _ _ _ (fun e => n2 e.symm)).trans h.hr, ⟨?_, ?_, h.rows.ne, h.rows.nn⟩, h.nm, h.np, h.br, h.bx, h.ne⟩
  · refine OwnP.setCell_other h.rows.rm (a := ⟨g, 1, none⟩) (fun e => ?_) _
    rcases h.rows.ne with q0 | q0
    · rw [q0] at e; cases e
    · exact q0 e
  · have := (h.rows.rt.stored 1 (.string X)).1
    rw [cellsT_cons] at this
    rw [cellsT_cons]; exact this
/-- what is loaded where a stream is drawn -/
theorem Dr.cells {W : World} {base Rb Xb : Nat} {v : Value} {es : List (Int × Int)} {S : ByteArray} {pv : Value} {ps : List (Int × ByteArray)} (h : Dr W base Rb Xb v es S pv ps) :
    W.cell? ⟨Xb, 0, none⟩ = some (.string S) ∧ W.cell? ⟨Xb, 1, none⟩ = some pv ∧ (∀ j, W.frozen? ⟨Xb, j, none⟩ = false) ∧ W.cell? ⟨Rb, 0, none⟩ = some (.string ⟨#[]⟩) ∧ W.cell? ⟨Rb, 1, none⟩ = some (.slice none 0 0) ∧ (∀ j, W.frozen? ⟨Rb, j, none⟩ = false) := by
  refine ⟨by simp [World.cell?, h.hx], by simp [World.cell?, h.hx], fun j => by simp [World.frozen?, h.hx], by simp [World.cell?, h.hr], by simp [World.cell?, h.hr], fun j => by simp [World.frozen?, h.hr]⟩

set_option maxRecDepth 8000 in
set_option maxHeartbeats 16000000 in
theorem stream_any (b : Nat) (a : Option Addr) (len cap : Nat) (z : Nat → Int) (p : Nat) (w : World) (h : Rd w b a len cap z p) (hp : p ≤ 1000) :
    Calls Tryz.prog 26 #[.pointer (some ⟨b, 0, none⟩)] w fun e w' => ∃ v es S pv ps p', e = .returned (.tuple #[v, .agg #[.string S, pv]]) ∧ GoodE es ∧ OwnP w' w.heap.size v es ∧ w'.ownsRow w.heap.size 79 2 pv ps.length (cellsT ps) ∧ S.size ≤ 41 ∧ ps.length ≤ 40 ∧ (∀ q ∈ ps, (1 ≤ q.1 ∧ q.1 ≤ 6) ∧ q.2.size ≤ 8) ∧ p' ≤ p + 500 ∧ Rd w' b a len cap z p' ∧ Kit.Aside b w w' := by
  have hb : b < w.heap.size := blk h.c0
  have bA : Below w.heap.size w (w.alloc (.cells #[.string ⟨#[]⟩, .slice none 0 0] 26)) := (Below.refl _ _).alloc (Nat.le_refl _) _
  have h0 := h.below bA
  have z0 : (w.alloc (.cells #[.string ⟨#[]⟩, .slice none 0 0] 26)).heap.size = w.heap.size + 1 := by simp
  have g0 : (w.alloc (.cells #[.string ⟨#[]⟩, .slice none 0 0] 26)).heap[w.heap.size]? = some (.cells #[.string ⟨#[]⟩, .slice none 0 0] 26 (0, 0)) := World.alloc_heap_new _ _
  go_enter Tryz.func26, Tryz.ntmps26
  go_wp2_with fail
  refine (map_room b a len cap z p _ h0 (by omega)).mono ?_
  rintro e w1 ⟨v, m, p1, rfl, hm, hml, hsm, hnm, hp1, r1, k1, hrm⟩
  rw [z0] at hnm
  have s1 : Kit.Aside b w w1 := (Kit.Aside.ofBelow bA).trans k1
  have g1 := (k1.block w.heap.size (by omega) (by omega)).trans g0
  have z1 := k1.size
  rw [z0] at z1
  clear k1 g0 z0 h0
  go_wp2_with fail
  refine (sok_any _ v m hm (by omega)).mono ?_
  rintro e w2 ⟨rfl, k2⟩
  have hm2 := hm.below k2
  have r2 := r1.below k2
  have s2 := s1.trans (Kit.Aside.ofBelow k2)
  have g2 := (k2.block w.heap.size (by omega)).trans g1
  have z2 : w.heap.size + 1 ≤ w2.heap.size := by have := k2.size; omega
  have hr2 : RoomM w2 v := by
    intro g o n c e
    obtain ⟨q1, cur, q2, q3⟩ := hrm g o n c e
    exact ⟨q1, cur, (k2.block g (Array.getElem?_eq_some_iff.1 q2).1).trans q2, q3⟩
  clear k2 hm hrm r1 s1 g1 z1
  go_upto_if 13 with fail
  go_cut [4] from 9 (fun s4 wx => ∃ es, GoodE es ∧ OwnP wx w.heap.size s4 es ∧ NewM (w.heap.size + 1) s4 ∧ Rd wx b a len cap z p1 ∧ Kit.Aside b w wx ∧ wx.heap[w.heap.size]? = some (.cells #[.string ⟨#[]⟩, .slice none 0 0] 26 (0, 0)))
  case first =>
    cases hok : okM m
    · go_wp2_with fail
      go_meet
      have hn := World.ownsRow_made (base := w.heap.size) (e := 83) (size := 3) w2 #[] 0 (by omega) (Nat.zero_le _) rfl
      exact ⟨[], GoodE.nil, OwnP.of_row hn, (fun g o n c e => by simp at e; omega), r2.below ((Below.refl _ _).alloc (Nat.le_refl _) _), s2.alloc _, (Below.heap_alloc _ _ _ (by omega)).trans g2⟩
    · go_wp2_with fail
      go_meet
      obtain ⟨hg, he⟩ := okM_out m hok
      exact ⟨m.map Prod.snd, hg, ownP_of (by rw [← he]; exact hm2) hr2 (fun g o n c e => by have := hnm g o n c e; omega), hnm, r2, s2, g2⟩
  case rest =>
  obtain ⟨es, hg, hrow, hnew, r3, s3, g3⟩ := hcut
  clear hm2 r2 s2 g2 z2 hr2 hnm hsm hml
  have z3 : w.heap.size < wc.heap.size := (Array.getElem?_eq_some_iff.1 g3).1
  have hP := World.ownsRow_made (base := w.heap.size) (e := 79) (size := 2) wc #[] 0 (by omega) (Nat.zero_le _) rfl
  obtain ⟨va, vc, rfl⟩ := hrow.slice
  have d0 : Dr ((wc.alloc (.cells #[] 79)).alloc (.cells #[.string ⟨#[]⟩, .slice (some ⟨wc.heap.size, 0, none⟩) 0 0] 26)) w.heap.size w.heap.size (wc.heap.size + 1) (.slice va es.length vc) es ⟨#[]⟩ (.slice (some ⟨wc.heap.size, 0, none⟩) 0 0) [] := by
    refine ⟨?_, ?_, ⟨(hrow.alloc _).alloc _, hP.alloc _, ?_, ⟨_, rfl⟩⟩, fun k hk => ?_, fun k hk => ?_, Nat.le_refl _, by omega, by omega⟩
    · have := World.alloc_heap_new (wc.alloc (.cells #[] 79)) (.cells #[.string ⟨#[]⟩, .slice (some ⟨wc.heap.size, 0, none⟩) 0 0] 26)
      rwa [World.size_alloc] at this
    · exact (Below.heap_alloc _ _ _ (by simp; omega)).trans ((Below.heap_alloc _ _ _ (by omega)).trans g3)
    · cases q : (Value.slice va es.length vc).ownBlock with
      | none => exact .inl rfl
      | some k =>
        refine .inr fun e => ?_
        have := (hrow.lt k q).2
        simp [Value.ownBlock] at e; omega
    · have := (hrow.lt k hk).2
      refine ⟨by omega, ?_⟩
      cases va with
      | none => cases hk
      | some ad =>
        obtain ⟨ab, ao, asp⟩ := ad
        have ho : asp = none := by
          rcases hrow with ⟨e, _⟩ | ⟨g, o, cp, cur, e, _⟩
          · cases e
          · simp at e; exact e.1.2.2
        subst ho
        have := hnew ab ao _ _ rfl
        simp [Value.ownBlock] at hk
        omega
    · simp [Value.ownBlock] at hk
      omega
  have r4 : Rd ((wc.alloc (.cells #[] 79)).alloc (.cells #[.string ⟨#[]⟩, .slice (some ⟨wc.heap.size, 0, none⟩) 0 0] 26)) b a len cap z p1 := r3.below (((Below.refl _ _).alloc (Nat.le_refl _) _).alloc (by simp) _)
  have s4 := (s3.alloc (.cells #[] 79)).alloc (.cells #[.string ⟨#[]⟩, .slice (some ⟨wc.heap.size, 0, none⟩) 0 0] 26)
  obtain ⟨Xb, hXb⟩ : ∃ Xb, wc.heap.size + 1 = Xb := ⟨_, rfl⟩
  clear hP hrow hnew r3 s3 g3
  go_wp2_with fail
  refine (pick_any b a len cap z p1 _ _ r4 (by omega) (by omega)).mono ?_
  rintro e w5 ⟨x, rfl, hx0, hx1, r5, k5⟩
  rw [hXb] at d0
  have d5 := d0.aside (Kit.Aside.ofBut k5) hb
  have s5 := s4.but k5
  clear k5 d0 r4 s4
  go_wp2_with fail
  refine (text_ok b a len cap z (p1 + 1) 30 (by omega) _ r5 (by omega)).mono ?_
  rintro e w6 ⟨T0, p6, rfl, hTz, hTb, hp6, r6, k6⟩
  have d6 := d5.aside k6 hb
  have s6 := s5.trans k6
  clear k6 d5 r5 s5
  obtain ⟨o, ho⟩ : ∃ o, (x == 0) = o := ⟨_, rfl⟩
  have HTb := (show Hid (∀ c ∈ T0.data.toList, byteB c = true) from hTb)
  have HG := (show Hid (GoodE es) from hg)
  have HST := (show Hid (stB ⟨#[]⟩ [] = true) from stB_nil)
  clear hTb hg
  go_wp2
  go_loopw [4, 7] (fun m x wr => ∃ (es : List (Int × Int)) (S : ByteArray) (pv : Value) (ps : List (Int × ByteArray)) (T : ByteArray) (p' : Nat), Hid (GoodE es) ∧ Hid (Dr wr w.heap.size w.heap.size Xb m es S pv ps) ∧ Hid (stB S ps = true) ∧ x = .string T ∧ T.size ≤ 30 ∧ S.size ≤ T.size ∧ Hid (∀ c ∈ T.data.toList, byteB c = true) ∧ p' ≤ p6 + 2 * S.size ∧ Rd wr b a len cap z p' ∧ Kit.Aside b w wr) (fun m x wr => lenX x - lenAt wr Xb)
  case atStart =>
    exact ⟨es, ⟨#[]⟩, _, [], T0, p6, HG, d6, HST, rfl, hTz, Nat.zero_le _, HTb, by omega, r6, s6⟩
  case round =>
    clear HTb HG HST d6 r6 s6 hTz
    obtain ⟨es, S, pv, ps, T, p', HG, HD, HST, rfl, hTz, hST, HTb, hp', r, sd⟩ := hrel
    obtain ⟨va, vc, rfl⟩ := HD.out.rows.rm.slice
    obtain ⟨pa, pc, rfl⟩ := row_slice HD.out.rows.rt
    have c0 : wr.cell? ⟨Xb, 0, none⟩ = some (.string S) := by simp [World.cell?, HD.out.hx]
    have c1 : wr.cell? ⟨Xb, 1, none⟩ = some (.slice pa ps.length pc) := by simp [World.cell?, HD.out.hx]
    have cf : ∀ j, wr.frozen? ⟨Xb, j, none⟩ = false := fun j => by simp [World.frozen?, HD.out.hx]
    by_cases hlt : S.size < T.size
    · have hlt' : (S.size : Int) < (T.size : Int) := by omega
      go_wp2_with fail
      refine (pick_any b a len cap z p' _ _ r (by omega) (by omega)).mono ?_
      rintro e w7 ⟨n, rfl, hn0, hn1, r7, k7⟩
      obtain ⟨k, rfl⟩ := Int.eq_ofNat_of_zero_le hn0
      have HD7 := (show Hid _ from HD.out.aside (Kit.Aside.ofBut k7) hb)
      have s7 := sd.but k7
      have HLA := (show Hid (lenAt wr Xb = S.size) from lenAt_of HD.out)
      clear k7 r sd c0 c1 cf HD
      have c0 : w7.cell? ⟨Xb, 0, none⟩ = some (.string S) := by simp [World.cell?, HD7.out.hx]
      have c1 : w7.cell? ⟨Xb, 1, none⟩ = some (.slice pa ps.length pc) := by simp [World.cell?, HD7.out.hx]
      have cf : ∀ j, w7.frozen? ⟨Xb, j, none⟩ = false := fun j => by simp [World.frozen?, HD7.out.hx]
      obtain ⟨K, hK⟩ : ∃ K : Nat, min (S.size + (1 + k)) T.size = K := ⟨_, rfl⟩
      have hwr : IntKind.i64.wrap ((S.size : Int) + (1 + (k : Int))) = (S.size : Int) + (1 + (k : Int)) := by
        simp [IntKind.wrap, IntKind.bits, IntKind.signed]; omega
      have hmn : min ((S.size : Int) + (1 + (k : Int))) (T.size : Int) = (K : Int) := by omega
      have hK1 : S.size < K := by omega
      have hK2 : K ≤ T.size := by omega
      have hK3 : (S.size : Int) ≤ (K : Int) := by omega
      have hK4 : (K : Int) ≤ (T.size : Int) := by omega
      clear hK
      have hXok : okB (T.extract S.size K).data.toList = true := by
        refine ok_good _ ?_ (List.all_eq_true.2 fun c hc => HTb.out c ?_)
        · rw [lenL, ByteArray.size_extract]; omega
        · rw [ByteArray.data_extract, Array.toList_extract, List.extract_eq_take_drop] at hc
          exact List.mem_of_mem_drop (List.mem_of_mem_take hc)
      have HX := (show Hid (okB (T.extract S.size K).data.toList = true) from hXok)
      clear hXok
      have hS40 := S.size
      obtain ⟨q1, q2, _⟩ := putF_ok o S.size (T.extract S.size K) HG.out HST.out HX.out
      have q3 := putF_size o es S ps (T.extract S.size K) (by rw [ByteArray.size_extract]; omega) (by rw [ByteArray.size_extract]; omega)
      obtain ⟨P, hP⟩ : ∃ P, putF o es S ps (S.size : Nat) (T.extract S.size K) = P := ⟨_, rfl⟩
      have HP := (show Hid _ from hP)
      rw [hP] at q1 q2 q3
      obtain ⟨es8, S8, ps8, ok8⟩ := P
      simp only at q1 q2 q3
      have q4 : S8.size = K := by rw [q3, ByteArray.size_extract]; omega
      have HQ1 := (show Hid (GoodE es8) from q1)
      have HQ2 := (show Hid (stB S8 ps8 = true) from q2)
      clear hP q1 q2 q3
      have arm : Calls Tryz.prog 31 #[.slice va es.length vc, .agg #[.string S, .slice pa ps.length pc], .int .i64 (S.size : Nat), .string (T.extract S.size K), .bool o] w7.drew fun e w8 => ∃ va8 vc8 pa8 pc8, e = .returned (.tuple #[.slice va8 es8.length vc8, .agg #[.string S8, .slice pa8 ps8.length pc8], .bool ok8]) ∧
          Hid (Dr ((w8.setCell ⟨Xb, 0, none⟩ (.string S8)).setCell ⟨Xb, 1, none⟩ (.slice pa8 ps8.length pc8)) w.heap.size w.heap.size Xb (.slice va8 es8.length vc8) es8 S8 (.slice pa8 ps8.length pc8) ps8 ∧ Below w.heap.size w7 ((w8.setCell ⟨Xb, 0, none⟩ (.string S8)).setCell ⟨Xb, 1, none⟩ (.slice pa8 ps8.length pc8))) ∧ w8.cell? ⟨Xb, 0, none⟩ = some (.string S) ∧ w8.cell? ⟨Xb, 1, none⟩ = some (.slice pa ps.length pc) ∧ (∀ j, w8.frozen? ⟨Xb, j, none⟩ = false) := by
        refine (lput_any w7.drew w.heap.size (by exact s7.size) o _ es HG.out S _ ps HD7.out.drew.rows HST.out S.size (T.extract S.size K) HX.out (by omega)).mono ?_
        rintro e w8 ⟨v8, pv8, rfl, k8, kb8, kg8, kp8⟩
        rw [HP.out] at k8 ⊢
        simp only at k8
        have hX8 := (kg8.1.block Xb (Array.getElem?_eq_some_iff.1 HD7.out.hx).1 (fun e => (HD7.out.nm Xb e.symm).1 rfl)).trans HD7.out.hx
        have hR8 := (kg8.1.block w.heap.size (Array.getElem?_eq_some_iff.1 HD7.out.hr).1 (fun e => (HD7.out.nm _ e.symm).2 rfl)).trans HD7.out.hr
        obtain ⟨va8, vc8, rfl⟩ := k8.rm.slice
        obtain ⟨pa8, pc8, rfl⟩ := row_slice k8.rt
        have hXl := (Array.getElem?_eq_some_iff.1 HD7.out.hx).1
        have hRl := (Array.getElem?_eq_some_iff.1 HD7.out.hr).1
        have hbx := HD7.out.bx
        have hnm : ∀ k, (Value.slice va8 es8.length vc8).ownBlock = some k → k ≠ Xb ∧ k ≠ w.heap.size := fun k hk => by
          rcases kg8.2 with e | ⟨g, e, hg⟩
          · rw [e] at hk; exact HD7.out.nm k hk
          · rw [e] at hk; cases hk
            have hg' : w7.heap.size ≤ k := hg
            exact ⟨by omega, by omega⟩
        have hnp : ∀ k, (Value.slice pa8 ps8.length pc8).ownBlock = some k → k ≠ Xb ∧ k ≠ w.heap.size := fun k hk => by
          rcases kp8 k hk with e | hg
          · exact HD7.out.np k e
          · have hg' : w7.heap.size ≤ k := hg
            exact ⟨by omega, by omega⟩
        refine ⟨va8, vc8, pa8, pc8, rfl, ⟨⟨?_, ?_, ⟨?_, ?_, k8.ne, k8.nn⟩, hnm, hnp, HD7.out.br, HD7.out.bx, HD7.out.ne⟩, ?_⟩, by simp [World.cell?, hX8], by simp [World.cell?, hX8], fun j => by simp [World.frozen?, hX8]⟩
        · show (World.setCell _ _ _).heap[Xb]? = _
          rw [setCell_obj (setCell_obj hX8 _) _]; simp
        · show (World.setCell _ _ _).heap[w.heap.size]? = _
          exact (Below.heap_setCell _ _ _ _ (fun e => HD7.out.ne e.symm)).trans ((Below.heap_setCell _ _ _ _ (fun e => HD7.out.ne e.symm)).trans hR8)
        · exact OwnP.setCell_other (OwnP.setCell_other k8.rm (a := ⟨Xb, 0, none⟩) (fun e => (hnm _ e).1 rfl) _) (a := ⟨Xb, 1, none⟩) (fun e => (hnm _ e).1 rfl) _
        · exact ownsRow_setCell_other (ownsRow_setCell_other k8.rt (a := ⟨Xb, 0, none⟩) (fun e => (hnp _ e).1 rfl) _) (a := ⟨Xb, 1, none⟩) (fun e => (hnp _ e).1 rfl) _
        · have kb : Below w.heap.size w7 w8 := ⟨kb8.os, kb8.tape, kb8.output, kb8.size, kb8.block⟩
          have k2 := (kb.setCell (p := ⟨Xb, 0, none⟩) hbx (.string S8)).setCell (p := ⟨Xb, 1, none⟩) hbx (.slice pa8 ps8.length pc8)
          exact ⟨k2.os, k2.tape, k2.output, k2.size, k2.block⟩
      have hmix : Tryz.prog.follows .mixedOrders = true := by kernel_rfl
      obtain ⟨VV, hVV⟩ : ∃ VV : Value → Value → Nat → Value, VV = (fun (v8 a8 : Value) (j : Nat) => [(.slice va es.length vc : Value), .agg #[.string S, .slice pa ps.length pc], .pointer (some ⟨Xb, 0, none⟩), .string S, .int .i64 (S.size : Nat), .string T, .pointer (some ⟨Xb, 0, none⟩), .string S, .int .i64 (S.size : Nat), .pointer (some ⟨Xb, 0, none⟩), .string S, .int .i64 (S.size : Nat), .int .i64 (1 + (k : Int)), .int .i64 ((S.size : Int) + (1 + (k : Int))), .string T, .int .i64 (T.size : Nat), .int .i64 (K : Nat), .string (T.extract S.size K), .bool o, .tuple #[v8, a8, .bool ok8], .tuple #[v8, a8, .bool ok8], v8, a8, .bool ok8, v8].getD j undef) := ⟨_, rfl⟩
      have V0 : ∀ v8 a8, VV v8 a8 0 = .slice va es.length vc := fun v8 a8 => by rw [hVV]; rfl
      have V1 : ∀ v8 a8, VV v8 a8 1 = .agg #[.string S, .slice pa ps.length pc] := fun v8 a8 => by rw [hVV]; rfl
      have V2 : ∀ v8 a8, VV v8 a8 2 = .pointer (some ⟨Xb, 0, none⟩) := fun v8 a8 => by rw [hVV]; rfl
      have V3 : ∀ v8 a8, VV v8 a8 3 = .string S := fun v8 a8 => by rw [hVV]; rfl
      have V4 : ∀ v8 a8, VV v8 a8 4 = .int .i64 (S.size : Nat) := fun v8 a8 => by rw [hVV]; rfl
      have V5 : ∀ v8 a8, VV v8 a8 5 = .string T := fun v8 a8 => by rw [hVV]; rfl
      have V6 : ∀ v8 a8, VV v8 a8 6 = .pointer (some ⟨Xb, 0, none⟩) := fun v8 a8 => by rw [hVV]; rfl
      have V7 : ∀ v8 a8, VV v8 a8 7 = .string S := fun v8 a8 => by rw [hVV]; rfl
      have V8 : ∀ v8 a8, VV v8 a8 8 = .int .i64 (S.size : Nat) := fun v8 a8 => by rw [hVV]; rfl
      have V9 : ∀ v8 a8, VV v8 a8 9 = .pointer (some ⟨Xb, 0, none⟩) := fun v8 a8 => by rw [hVV]; rfl
      have V10 : ∀ v8 a8, VV v8 a8 10 = .string S := fun v8 a8 => by rw [hVV]; rfl
      have V11 : ∀ v8 a8, VV v8 a8 11 = .int .i64 (S.size : Nat) := fun v8 a8 => by rw [hVV]; rfl
      have V12 : ∀ v8 a8, VV v8 a8 12 = .int .i64 (1 + (k : Int)) := fun v8 a8 => by rw [hVV]; rfl
      have V13 : ∀ v8 a8, VV v8 a8 13 = .int .i64 ((S.size : Int) + (1 + (k : Int))) := fun v8 a8 => by rw [hVV]; rfl
      have V14 : ∀ v8 a8, VV v8 a8 14 = .string T := fun v8 a8 => by rw [hVV]; rfl
      have V15 : ∀ v8 a8, VV v8 a8 15 = .int .i64 (T.size : Nat) := fun v8 a8 => by rw [hVV]; rfl
      have V16 : ∀ v8 a8, VV v8 a8 16 = .int .i64 (K : Nat) := fun v8 a8 => by rw [hVV]; rfl
      have V17 : ∀ v8 a8, VV v8 a8 17 = .string (T.extract S.size K) := fun v8 a8 => by rw [hVV]; rfl
      have V18 : ∀ v8 a8, VV v8 a8 18 = .bool o := fun v8 a8 => by rw [hVV]; rfl
      have V19 : ∀ v8 a8, VV v8 a8 19 = .tuple #[v8, a8, .bool ok8] := fun v8 a8 => by rw [hVV]; rfl
      have V20 : ∀ v8 a8, VV v8 a8 20 = .tuple #[v8, a8, .bool ok8] := fun v8 a8 => by rw [hVV]; rfl
      have V21 : ∀ v8 a8, VV v8 a8 21 = v8 := fun v8 a8 => by rw [hVV]; rfl
      have V22 : ∀ v8 a8, VV v8 a8 22 = a8 := fun v8 a8 => by rw [hVV]; rfl
      have V23 : ∀ v8 a8, VV v8 a8 23 = .bool ok8 := fun v8 a8 => by rw [hVV]; rfl
      have V24 : ∀ v8 a8, VV v8 a8 24 = v8 := fun v8 a8 => by rw [hVV]; rfl
      have V25 : ∀ v8 a8, VV v8 a8 25 = undef := fun v8 a8 => by rw [hVV]; rfl
      have VL : ∀ v8 a8 v9 a9 j, j < 19 → VV v8 a8 j = VV v9 a9 j := by
        intro v8 a8 v9 a9 j hj
        have hc : j = 0 ∨ j = 1 ∨ j = 2 ∨ j = 3 ∨ j = 4 ∨ j = 5 ∨ j = 6 ∨ j = 7 ∨ j = 8 ∨ j = 9 ∨ j = 10 ∨ j = 11 ∨ j = 12 ∨ j = 13 ∨ j = 14 ∨ j = 15 ∨ j = 16 ∨ j = 17 ∨ j = 18 := by omega
        rcases hc with rfl | rfl | rfl | rfl | rfl | rfl | rfl | rfl | rfl | rfl | rfl | rfl | rfl | rfl | rfl | rfl | rfl | rfl | rfl <;> (rw [hVV]; rfl)
      clear hVV
      obtain ⟨FF, hFF⟩ : ∃ FF : Value → Value → World → Prop, FF = fun v8 a8 w8 => ∃ va8 vc8 pa8 pc8, v8 = .slice va8 es8.length vc8 ∧ a8 = .agg #[.string S8, .slice pa8 ps8.length pc8] ∧ Hid (Dr ((w8.setCell ⟨Xb, 0, none⟩ (.string S8)).setCell ⟨Xb, 1, none⟩ (.slice pa8 ps8.length pc8)) w.heap.size w.heap.size Xb (.slice va8 es8.length vc8) es8 S8 (.slice pa8 ps8.length pc8) ps8 ∧ Below w.heap.size w7 ((w8.setCell ⟨Xb, 0, none⟩ (.string S8)).setCell ⟨Xb, 1, none⟩ (.slice pa8 ps8.length pc8))) ∧ w8.cell? ⟨Xb, 0, none⟩ = some (.string S) ∧ w8.cell? ⟨Xb, 1, none⟩ = some (.slice pa ps.length pc) ∧ (∀ j, w8.frozen? ⟨Xb, j, none⟩ = false) := ⟨_, rfl⟩
      have armF : Calls Tryz.prog 31 #[.slice va es.length vc, .agg #[.string S, .slice pa ps.length pc], .int .i64 (S.size : Nat), .string (T.extract S.size K), .bool o] w7.drew fun e w8 => ∃ v8 a8, e = .returned (.tuple #[v8, a8, .bool ok8]) ∧ FF v8 a8 w8 := by
        refine arm.mono ?_
        rintro e w8 ⟨va8, vc8, pa8, pc8, rfl, h1, h2, h3, h4⟩
        rw [hFF]
        exact ⟨_, _, rfl, va8, vc8, pa8, pc8, rfl, rfl, h1, h2, h3, h4⟩
      clear arm
      obtain ⟨stW, hst⟩ : ∃ stW : World → Value → World, ∀ w8 s pv, stW w8 (.agg #[.string s, pv]) = (w8.setCell ⟨Xb, 0, none⟩ (.string s)).setCell ⟨Xb, 1, none⟩ pv := ⟨fun w8 a => match a with | .agg xs => (w8.setCell ⟨Xb, 0, none⟩ (xs.getD 0 undef)).setCell ⟨Xb, 1, none⟩ (xs.getD 1 undef) | _ => w8, fun _ _ _ => rfl⟩
      go_upto_region 9 with fail
      refine wp_region_any hmix ?_
      refine Ri.any_inv (I := fun l a' w' => l.size = 26 ∧ ∃ (t : Nat → Value) (v8 a8 : Value) (w8 : World), a' = { tmps := #[.pointer (some ⟨b, 0, none⟩), undef, .slice none 0 0, .pointer (some ⟨w.heap.size, 0, none⟩), t 24, .pointer (some ⟨Xb, 0, none⟩), .bool o, .string T, .int .i64 (1 + (k : Int)), u9, u10, u11, u12, u13, u14, .slice (some ⟨wc.heap.size, 0, none⟩) 0 0, .agg #[.string ⟨#[]⟩, .slice (some ⟨wc.heap.size, 0, none⟩) 0 0], .pointer (some ⟨b, 0, none⟩), .int .i64 x, .bool o, .pointer (some ⟨b, 0, none⟩), .string T0, .pointer (some ⟨Xb, 0, none⟩), .string S, .int .i64 (S.size : Nat), .string T, .int .i64 (T.size : Nat), .bool true, .pointer (some ⟨b, 0, none⟩), .int .i64 (k : Nat), .int .i64 (1 + (k : Int)), t 20, t 0, t 1, t 2, t 3, t 4, t 5, t 6, t 7, t 8, t 9, t 10, t 11, t 12, t 13, t 14, t 15, t 16, t 17, t 18, t 19, t 21, t 22, t 23, u55, u56, u57, u58, u59, u60, u61, u62, u63, u64, u65, u66, u67, u68, u69, u70, u71, u72, u73, u74, u75, u76, u77, u78, u79, u80, u81, u82, u83, u84, u85, u86, u87, u88], defers := [] } ∧ Rg.Vals l (VV v8 a8) t ∧ (l.getD 24 false = false → t 24 = .slice va es.length vc) ∧ Ri.PhP (FF v8 a8 w8) w7.drew w8 (stW w8 a8) (l.getD 19 false) (l.getD 25 false) w') ?sz ?low ?step ?fin _ _ _ _ ?start (Ri.closed_none _ _ _) (Rg.left_all _)
      case sz => exact fun l a' w' h => h.1
      case start => exact ⟨by simp, fun j => ([u32, u33, u34, u35, u36, u37, u38, u39, u40, u41, u42, u43, u44, u45, u46, u47, u48, u49, u50, u51, u31, u52, u53, u54, .slice va es.length vc] : List Value).getD j undef, undef, undef, w7, rfl, Rg.vals_none _ _ _, fun _ => rfl, by rw [Rg.rep_none]; rfl⟩
      case low => exact Ri.low_of (by kernel_rfl)
      case step =>
        rintro l a' w' i ⟨hsz, t, v8, a8, w8, rfl, hv, h24, hw⟩ hcl hi
        obtain ⟨h0, op, ho, hd⟩ := mem_ready.1 hi
        have hi26 : i < 26 := (Array.getElem?_eq_some_iff.1 ho).1
        have hnl := Rg.not_listed h0
        have hL1 : l.getD 19 false = true → ∀ j, j < 19 → l.getD j false = true := Ri.up_of (by kernel_rfl) hcl
        have hL2 : ∀ j, 20 ≤ j → j < 20 + 6 → l.getD j false = true → l.getD 19 false = true := Ri.down_of (by kernel_rfl) hcl
        clear h0 hi hcl
        have hc : i = 0 ∨ i = 1 ∨ i = 2 ∨ i = 3 ∨ i = 4 ∨ i = 5 ∨ i = 6 ∨ i = 7 ∨ i = 8 ∨ i = 9 ∨ i = 10 ∨ i = 11 ∨ i = 12 ∨ i = 13 ∨ i = 14 ∨ i = 15 ∨ i = 16 ∨ i = 17 ∨ i = 18 ∨ i = 19 ∨ i = 20 ∨ i = 21 ∨ i = 22 ∨ i = 23 ∨ i = 24 ∨ i = 25 := by omega
        rcases hc with rfl | rfl | rfl | rfl | rfl | rfl | rfl | rfl | rfl | rfl | rfl | rfl | rfl | rfl | rfl | rfl | rfl | rfl | rfl | rfl | rfl | rfl | rfl | rfl | rfl | rfl
        · have q19 : l.getD 19 false = false := by
            cases q : l.getD 19 false
            · rfl
            · rw [hL1 q 0 (by omega)] at hnl; cases hnl
          rw [q19] at hw
          obtain rfl : w' = w7.drew := hw
          obtain rfl : _ = op := Option.some.inj (show some _ = some op from ho)
          have e24 : t 24 = .slice va es.length vc := h24 (by cases q : l.getD 24 false; rfl; rw [hL2 24 (by omega) (by omega) q] at q19; cases q19)
          have HV := (show Hid (Rg.Vals l (VV v8 a8) t) from hv)
          clear hv hd ho
          refine wpOp_step rfl fun K9 hK9 => ?_
          have HKK := (show Hid _ from hK9)
          clear hK9
          go_simp
          refine HKK.out _ _ ⟨by simp [hsz], fun j => if j = 0 then .slice va es.length vc else t j, v8, a8, w8, by simp [e24], HV.out.put 0 _ (V0 v8 a8).symm, ?_, ?_⟩
          · rw [getD_set_ne false (by omega)]; intro h; simpa using h24 h
          · rw [getD_set_ne false (by omega), q19]; rfl
        · have q19 : l.getD 19 false = false := by
            cases q : l.getD 19 false
            · rfl
            · rw [hL1 q 1 (by omega)] at hnl; cases hnl
          rw [q19] at hw
          obtain rfl : w' = w7.drew := hw
          obtain rfl : _ = op := Option.some.inj (show some _ = some op from ho)
          have HV := (show Hid (Rg.Vals l (VV v8 a8) t) from hv)
          clear hv hd ho
          refine wpOp_step rfl fun K9 hK9 => ?_
          have HKK := (show Hid _ from hK9)
          clear hK9
          go_simp
          refine HKK.out _ _ ⟨by simp [hsz], fun j => if j = 1 then .agg #[.string S, .slice pa ps.length pc] else t j, v8, a8, w8, by simp, HV.out.put 1 _ (V1 v8 a8).symm, ?_, ?_⟩
          · rw [getD_set_ne false (by omega)]; intro h; simpa using h24 h
          · rw [getD_set_ne false (by omega), q19]; rfl
        · have q19 : l.getD 19 false = false := by
            cases q : l.getD 19 false
            · rfl
            · rw [hL1 q 2 (by omega)] at hnl; cases hnl
          rw [q19] at hw
          obtain rfl : w' = w7.drew := hw
          obtain rfl : _ = op := Option.some.inj (show some _ = some op from ho)
          have HV := (show Hid (Rg.Vals l (VV v8 a8) t) from hv)
          clear hv hd ho
          refine wpOp_step rfl fun K9 hK9 => ?_
          have HKK := (show Hid _ from hK9)
          clear hK9
          go_simp
          refine HKK.out _ _ ⟨by simp [hsz], fun j => if j = 2 then .pointer (some ⟨Xb, 0, none⟩) else t j, v8, a8, w8, by simp, HV.out.put 2 _ (V2 v8 a8).symm, ?_, ?_⟩
          · rw [getD_set_ne false (by omega)]; intro h; simpa using h24 h
          · rw [getD_set_ne false (by omega), q19]; rfl
        · have q19 : l.getD 19 false = false := by
            cases q : l.getD 19 false
            · rfl
            · rw [hL1 q 3 (by omega)] at hnl; cases hnl
          rw [q19] at hw
          obtain rfl : w' = w7.drew := hw
          obtain rfl : _ = op := Option.some.inj (show some _ = some op from ho)
          have e2 : t 2 = .pointer (some ⟨Xb, 0, none⟩) := (hv 2 (hd { on := 2, ground := .data } (by simp) rfl)).trans (V2 v8 a8)
          have HV := (show Hid (Rg.Vals l (VV v8 a8) t) from hv)
          clear hv hd ho
          refine wpOp_step rfl fun K9 hK9 => ?_
          have HKK := (show Hid _ from hK9)
          clear hK9
          go_simp
          refine HKK.out _ _ ⟨by simp [hsz], fun j => if j = 3 then .string S else t j, v8, a8, w8, by simp [e2], HV.out.put 3 _ (V3 v8 a8).symm, ?_, ?_⟩
          · rw [getD_set_ne false (by omega)]; intro h; simpa using h24 h
          · rw [getD_set_ne false (by omega), q19]; rfl
        · have q19 : l.getD 19 false = false := by
            cases q : l.getD 19 false
            · rfl
            · rw [hL1 q 4 (by omega)] at hnl; cases hnl
          rw [q19] at hw
          obtain rfl : w' = w7.drew := hw
          obtain rfl : _ = op := Option.some.inj (show some _ = some op from ho)
          have e3 : t 3 = .string S := (hv 3 (hd { on := 3, ground := .data } (by simp) rfl)).trans (V3 v8 a8)
          have HV := (show Hid (Rg.Vals l (VV v8 a8) t) from hv)
          clear hv hd ho
          refine wpOp_step rfl fun K9 hK9 => ?_
          have HKK := (show Hid _ from hK9)
          clear hK9
          go_simp
          refine HKK.out _ _ ⟨by simp [hsz], fun j => if j = 4 then .int .i64 (S.size : Nat) else t j, v8, a8, w8, by simp [e3], HV.out.put 4 _ (V4 v8 a8).symm, ?_, ?_⟩
          · rw [getD_set_ne false (by omega)]; intro h; simpa using h24 h
          · rw [getD_set_ne false (by omega), q19]; rfl
        · have q19 : l.getD 19 false = false := by
            cases q : l.getD 19 false
            · rfl
            · rw [hL1 q 5 (by omega)] at hnl; cases hnl
          rw [q19] at hw
          obtain rfl : w' = w7.drew := hw
          obtain rfl : _ = op := Option.some.inj (show some _ = some op from ho)
          have HV := (show Hid (Rg.Vals l (VV v8 a8) t) from hv)
          clear hv hd ho
          refine wpOp_step rfl fun K9 hK9 => ?_
          have HKK := (show Hid _ from hK9)
          clear hK9
          go_simp
          refine HKK.out _ _ ⟨by simp [hsz], fun j => if j = 5 then .string T else t j, v8, a8, w8, by simp, HV.out.put 5 _ (V5 v8 a8).symm, ?_, ?_⟩
          · rw [getD_set_ne false (by omega)]; intro h; simpa using h24 h
          · rw [getD_set_ne false (by omega), q19]; rfl
        · have q19 : l.getD 19 false = false := by
            cases q : l.getD 19 false
            · rfl
            · rw [hL1 q 6 (by omega)] at hnl; cases hnl
          rw [q19] at hw
          obtain rfl : w' = w7.drew := hw
          obtain rfl : _ = op := Option.some.inj (show some _ = some op from ho)
          have HV := (show Hid (Rg.Vals l (VV v8 a8) t) from hv)
          clear hv hd ho
          refine wpOp_step rfl fun K9 hK9 => ?_
          have HKK := (show Hid _ from hK9)
          clear hK9
          go_simp
          refine HKK.out _ _ ⟨by simp [hsz], fun j => if j = 6 then .pointer (some ⟨Xb, 0, none⟩) else t j, v8, a8, w8, by simp, HV.out.put 6 _ (V6 v8 a8).symm, ?_, ?_⟩
          · rw [getD_set_ne false (by omega)]; intro h; simpa using h24 h
          · rw [getD_set_ne false (by omega), q19]; rfl
        · have q19 : l.getD 19 false = false := by
            cases q : l.getD 19 false
            · rfl
            · rw [hL1 q 7 (by omega)] at hnl; cases hnl
          rw [q19] at hw
          obtain rfl : w' = w7.drew := hw
          obtain rfl : _ = op := Option.some.inj (show some _ = some op from ho)
          have e6 : t 6 = .pointer (some ⟨Xb, 0, none⟩) := (hv 6 (hd { on := 6, ground := .data } (by simp) rfl)).trans (V6 v8 a8)
          have HV := (show Hid (Rg.Vals l (VV v8 a8) t) from hv)
          clear hv hd ho
          refine wpOp_step rfl fun K9 hK9 => ?_
          have HKK := (show Hid _ from hK9)
          clear hK9
          go_simp
          refine HKK.out _ _ ⟨by simp [hsz], fun j => if j = 7 then .string S else t j, v8, a8, w8, by simp [e6], HV.out.put 7 _ (V7 v8 a8).symm, ?_, ?_⟩
          · rw [getD_set_ne false (by omega)]; intro h; simpa using h24 h
          · rw [getD_set_ne false (by omega), q19]; rfl
        · have q19 : l.getD 19 false = false := by
            cases q : l.getD 19 false
            · rfl
            · rw [hL1 q 8 (by omega)] at hnl; cases hnl
          rw [q19] at hw
          obtain rfl : w' = w7.drew := hw
          obtain rfl : _ = op := Option.some.inj (show some _ = some op from ho)
          have e7 : t 7 = .string S := (hv 7 (hd { on := 7, ground := .data } (by simp) rfl)).trans (V7 v8 a8)
          have HV := (show Hid (Rg.Vals l (VV v8 a8) t) from hv)
          clear hv hd ho
          refine wpOp_step rfl fun K9 hK9 => ?_
          have HKK := (show Hid _ from hK9)
          clear hK9
          go_simp
          refine HKK.out _ _ ⟨by simp [hsz], fun j => if j = 8 then .int .i64 (S.size : Nat) else t j, v8, a8, w8, by simp [e7], HV.out.put 8 _ (V8 v8 a8).symm, ?_, ?_⟩
          · rw [getD_set_ne false (by omega)]; intro h; simpa using h24 h
          · rw [getD_set_ne false (by omega), q19]; rfl
        · have q19 : l.getD 19 false = false := by
            cases q : l.getD 19 false
            · rfl
            · rw [hL1 q 9 (by omega)] at hnl; cases hnl
          rw [q19] at hw
          obtain rfl : w' = w7.drew := hw
          obtain rfl : _ = op := Option.some.inj (show some _ = some op from ho)
          have HV := (show Hid (Rg.Vals l (VV v8 a8) t) from hv)
          clear hv hd ho
          refine wpOp_step rfl fun K9 hK9 => ?_
          have HKK := (show Hid _ from hK9)
          clear hK9
          go_simp
          refine HKK.out _ _ ⟨by simp [hsz], fun j => if j = 9 then .pointer (some ⟨Xb, 0, none⟩) else t j, v8, a8, w8, by simp, HV.out.put 9 _ (V9 v8 a8).symm, ?_, ?_⟩
          · rw [getD_set_ne false (by omega)]; intro h; simpa using h24 h
          · rw [getD_set_ne false (by omega), q19]; rfl
        · have q19 : l.getD 19 false = false := by
            cases q : l.getD 19 false
            · rfl
            · rw [hL1 q 10 (by omega)] at hnl; cases hnl
          rw [q19] at hw
          obtain rfl : w' = w7.drew := hw
          obtain rfl : _ = op := Option.some.inj (show some _ = some op from ho)
          have e9 : t 9 = .pointer (some ⟨Xb, 0, none⟩) := (hv 9 (hd { on := 9, ground := .data } (by simp) rfl)).trans (V9 v8 a8)
          have HV := (show Hid (Rg.Vals l (VV v8 a8) t) from hv)
          clear hv hd ho
          refine wpOp_step rfl fun K9 hK9 => ?_
          have HKK := (show Hid _ from hK9)
          clear hK9
          go_simp
          refine HKK.out _ _ ⟨by simp [hsz], fun j => if j = 10 then .string S else t j, v8, a8, w8, by simp [e9], HV.out.put 10 _ (V10 v8 a8).symm, ?_, ?_⟩
          · rw [getD_set_ne false (by omega)]; intro h; simpa using h24 h
          · rw [getD_set_ne false (by omega), q19]; rfl
        · have q19 : l.getD 19 false = false := by
            cases q : l.getD 19 false
            · rfl
            · rw [hL1 q 11 (by omega)] at hnl; cases hnl
          rw [q19] at hw
          obtain rfl : w' = w7.drew := hw
          obtain rfl : _ = op := Option.some.inj (show some _ = some op from ho)
          have e10 : t 10 = .string S := (hv 10 (hd { on := 10, ground := .data } (by simp) rfl)).trans (V10 v8 a8)
          have HV := (show Hid (Rg.Vals l (VV v8 a8) t) from hv)
          clear hv hd ho
          refine wpOp_step rfl fun K9 hK9 => ?_
          have HKK := (show Hid _ from hK9)
          clear hK9
          go_simp
          refine HKK.out _ _ ⟨by simp [hsz], fun j => if j = 11 then .int .i64 (S.size : Nat) else t j, v8, a8, w8, by simp [e10], HV.out.put 11 _ (V11 v8 a8).symm, ?_, ?_⟩
          · rw [getD_set_ne false (by omega)]; intro h; simpa using h24 h
          · rw [getD_set_ne false (by omega), q19]; rfl
        · have q19 : l.getD 19 false = false := by
            cases q : l.getD 19 false
            · rfl
            · rw [hL1 q 12 (by omega)] at hnl; cases hnl
          rw [q19] at hw
          obtain rfl : w' = w7.drew := hw
          obtain rfl : _ = op := Option.some.inj (show some _ = some op from ho)
          have HV := (show Hid (Rg.Vals l (VV v8 a8) t) from hv)
          clear hv hd ho
          refine wpOp_step rfl fun K9 hK9 => ?_
          have HKK := (show Hid _ from hK9)
          clear hK9
          go_simp
          refine HKK.out _ _ ⟨by simp [hsz], fun j => if j = 12 then .int .i64 (1 + (k : Int)) else t j, v8, a8, w8, by simp, HV.out.put 12 _ (V12 v8 a8).symm, ?_, ?_⟩
          · rw [getD_set_ne false (by omega)]; intro h; simpa using h24 h
          · rw [getD_set_ne false (by omega), q19]; rfl
        · have q19 : l.getD 19 false = false := by
            cases q : l.getD 19 false
            · rfl
            · rw [hL1 q 13 (by omega)] at hnl; cases hnl
          rw [q19] at hw
          obtain rfl : w' = w7.drew := hw
          obtain rfl : _ = op := Option.some.inj (show some _ = some op from ho)
          have e11 : t 11 = .int .i64 (S.size : Nat) := (hv 11 (hd { on := 11, ground := .data } (by simp) rfl)).trans (V11 v8 a8)
          have e12 : t 12 = .int .i64 (1 + (k : Int)) := (hv 12 (hd { on := 12, ground := .data } (by simp) rfl)).trans (V12 v8 a8)
          have HV := (show Hid (Rg.Vals l (VV v8 a8) t) from hv)
          clear hv hd ho
          refine wpOp_step rfl fun K9 hK9 => ?_
          have HKK := (show Hid _ from hK9)
          clear hK9
          go_simp
          refine HKK.out _ _ ⟨by simp [hsz], fun j => if j = 13 then .int .i64 ((S.size : Int) + (1 + (k : Int))) else t j, v8, a8, w8, by simp [e11, e12, hwr], HV.out.put 13 _ (V13 v8 a8).symm, ?_, ?_⟩
          · rw [getD_set_ne false (by omega)]; intro h; simpa using h24 h
          · rw [getD_set_ne false (by omega), q19]; rfl
        · have q19 : l.getD 19 false = false := by
            cases q : l.getD 19 false
            · rfl
            · rw [hL1 q 14 (by omega)] at hnl; cases hnl
          rw [q19] at hw
          obtain rfl : w' = w7.drew := hw
          obtain rfl : _ = op := Option.some.inj (show some _ = some op from ho)
          have HV := (show Hid (Rg.Vals l (VV v8 a8) t) from hv)
          clear hv hd ho
          refine wpOp_step rfl fun K9 hK9 => ?_
          have HKK := (show Hid _ from hK9)
          clear hK9
          go_simp
          refine HKK.out _ _ ⟨by simp [hsz], fun j => if j = 14 then .string T else t j, v8, a8, w8, by simp, HV.out.put 14 _ (V14 v8 a8).symm, ?_, ?_⟩
          · rw [getD_set_ne false (by omega)]; intro h; simpa using h24 h
          · rw [getD_set_ne false (by omega), q19]; rfl
        · have q19 : l.getD 19 false = false := by
            cases q : l.getD 19 false
            · rfl
            · rw [hL1 q 15 (by omega)] at hnl; cases hnl
          rw [q19] at hw
          obtain rfl : w' = w7.drew := hw
          obtain rfl : _ = op := Option.some.inj (show some _ = some op from ho)
          have e14 : t 14 = .string T := (hv 14 (hd { on := 14, ground := .data } (by simp) rfl)).trans (V14 v8 a8)
          have HV := (show Hid (Rg.Vals l (VV v8 a8) t) from hv)
          clear hv hd ho
          refine wpOp_step rfl fun K9 hK9 => ?_
          have HKK := (show Hid _ from hK9)
          clear hK9
          go_simp
          refine HKK.out _ _ ⟨by simp [hsz], fun j => if j = 15 then .int .i64 (T.size : Nat) else t j, v8, a8, w8, by simp [e14], HV.out.put 15 _ (V15 v8 a8).symm, ?_, ?_⟩
          · rw [getD_set_ne false (by omega)]; intro h; simpa using h24 h
          · rw [getD_set_ne false (by omega), q19]; rfl
        · have q19 : l.getD 19 false = false := by
            cases q : l.getD 19 false
            · rfl
            · rw [hL1 q 16 (by omega)] at hnl; cases hnl
          rw [q19] at hw
          obtain rfl : w' = w7.drew := hw
          obtain rfl : _ = op := Option.some.inj (show some _ = some op from ho)
          have e13 : t 13 = .int .i64 ((S.size : Int) + (1 + (k : Int))) := (hv 13 (hd { on := 13, ground := .data } (by simp) rfl)).trans (V13 v8 a8)
          have e15 : t 15 = .int .i64 (T.size : Nat) := (hv 15 (hd { on := 15, ground := .data } (by simp) rfl)).trans (V15 v8 a8)
          have HV := (show Hid (Rg.Vals l (VV v8 a8) t) from hv)
          clear hv hd ho
          refine wpOp_step rfl fun K9 hK9 => ?_
          have HKK := (show Hid _ from hK9)
          clear hK9
          go_simp
          refine HKK.out _ _ ⟨by simp [hsz], fun j => if j = 16 then .int .i64 (K : Nat) else t j, v8, a8, w8, by simp [e13, e15, hmn], HV.out.put 16 _ (V16 v8 a8).symm, ?_, ?_⟩
          · rw [getD_set_ne false (by omega)]; intro h; simpa using h24 h
          · rw [getD_set_ne false (by omega), q19]; rfl
        · have q19 : l.getD 19 false = false := by
            cases q : l.getD 19 false
            · rfl
            · rw [hL1 q 17 (by omega)] at hnl; cases hnl
          rw [q19] at hw
          obtain rfl : w' = w7.drew := hw
          obtain rfl : _ = op := Option.some.inj (show some _ = some op from ho)
          have e5 : t 5 = .string T := (hv 5 (hd { on := 5, ground := .data } (by simp) rfl)).trans (V5 v8 a8)
          have e8 : t 8 = .int .i64 (S.size : Nat) := (hv 8 (hd { on := 8, ground := .data } (by simp) rfl)).trans (V8 v8 a8)
          have e16 : t 16 = .int .i64 (K : Nat) := (hv 16 (hd { on := 16, ground := .data } (by simp) rfl)).trans (V16 v8 a8)
          have HV := (show Hid (Rg.Vals l (VV v8 a8) t) from hv)
          clear hv hd ho
          refine wpOp_step rfl fun K9 hK9 => ?_
          have HKK := (show Hid _ from hK9)
          clear hK9
          go_simp
          refine HKK.out _ _ ⟨by simp [hsz], fun j => if j = 17 then .string (T.extract S.size K) else t j, v8, a8, w8, by simp [e5, e8, e16], HV.out.put 17 _ (V17 v8 a8).symm, ?_, ?_⟩
          · rw [getD_set_ne false (by omega)]; intro h; simpa using h24 h
          · rw [getD_set_ne false (by omega), q19]; rfl
        · have q19 : l.getD 19 false = false := by
            cases q : l.getD 19 false
            · rfl
            · rw [hL1 q 18 (by omega)] at hnl; cases hnl
          rw [q19] at hw
          obtain rfl : w' = w7.drew := hw
          obtain rfl : _ = op := Option.some.inj (show some _ = some op from ho)
          have HV := (show Hid (Rg.Vals l (VV v8 a8) t) from hv)
          clear hv hd ho
          refine wpOp_step rfl fun K9 hK9 => ?_
          have HKK := (show Hid _ from hK9)
          clear hK9
          go_simp
          refine HKK.out _ _ ⟨by simp [hsz], fun j => if j = 18 then .bool o else t j, v8, a8, w8, by simp, HV.out.put 18 _ (V18 v8 a8).symm, ?_, ?_⟩
          · rw [getD_set_ne false (by omega)]; intro h; simpa using h24 h
          · rw [getD_set_ne false (by omega), q19]; rfl
        · rw [hnl] at hw
          obtain rfl : w' = w7.drew := hw
          obtain rfl : _ = op := Option.some.inj (show some _ = some op from ho)
          have e0 : t 0 = .slice va es.length vc := (hv 0 (hd { on := 0, ground := .data } (by simp) rfl)).trans (V0 v8 a8)
          have e1 : t 1 = .agg #[.string S, .slice pa ps.length pc] := (hv 1 (hd { on := 1, ground := .data } (by simp) rfl)).trans (V1 v8 a8)
          have e4 : t 4 = .int .i64 (S.size : Nat) := (hv 4 (hd { on := 4, ground := .data } (by simp) rfl)).trans (V4 v8 a8)
          have e17 : t 17 = .string (T.extract S.size K) := (hv 17 (hd { on := 17, ground := .data } (by simp) rfl)).trans (V17 v8 a8)
          have e18 : t 18 = .bool o := (hv 18 (hd { on := 18, ground := .data } (by simp) rfl)).trans (V18 v8 a8)
          have HV := (show Hid (Rg.Vals l (VV v8 a8) t) from hv)
          clear hv hd ho
          refine wpOp_step rfl fun K9 hK9 => ?_
          have HKK := (show Hid _ from hK9)
          clear hK9
          go_simp
          refine armF.mono ?_
          rintro e w9 ⟨v9, a9, rfl, hF9⟩
          refine HKK.out _ _ ⟨by simp [hsz], fun j => if j = 19 then .tuple #[v9, a9, .bool ok8] else t j, v9, a9, w9, by simp [e0, e1, e4, e17, e18], ?_, ?_, ?_⟩
          · have hv9 : Rg.Vals l (VV v9 a9) t := fun j hj => by
              by_cases h19 : j < 19
              · rw [VL v9 a9 v8 a8 j h19]; exact HV.out j hj
              · by_cases e : j = 19
                · subst e; rw [hnl] at hj; cases hj
                · have hj26 : j < 20 + 6 := by
                    rcases Nat.lt_or_ge j 26 with q | q
                    · omega
                    · rw [Array.getD, dif_neg (by omega)] at hj; cases hj
                  rw [hL2 j (by omega) hj26 hj] at hnl; cases hnl
            exact hv9.put 19 _ (V19 v9 a9).symm
          · rw [getD_set_ne false (by omega)]; intro h; simpa using h24 h
          · rw [Rg.set_same (by omega), getD_set_ne false (by omega)]
            have q25 : l.getD 25 false = false := by
              cases q : l.getD 25 false
              · rfl
              · rw [hL2 25 (by omega) (by omega) q] at hnl; cases hnl
            rw [q25]; exact ⟨hF9, rfl⟩
        · obtain rfl : _ = op := Option.some.inj (show some _ = some op from ho)
          have hdep : l.getD 19 false = true := hd { on := 19, ground := .data } (by simp) rfl
          have q19 := hdep
          have e19 : t 19 = .tuple #[v8, a8, .bool ok8] := (hv 19 hdep).trans (V19 v8 a8)
          rw [q19] at hw
          have HV := (show Hid (Rg.Vals l (VV v8 a8) t) from hv)
          have HW := (show Hid _ from hw)
          clear hv hd ho hw hdep
          refine wpOp_step rfl fun K9 hK9 => ?_
          have HKK := (show Hid _ from hK9)
          clear hK9
          go_simp
          refine HKK.out _ _ ⟨by simp [hsz], fun j => if j = 20 then .tuple #[v8, a8, .bool ok8] else t j, v8, a8, w8, by simp [e19], HV.out.put 20 _ (V20 v8 a8).symm, ?_, ?_⟩
          · rw [getD_set_ne false (by omega)]; intro h; simpa using h24 h
          · rw [getD_set_ne false (by omega), q19, getD_set_ne false (by omega)]; exact HW.out
        · obtain rfl : _ = op := Option.some.inj (show some _ = some op from ho)
          have hdep : l.getD 20 false = true := hd { on := 20, ground := .data } (by simp) rfl
          have q19 : l.getD 19 false = true := hL2 20 (by omega) (by omega) hdep
          have e20 : t 20 = .tuple #[v8, a8, .bool ok8] := (hv 20 hdep).trans (V20 v8 a8)
          rw [q19] at hw
          have HV := (show Hid (Rg.Vals l (VV v8 a8) t) from hv)
          have HW := (show Hid _ from hw)
          clear hv hd ho hw hdep
          refine wpOp_step rfl fun K9 hK9 => ?_
          have HKK := (show Hid _ from hK9)
          clear hK9
          go_simp
          refine HKK.out _ _ ⟨by simp [hsz], fun j => if j = 21 then v8 else t j, v8, a8, w8, by simp [e20], HV.out.put 21 _ (V21 v8 a8).symm, ?_, ?_⟩
          · rw [getD_set_ne false (by omega)]; intro h; simpa using h24 h
          · rw [getD_set_ne false (by omega), q19, getD_set_ne false (by omega)]; exact HW.out
        · obtain rfl : _ = op := Option.some.inj (show some _ = some op from ho)
          have hdep : l.getD 20 false = true := hd { on := 20, ground := .data } (by simp) rfl
          have q19 : l.getD 19 false = true := hL2 20 (by omega) (by omega) hdep
          have e20 : t 20 = .tuple #[v8, a8, .bool ok8] := (hv 20 hdep).trans (V20 v8 a8)
          rw [q19] at hw
          have HV := (show Hid (Rg.Vals l (VV v8 a8) t) from hv)
          have HW := (show Hid _ from hw)
          clear hv hd ho hw hdep
          refine wpOp_step rfl fun K9 hK9 => ?_
          have HKK := (show Hid _ from hK9)
          clear hK9
          go_simp
          refine HKK.out _ _ ⟨by simp [hsz], fun j => if j = 22 then a8 else t j, v8, a8, w8, by simp [e20], HV.out.put 22 _ (V22 v8 a8).symm, ?_, ?_⟩
          · rw [getD_set_ne false (by omega)]; intro h; simpa using h24 h
          · rw [getD_set_ne false (by omega), q19, getD_set_ne false (by omega)]; exact HW.out
        · obtain rfl : _ = op := Option.some.inj (show some _ = some op from ho)
          have hdep : l.getD 20 false = true := hd { on := 20, ground := .data } (by simp) rfl
          have q19 : l.getD 19 false = true := hL2 20 (by omega) (by omega) hdep
          have e20 : t 20 = .tuple #[v8, a8, .bool ok8] := (hv 20 hdep).trans (V20 v8 a8)
          rw [q19] at hw
          have HV := (show Hid (Rg.Vals l (VV v8 a8) t) from hv)
          have HW := (show Hid _ from hw)
          clear hv hd ho hw hdep
          refine wpOp_step rfl fun K9 hK9 => ?_
          have HKK := (show Hid _ from hK9)
          clear hK9
          go_simp
          refine HKK.out _ _ ⟨by simp [hsz], fun j => if j = 23 then .bool ok8 else t j, v8, a8, w8, by simp [e20], HV.out.put 23 _ (V23 v8 a8).symm, ?_, ?_⟩
          · rw [getD_set_ne false (by omega)]; intro h; simpa using h24 h
          · rw [getD_set_ne false (by omega), q19, getD_set_ne false (by omega)]; exact HW.out
        · obtain rfl : _ = op := Option.some.inj (show some _ = some op from ho)
          have hdep : l.getD 21 false = true := hd { on := 21, ground := .data } (by simp) rfl
          have q19 : l.getD 19 false = true := hL2 21 (by omega) (by omega) hdep
          have e21 : t 21 = v8 := (hv 21 hdep).trans (V21 v8 a8)
          rw [q19] at hw
          have HV := (show Hid (Rg.Vals l (VV v8 a8) t) from hv)
          have HW := (show Hid _ from hw)
          clear hv hd ho hw hdep
          refine wpOp_step rfl fun K9 hK9 => ?_
          have HKK := (show Hid _ from hK9)
          clear hK9
          go_simp
          refine HKK.out _ _ ⟨by simp [hsz], fun j => if j = 24 then v8 else t j, v8, a8, w8, by simp [e21], HV.out.put 24 _ (V24 v8 a8).symm, ?_, ?_⟩
          · rw [Rg.set_same (by omega)]; intro h; cases h
          · rw [getD_set_ne false (by omega), q19, getD_set_ne false (by omega)]; exact HW.out
        · obtain rfl : _ = op := Option.some.inj (show some _ = some op from ho)
          have hdep : l.getD 22 false = true := hd { on := 22, ground := .data } (by simp) rfl
          have q19 : l.getD 19 false = true := hL2 22 (by omega) (by omega) hdep
          have e22 : t 22 = a8 := (hv 22 hdep).trans (V22 v8 a8)
          rw [q19] at hw
          have HV := (show Hid (Rg.Vals l (VV v8 a8) t) from hv)
          have HW := (show Hid _ from hw)
          have hw' : FF v8 a8 w8 ∧ w' = w8 := by rw [hnl] at hw; exact hw
          obtain ⟨hF, rfl⟩ := hw'
          have hF2 := hF
          rw [hFF] at hF2
          obtain ⟨va8, vc8, pa8, pc8, rfl, rfl, f1, f2, f3, f4⟩ := hF2
          have HF := (show Hid _ from hF)
          clear hv hd ho hw hF hdep HW f1
          refine wpOp_step rfl fun K9 hK9 => ?_
          have HKK := (show Hid _ from hK9)
          clear hK9
          go_simp
          refine HKK.out _ _ ⟨by simp [hsz], fun j => if j = 25 then undef else t j, .slice va8 es8.length vc8, .agg #[.string S8, .slice pa8 ps8.length pc8], w', by simp [e22], ?_, ?_, ?_⟩
          · intro j hj
            by_cases e : j = 25
            · subst e; simp [V25]
            · simp only [if_neg e]; rw [getD_set_ne false (fun q => e q.symm)] at hj; exact HV.out j hj
          · rw [getD_set_ne false (by omega)]; intro h; simpa using h24 h
          · rw [getD_set_ne false (by omega), q19, Rg.set_same (by omega)]; exact ⟨HF.out, by rw [hst]⟩
      case fin =>
        rintro l a' w' ⟨hsz, t, v8, a8, w8, rfl, hv, h24, hw⟩ hall
        rw [hall 19 (by simp), hall 25 (by simp)] at hw
        obtain ⟨hF, rfl⟩ := hw
        have e24 : t 24 = v8 := (hv 24 (hall 24 (by simp))).trans (V24 v8 a8)
        rw [hFF] at hF
        obtain ⟨va8, vc8, pa8, pc8, rfl, rfl, f1, -, -, -⟩ := hF
        rw [hst]
        obtain ⟨hD8, kb8⟩ := f1.out
        rw [e24]
        clear hv h24 hall hFF e24 armF
        have r8 := rd_base h r7 kb8
        have s8 := aside_base s7 kb8
        generalize ((w8.setCell ⟨Xb, 0, none⟩ (.string S8)).setCell ⟨Xb, 1, none⟩ (.slice pa8 ps8.length pc8)) = w9 at hD8 r8 s8 ⊢
        have HD9 := (show Hid _ from hD8)
        clear hD8 kb8 f1 r7 s7 HD7 hst HX HST HG
        go_wp2_with fail
        refine (pick_any b a len cap z (p' + 1) _ _ r8 (by omega) (by omega)).mono ?_
        rintro e w10 ⟨y, rfl, hy0, hy1, r10, k10⟩
        have hD10 := HD9.out.aside (Kit.Aside.ofBut k10) hb
        have s10 := s8.but k10
        have c0 : w10.cell? ⟨Xb, 0, none⟩ = some (.string S8) := by simp [World.cell?, hD10.hx]
        have HL10 := (show Hid (lenAt w10 Xb = S8.size) from lenAt_of hD10)
        have HD10 := (show Hid _ from hD10)
        have hS8T : (S8.size : Int) ≤ (T.size : Int) := by omega
        clear k10 HD9 r8 s8 hD10
        by_cases y0 : y = 0
        · subst y0
          go_wp2
          go_roundw
          case rel =>
            refine ⟨es8, S8, _, ps8, T.extract 0 K, p' + 1 + 1, HQ1, HD10, HQ2, rfl, ?_, ?_, fun c hc => HTb.out c ?_, by omega, r10, s10⟩
            · rw [ByteArray.size_extract]; omega
            · rw [ByteArray.size_extract]; omega
            · rw [ByteArray.data_extract, Array.toList_extract, List.extract_eq_take_drop] at hc
              exact List.mem_of_mem_drop (List.mem_of_mem_take hc)
          case measure =>
            show lenX (.string (T.extract 0 K)) - lenAt w10 Xb < lenX (.string T) - lenAt wr Xb
            rw [HL10.out, HLA.out]
            show (T.extract 0 K).size - S8.size < T.size - S.size
            rw [ByteArray.size_extract]; omega
        · have y0' : (y == 0) = false := by simpa using y0
          go_wp2
          go_roundw
          case rel => exact ⟨es8, S8, _, ps8, T, p' + 1 + 1, HQ1, HD10, HQ2, rfl, hTz, by omega, HTb, by omega, r10, s10⟩
          case measure =>
            show lenX (.string T) - lenAt w10 Xb < lenX (.string T) - lenAt wr Xb
            rw [HL10.out, HLA.out]
            show T.size - S8.size < T.size - S.size
            omega
    · have hge : (T.size : Int) ≤ (S.size : Int) := by omega
      have hsm := stB_small HST.out
      have hps : ps.length ≤ 40 ∧ ∀ q ∈ ps, (1 ≤ q.1 ∧ q.1 ≤ 6) ∧ q.2.size ≤ 8 := ⟨hsm.1, fun q hq => ⟨(hsm.2 q hq).1, by have := (hsm.2 q hq).2.2; omega⟩⟩
      have HPS := (show Hid (ps.length ≤ 40 ∧ ∀ q ∈ ps, (1 ≤ q.1 ∧ q.1 ≤ 6) ∧ q.2.size ≤ 8) from hps)
      have hS30 : S.size ≤ 30 := by omega
      go_wp2_with fail
      refine (pick_any b a len cap z p' _ _ r (by omega) (by omega)).mono ?_
      rintro e w7 ⟨y, rfl, hy0, hy1, r7, k7⟩
      have hD7 := HD.out.aside (Kit.Aside.ofBut k7) hb
      have s7 := sd.but k7
      have nxr : ¬ Xb = w.heap.size := hD7.ne
      have nrx : ¬ w.heap.size = Xb := fun e => nxr e.symm
      have HD7 := (show Hid _ from hD7)
      clear k7 r sd c0 c1 cf HD hD7 HST hps hsm
      by_cases y0 : y = 0
      · subst y0
        have bA : Below w7.heap.size w7 (w7.drew.alloc (.cells #[.string ⟨#[120]⟩, .string ⟨#[32]⟩, .string ⟨#[64]⟩] 9)) := (Below.refl _ _).drew.alloc (Nat.le_refl _) _
        have arm : Calls Tryz.prog 54 #[.pointer (some ⟨b, 0, none⟩), .slice (some ⟨w7.heap.size, 0, none⟩) 3 3] (w7.drew.alloc (.cells #[.string ⟨#[120]⟩, .string ⟨#[32]⟩, .string ⟨#[64]⟩] 9)) fun e w9 => ∃ X : ByteArray, e = .returned (.string X) ∧ X.size ≤ 1 ∧ Hid (Rd w9 b a len cap z (p' + 1 + 1)) ∧ Hid (Kit.Aside b w w9) ∧ Hid (Dr w9 w.heap.size w.heap.size Xb (.slice va es.length vc) es S (.slice pa ps.length pc) ps) ∧ w9.cell? ⟨Xb, 0, none⟩ = some (.string S) ∧ w9.cell? ⟨Xb, 1, none⟩ = some (.slice pa ps.length pc) ∧ (∀ j, w9.frozen? ⟨Xb, j, none⟩ = false) ∧ w9.cell? ⟨w.heap.size, 0, none⟩ = some (.string ⟨#[]⟩) ∧ w9.cell? ⟨w.heap.size, 1, none⟩ = some (.slice none 0 0) ∧ (∀ j, w9.frozen? ⟨w.heap.size, j, none⟩ = false) := by
          have hl : ∀ i, i < 3 → (w7.drew.alloc (.cells #[.string ⟨#[120]⟩, .string ⟨#[32]⟩, .string ⟨#[64]⟩] 9)).cell? ⟨w7.heap.size, i, none⟩ = some (.string (([⟨#[120]⟩, ⟨#[32]⟩, ⟨#[64]⟩] : List ByteArray).getD i ⟨#[]⟩)) := list_cells w7.drew 9 [⟨#[120]⟩, ⟨#[32]⟩, ⟨#[64]⟩]
          have hb7 := blk r7.c0
          refine (ofs_any b a len cap z (p' + 1) w7.heap.size 3 (fun i => ([⟨#[120]⟩, ⟨#[32]⟩, ⟨#[64]⟩] : List ByteArray).getD i ⟨#[]⟩) _ (r7.below bA) (by omega) (by omega) (by simp at hb7; omega) hl).mono ?_
          rintro e w9 ⟨j, hj, rfl, r9, k9⟩
          have hD9 := (HD7.out.aside (Kit.Aside.ofBelow bA) hb).aside (Kit.Aside.ofBut k9) hb
          exact ⟨_, rfl, short_of [⟨#[120]⟩, ⟨#[32]⟩, ⟨#[64]⟩] 1 (by decide) j, r9, (s7.trans (Kit.Aside.ofBelow bA)).but k9, hD9, hD9.cells⟩
        obtain ⟨c0, c1, cf, e0, e1, ef⟩ := HD7.out.cells
        have hXl : Xb < w7.heap.size := (Array.getElem?_eq_some_iff.1 HD7.out.hx).1
        go_wp2_with fail
        go_region_with (go_at_call 54; refine arm.mono ?_; rintro e w9 ⟨X, rfl, hX1, hr9, hs9, hd9, d0, d1, df, g0, g1, gf⟩)
        all_goals
          go_wp2_with fail
          go_region
          all_goals
            go_wp2
            refine bodyPost_ret (v := .tuple #[.slice va es.length vc, .agg #[.string (S ++ X), .slice pa ps.length pc]]) ?_ rfl ?_
            · simp [results, Tryz.results26, go_sem, g0, g1, nxr, nrx]
            · have hdX := hd9.out.setS (S ++ X)
              obtain ⟨q1, q2, q3⟩ := hdX.fin (.string (S ++ X)) (.slice pa ps.length pc)
              have kX := (Below.refl w.heap.size w9).setCell (p := ⟨Xb, 0, none⟩) hd9.out.bx (.string (S ++ X))
              exact ⟨_, es, (S ++ X), _, ps, _, rfl, HG.out, (by first | exact q1.drew | exact q1), (by first | exact q2.drew | exact q2), (by rw [ByteArray.size_append]; omega), HPS.out.1, HPS.out.2, (by omega), rd_base h hr9.out (by first | exact (kX.trans q3).drew | exact kX.trans q3), aside_base hs9.out (by first | exact (kX.trans q3).drew | exact kX.trans q3)⟩
      · have y0' : (y == 0) = false := by simpa using y0
        obtain ⟨c0, c1, cf, e0, e1, ef⟩ := HD7.out.cells
        have hXl : Xb < w7.heap.size := (Array.getElem?_eq_some_iff.1 HD7.out.hx).1
        by_cases y1 : y = 1
        · subst y1
          cases ps with
          | nil =>
            go_wp2_with fail
            go_region
            all_goals
              go_wp2
              refine bodyPost_ret (v := .tuple #[.slice va es.length vc, .agg #[.string S, .slice pa ([] : List (Int × ByteArray)).length pc]]) ?_ rfl ?_
              · simp [results, Tryz.results26, go_sem, e0, e1, nxr, nrx]
              · have hdX := HD7.out
                obtain ⟨q1, q2, q3⟩ := hdX.fin (.string S) (.slice pa ([] : List (Int × ByteArray)).length pc)
                have kX := (Below.refl w.heap.size w7)
                exact ⟨_, es, S, _, [], _, rfl, HG.out, (by first | exact q1.drew | exact q1), (by first | exact q2.drew | exact q2), (by omega), HPS.out.1, HPS.out.2, (by omega), rd_base h r7 (by first | exact (kX.trans q3).drew | exact kX.trans q3), aside_base s7 (by first | exact (kX.trans q3).drew | exact kX.trans q3)⟩
          | cons q rest =>
            obtain ⟨k0, hk0⟩ := HD7.out.rows.nn
            obtain ⟨g, rfl, hbg⟩ : ∃ g, pa = some ⟨g, 0, none⟩ ∧ w.heap.size ≤ g := by
              rcases HD7.out.rows.rt.2 with ⟨e, _⟩ | ⟨g, cap, cur, e, hbg, _⟩
              · simp at e
              · simp only [Value.slice.injEq] at e
                exact ⟨g, e.1, hbg⟩
            obtain ⟨n1, n2⟩ := HD7.out.np g rfl
            have ngx : ¬ g = Xb := n1
            have nxg : ¬ Xb = g := fun e => n1 e.symm
            have ngr : ¬ g = w.heap.size := n2
            have nrg : ¬ w.heap.size = g := fun e => n2 e.symm
            have hlp : (0 : Int) < ((q :: rest).length : Nat) := by have : 0 < (q :: rest).length := List.length_pos_iff.2 (List.cons_ne_nil _ _); omega
            have bA : Below w7.heap.size w7 (w7.drew.alloc (.cells #[.string ⟨#[]⟩, .string ⟨#[97, 97, 97, 97, 97, 97, 97, 97]⟩, .string ⟨#[64, 49, 58, 49, 59]⟩, .string ⟨#[65]⟩] 9)) := (Below.refl _ _).drew.alloc (Nat.le_refl _) _
            have arm : Calls Tryz.prog 54 #[.pointer (some ⟨b, 0, none⟩), .slice (some ⟨w7.heap.size, 0, none⟩) 4 4] (w7.drew.alloc (.cells #[.string ⟨#[]⟩, .string ⟨#[97, 97, 97, 97, 97, 97, 97, 97]⟩, .string ⟨#[64, 49, 58, 49, 59]⟩, .string ⟨#[65]⟩] 9)) fun e w9 => ∃ X : ByteArray, e = .returned (.string X) ∧ X.size ≤ 8 ∧ Hid (Rd w9 b a len cap z (p' + 1 + 1)) ∧ Hid (Kit.Aside b w w9) ∧ Hid (Dr w9 w.heap.size w.heap.size Xb (.slice va es.length vc) es S (.slice (some ⟨g, 0, none⟩) (q :: rest).length pc) (q :: rest)) ∧ w9.cell? ⟨g, 1, none⟩ = some (.string q.2) ∧ w9.frozen? ⟨g, 1, none⟩ = false ∧ w9.cell? ⟨Xb, 0, none⟩ = some (.string S) ∧ w9.cell? ⟨Xb, 1, none⟩ = some (.slice (some ⟨g, 0, none⟩) (q :: rest).length pc) ∧ (∀ j, w9.frozen? ⟨Xb, j, none⟩ = false) ∧ w9.cell? ⟨w.heap.size, 0, none⟩ = some (.string ⟨#[]⟩) ∧ w9.cell? ⟨w.heap.size, 1, none⟩ = some (.slice none 0 0) ∧ (∀ j, w9.frozen? ⟨w.heap.size, j, none⟩ = false) := by
              have hl : ∀ i, i < 4 → (w7.drew.alloc (.cells #[.string ⟨#[]⟩, .string ⟨#[97, 97, 97, 97, 97, 97, 97, 97]⟩, .string ⟨#[64, 49, 58, 49, 59]⟩, .string ⟨#[65]⟩] 9)).cell? ⟨w7.heap.size, i, none⟩ = some (.string (([⟨#[]⟩, ⟨#[97, 97, 97, 97, 97, 97, 97, 97]⟩, ⟨#[64, 49, 58, 49, 59]⟩, ⟨#[65]⟩] : List ByteArray).getD i ⟨#[]⟩)) := list_cells w7.drew 9 [⟨#[]⟩, ⟨#[97, 97, 97, 97, 97, 97, 97, 97]⟩, ⟨#[64, 49, 58, 49, 59]⟩, ⟨#[65]⟩]
              have hb7 := blk r7.c0
              refine (ofs_any b a len cap z (p' + 1) w7.heap.size 4 (fun i => ([⟨#[]⟩, ⟨#[97, 97, 97, 97, 97, 97, 97, 97]⟩, ⟨#[64, 49, 58, 49, 59]⟩, ⟨#[65]⟩] : List ByteArray).getD i ⟨#[]⟩) _ (r7.below bA) (by omega) (by omega) (by simp at hb7; omega) hl).mono ?_
              rintro e w9 ⟨j, hj, rfl, r9, k9⟩
              have hD9 := (HD7.out.aside (Kit.Aside.ofBelow bA) hb).aside (Kit.Aside.ofBut k9) hb
              refine ⟨_, rfl, short_of [⟨#[]⟩, ⟨#[97, 97, 97, 97, 97, 97, 97, 97]⟩, ⟨#[64, 49, 58, 49, 59]⟩, ⟨#[65]⟩] 8 (by decide) j, r9, (s7.trans (Kit.Aside.ofBelow bA)).but k9, hD9, ?_, hD9.rows.rt.frozenAt 1, hD9.cells⟩
              rw [hD9.rows.rt.cellAt 1 (by simp; omega), cellsT_cons]; rfl
            go_wp2_with fail
            go_region_with (go_at_call 54; refine arm.mono ?_; rintro e w9 ⟨X, rfl, hX1, hr9, hs9, hd9, dg, dgf, d0, d1, df, g0, g1, gf⟩)
            all_goals
              go_wp2_with fail
              go_region
              all_goals
                go_wp2
                refine bodyPost_ret (v := .tuple #[.slice va es.length vc, .agg #[.string S, .slice (some ⟨g, 0, none⟩) (q :: rest).length pc]]) ?_ rfl ?_
                · simp [results, Tryz.results26, go_sem, g0, g1, nxr, nrx, ngr, nrg]
                · have hdX := hd9.out.setPart X
                  obtain ⟨q1, q2, q3⟩ := hdX.fin (.string S) (.slice (some ⟨g, 0, none⟩) (q :: rest).length pc)
                  have kX := (Below.refl w.heap.size w9).setCell (p := ⟨g, 1, none⟩) hbg (.string X)
                  exact ⟨_, es, S, _, ((q.1, X) :: rest), _, rfl, HG.out, (by first | exact q1.drew | exact q1), (by first | exact q2.drew | exact q2), (by omega), HPS.out.1, (by intro f hf; rcases List.mem_cons.1 hf with rfl | hf; exact ⟨(HPS.out.2 q (by simp)).1, hX1⟩; exact HPS.out.2 f (by simp [hf])), (by omega), rd_base h hr9.out (by first | exact (kX.trans q3).drew | exact kX.trans q3), aside_base hs9.out (by first | exact (kX.trans q3).drew | exact kX.trans q3)⟩
        · have y1' : (y == 1) = false := by simpa using y1
          go_wp2_with fail
          go_region
          all_goals
            go_wp2
            refine bodyPost_ret (v := .tuple #[.slice va es.length vc, .agg #[.string S, .slice pa ps.length pc]]) ?_ rfl ?_
            · simp [results, Tryz.results26, go_sem, e0, e1, nxr, nrx]
            · have hdX := HD7.out
              obtain ⟨q1, q2, q3⟩ := hdX.fin (.string S) (.slice pa ps.length pc)
              have kX := (Below.refl w.heap.size w7)
              exact ⟨_, es, S, _, ps, _, rfl, HG.out, (by first | exact q1.drew | exact q1), (by first | exact q2.drew | exact q2), (by omega), HPS.out.1, HPS.out.2, (by omega), rd_base h r7 (by first | exact (kX.trans q3).drew | exact kX.trans q3), aside_base s7 (by first | exact (kX.trans q3).drew | exact kX.trans q3)⟩
end Go.Proofs.YtdggchcapjidjabGreatDoor.StP

/- Walks: what the laws on streams draw. -/
namespace Go.Proofs.YtdggchcapjidjabGreatDoor.StP
open Go.RowKit Go.Shelf Go.Proofs.YtdggchcapjidjabGreatDoor.Kit Go.Proofs.YtdggchcapjidjabGreatDoor.Rd Go.Proofs.YtdggchcapjidjabGreatDoor.Draw Go.Proofs.YtdggchcapjidjabGreatDoor.Tx Go.Proofs.YtdggchcapjidjabGreatDoor.Mp Go.Proofs.YtdggchcapjidjabGreatDoor.Mm Go.Proofs.YtdggchcapjidjabGreatDoor.Ms Go.Proofs.YtdggchcapjidjabGreatDoor.Nm Go.Proofs.YtdggchcapjidjabGreatDoor.App Go.Proofs.YtdggchcapjidjabGreatDoor.St Go.Proofs.YtdggchcapjidjabGreatDoor.SpA
set_option linter.unusedSimpArgs false
set_option linter.unusedVariables false

/-- a stream that was drawn is small -/
def Sm (S : ByteArray) (ps : List (Int × ByteArray)) : Prop := S.size ≤ 41 ∧ ps.length ≤ 40 ∧ ∀ q ∈ ps, (1 ≤ q.1 ∧ q.1 ≤ 6) ∧ q.2.size ≤ 8
theorem set_two {W : World} {R : Nat} {x y : Value} (e0 : W.cell? ⟨R, 0, none⟩ = some x) (e1 : W.cell? ⟨R, 1, none⟩ = some y) (u v : Value) :
    ((W.setCell ⟨R, 0, none⟩ u).setCell ⟨R, 1, none⟩ v).cell? ⟨R, 0, none⟩ = some u ∧ ((W.setCell ⟨R, 0, none⟩ u).setCell ⟨R, 1, none⟩ v).cell? ⟨R, 1, none⟩ = some v := by
  have ne : (⟨R, 1, none⟩ : Addr) ≠ ⟨R, 0, none⟩ := by simp
  have ne' : (⟨R, 0, none⟩ : Addr) ≠ ⟨R, 1, none⟩ := by simp
  have h0 : (W.setCell ⟨R, 0, none⟩ u).cell? ⟨R, 0, none⟩ = some u := by
    first | exact World.cell?_setCell_same _ _ _ e0 | exact World.cell?_setCell_same _ _ e0 | exact World.cell?_setCell_same _ e0
  have h1 : (W.setCell ⟨R, 0, none⟩ u).cell? ⟨R, 1, none⟩ = some y := by
    first | (rw [World.cell?_setCell_other _ _ _ ne']; exact e1) | (rw [World.cell?_setCell_other _ _ _ _ ne']; exact e1) | (rw [World.cell?_setCell_other _ _ ne']; exact e1)
  refine ⟨?_, ?_⟩
  · first | (rw [World.cell?_setCell_other _ _ _ ne]; exact h0) | (rw [World.cell?_setCell_other _ _ _ _ ne]; exact h0) | (rw [World.cell?_setCell_other _ _ ne]; exact h0)
  · first | exact World.cell?_setCell_same _ _ _ h1 | exact World.cell?_setCell_same _ _ h1 | exact World.cell?_setCell_same _ h1

/-- what stands while numbers are picked beside a stream that lies at X; the result's place is R -/
structure Pk (w W : World) (b : Nat) (a : Option Addr) (len cap : Nat) (z : Nat → Int) (p X base : Nat) (S : ByteArray) (pv : Value) (ps : List (Int × ByteArray)) : Prop where
  rd : Rd W b a len cap z p
  x0 : W.cell? ⟨X, 0, none⟩ = some (.string S)
  x1 : W.cell? ⟨X, 1, none⟩ = some pv
  r0 : W.cell? ⟨w.heap.size, 0, none⟩ = some (.string ⟨#[]⟩)
  r1 : W.cell? ⟨w.heap.size, 1, none⟩ = some (.slice none 0 0)
  rf : ∀ j, W.frozen? ⟨w.heap.size, j, none⟩ = false
  hx : X ≠ b
  hr : w.heap.size < b
  hb : b < base
  row : W.ownsRow base 79 2 pv ps.length (cellsT ps)
  bel : Below w.heap.size w W
theorem Pk.drew {w W : World} {b : Nat} {a : Option Addr} {len cap : Nat} {z : Nat → Int} {p X base : Nat} {S : ByteArray} {pv : Value} {ps : List (Int × ByteArray)} (h : Pk w W b a len cap z p X base S pv ps) : Pk w W.drew b a len cap z p X base S pv ps :=
  ⟨h.rd.below (Below.refl _ _).drew, h.x0, h.x1, h.r0, h.r1, h.rf, h.hx, h.hr, h.hb, h.row.drew, h.bel.drew⟩
theorem Pk.but {w W W' : World} {b : Nat} {a : Option Addr} {len cap : Nat} {z : Nat → Int} {p q X base : Nat} {S : ByteArray} {pv : Value} {ps : List (Int × ByteArray)} (h : Pk w W b a len cap z p X base S pv ps) (r : Rd W' b a len cap z q) (k : But b W W') : Pk w W' b a len cap z q X base S pv ps :=
  ⟨r, (k.cell (p := ⟨X, 0, none⟩) h.hx).trans h.x0, (k.cell (p := ⟨X, 1, none⟩) h.hx).trans h.x1, (k.cell (p := ⟨w.heap.size, 0, none⟩) (Nat.ne_of_lt h.hr)).trans h.r0, (k.cell (p := ⟨w.heap.size, 1, none⟩) (Nat.ne_of_lt h.hr)).trans h.r1, fun j => (k.frozen (p := ⟨w.heap.size, j, none⟩) (Nat.ne_of_lt h.hr)).trans (h.rf j), h.hx, h.hr, h.hb, DrawM.row_but h.row k h.hb, h.bel.trans (k.below (Nat.le_of_lt h.hr))⟩
theorem Pk.pick {w W : World} {b : Nat} {a : Option Addr} {len cap : Nat} {z : Nat → Int} {p X base : Nat} {S : ByteArray} {pv : Value} {ps : List (Int × ByteArray)} (h : Pk w W b a len cap z p X base S pv ps) (hp : p ≤ 1000000) (n : Int) (hn : 1 ≤ n) :
    Calls Tryz.prog 28 #[.pointer (some ⟨b, 0, none⟩), .int .i64 n] W fun e W' => ∃ v, e = .returned (.int .i64 v) ∧ 0 ≤ v ∧ v < n ∧ Hid (Pk w W' b a len cap z (p + 1) X base S pv ps) ∧ W'.cell? ⟨X, 0, none⟩ = some (.string S) ∧ W'.cell? ⟨X, 1, none⟩ = some pv ∧ W'.cell? ⟨w.heap.size, 0, none⟩ = some (.string ⟨#[]⟩) ∧ W'.cell? ⟨w.heap.size, 1, none⟩ = some (.slice none 0 0) ∧ (∀ j, W'.frozen? ⟨w.heap.size, j, none⟩ = false) := by
  refine (pick_any b a len cap z p n W h.rd (by omega) hn).mono ?_
  rintro e W' ⟨v, rfl, h0, h1, r, k⟩
  have h' := h.but r k
  exact ⟨v, rfl, h0, h1, h', h'.x0, h'.x1, h'.r0, h'.r1, h'.rf⟩
theorem Pk.fin {w W : World} {b : Nat} {a : Option Addr} {len cap : Nat} {z : Nat → Int} {p X base : Nat} {S : ByteArray} {pv : Value} {ps : List (Int × ByteArray)} (h : Pk w W b a len cap z p X base S pv ps) (u u' : Value) :
    IsT ((W.setCell ⟨w.heap.size, 0, none⟩ u).setCell ⟨w.heap.size, 1, none⟩ u') pv ps ∧ Below w.heap.size w ((W.setCell ⟨w.heap.size, 0, none⟩ u).setCell ⟨w.heap.size, 1, none⟩ u') := by
  have hne : ∀ k, pv.ownBlock = some k → k ≠ w.heap.size := fun k hk => by have := (h.row.lt k hk).1; have := h.hr; have := h.hb; omega
  exact ⟨isT_of_row (ownsRow_setCell_other (ownsRow_setCell_other h.row (a := ⟨w.heap.size, 0, none⟩) (fun e => hne _ e rfl) _) (a := ⟨w.heap.size, 1, none⟩) (fun e => hne _ e rfl) _),
    (h.bel.setCell (p := ⟨w.heap.size, 0, none⟩) (Nat.le_refl _) _).setCell (p := ⟨w.heap.size, 1, none⟩) (Nat.le_refl _) _⟩

end Go.Proofs.YtdggchcapjidjabGreatDoor.StP

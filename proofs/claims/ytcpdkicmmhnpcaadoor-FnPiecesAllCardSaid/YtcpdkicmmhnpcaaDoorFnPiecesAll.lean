/- The walk of the law on all pieces of a text: it answers true. -/
import Derived.Test.YtcpdkicmmhnpcaaDoorLzP
import Derived.Test.YtcpdkicmmhnpcaaDoorDrawT
import Derived.Test.YtcpdkicmmhnpcaaDoorLaid
import Derived.Deep.Cut
import Derived.Test.YtcpdkicmmhnpcaaDoorRi
namespace Go.Proofs.YtcpdkicmmhnpcaaDoor.LPiecesAll
open Go.Proofs.YtcpdkicmmhnpcaaDoor.LzP
open Go.RowKit Go.Proofs.YtcpdkicmmhnpcaaDoor.Kit Go.Proofs.YtcpdkicmmhnpcaaDoor.Draw Go.Proofs.YtcpdkicmmhnpcaaDoor.Tx Go.Proofs.YtcpdkicmmhnpcaaDoor.Pcs Go.Proofs.YtcpdkicmmhnpcaaDoor.Lz
open Go.Proofs.YtcpdkicmmhnpcaaDoor.TxW (sok_any)
open Go.Proofs.YtcpdkicmmhnpcaaDoor.EndW (sideZ endV)
open Go.Proofs.YtcpdkicmmhnpcaaDoor.Text (txt txtL txt_list implText)
open Go.Proofs.YtcpdkicmmhnpcaaDoor.Read (Errs)
set_option linter.unusedSimpArgs false
set_option linter.unusedVariables false
attribute [local go_sem] undef

theorem app_l (s t : ByteArray) : (s ++ t).data.toList = s.data.toList ++ t.data.toList := by simp [ByteArray.data_append]
theorem one_l (x y : Int) (h : sideZ x y ≠ 0) : (⟨#[64]⟩ ++ txt x y ++ ⟨#[59]⟩ : ByteArray).data.toList = nmL (x, y) := by
  rw [app_l, app_l, ← ByteArray.toList_eq (txt x y), txt_list x y h]; rfl
theorem bytes_ext (a b : ByteArray) (h : a.data.toList = b.data.toList) : a = b := by
  cases a; cases b; simp at h; rw [h]

/-- the pieces from a piece's beginning on -/
theorem pcs_drop (k : Nat) (l : List UInt8) : pcs (l.drop (szs ((pcs l).take k))) = (pcs l).drop k := by
  induction k generalizing l with
  | zero => rfl
  | succ k ih =>
    by_cases h : l = []
    · subst h; simp [pcs_nil]
    · rw [Nm.pcs_cons l h]
      have := ih (l.drop (Nm.pc1 l).sz)
      rw [List.drop_drop] at this
      simp only [List.take_succ_cons, List.drop_succ_cons]
      exact this
theorem szs_snocA (ps : List Pc) (k : Nat) (h : k < ps.length) : szs (ps.take (k + 1)) = szs (ps.take k) + ps[k].sz := by
  rw [List.take_add_one, List.getElem?_eq_getElem h]
  unfold szs
  rw [List.map_append, List.sum_append]; simp
theorem szs_leA (ps : List Pc) (k : Nat) : szs (ps.take k) ≤ szs ps := by
  have : szs ps = szs (ps.take k) + szs (ps.drop k) := by
    conv => lhs; rw [← List.take_append_drop k ps]
    unfold szs
    rw [List.map_append, List.sum_append]
  omega
theorem take_szs (ps : List Pc) (k : Nat) (h : k < ps.length) : szs (ps.take k) + ps[k].sz ≤ szs ps := by
  rw [← szs_snocA ps k h]; exact szs_leA ps (k + 1)
/-- what a piece is, and where it stands -/
theorem piece_at (l : List UInt8) (k : Nat) (h : k < (pcs l).length) : szs ((pcs l).take k) + (pcs l)[k].sz ≤ l.length ∧
    (((pcs l)[k].nm = true ∧ sideZ (pcs l)[k].ad (pcs l)[k].po ≠ 0 ∧ (l.drop (szs ((pcs l).take k))).take (pcs l)[k].sz = nmL ((pcs l)[k].ad, (pcs l)[k].po)) ∨ ((pcs l)[k].nm = false ∧ (pcs l)[k].sz = 1 ∧ (pcs l)[k].ad = 0 ∧ (pcs l)[k].po = 0)) := by
  refine ⟨by have := take_szs (pcs l) k h; rw [szs_pcs] at this; exact this, ?_⟩
  have hd := pcs_drop k l
  rw [List.drop_eq_getElem_cons h] at hd
  generalize (pcs l)[k] = P at hd ⊢
  generalize l.drop (szs ((pcs l).take k)) = m at hd ⊢
  by_cases hm : m = []
  · subst hm; rw [pcs_nil] at hd; cases hd
  · cases q : nameO m with
    | none =>
      rw [pcs_none m hm q] at hd
      obtain ⟨rfl, _⟩ := List.cons.inj hd
      exact .inr ⟨rfl, rfl, rfl, rfl⟩
    | some e =>
      have hi := (nameO_some m e).1 q
      rw [pcs_some m e q] at hd
      obtain ⟨rfl, _⟩ := List.cons.inj hd
      exact .inl ⟨rfl, hi.1, (List.prefix_iff_eq_take.1 hi.2).symm⟩

/-- the same, in the text itself -/
theorem piece_in (L : List UInt8) (ps : List Pc) (hp : pcs (bd L) = ps) (k : Nat) (h : k < ps.length) : szs (ps.take k) + ps[k].sz ≤ L.length ∧
    ((ps[k].nm = true ∧ sideZ ps[k].ad ps[k].po ≠ 0 ∧ (L.drop (szs (ps.take k))).take ps[k].sz = nmL (ps[k].ad, ps[k].po)) ∨ (ps[k].nm = false ∧ ps[k].sz = 1 ∧ ps[k].ad = 0 ∧ ps[k].po = 0)) := by
  subst hp
  obtain ⟨h1, h2⟩ := piece_at (bd L) k h
  have hb := bd_len L
  refine ⟨by omega, ?_⟩
  rcases h2 with ⟨a, b, c⟩ | d
  · refine .inl ⟨a, b, ?_⟩
    have e : L.drop (szs ((pcs (bd L)).take k)) = (bd L).drop (szs ((pcs (bd L)).take k)) ++ hp L := by
      rw [← List.drop_append_of_le_length (by omega), bd_hp]
    rw [e, List.take_append_of_le_length (by rw [List.length_drop]; omega)]
    exact c
  · exact .inr d

set_option maxHeartbeats 400000 in
theorem long (a0 : Option Addr) (len0 cap0 : Nat) (w : World) (h : (1048576 : Int) < (len0 : Int)) :
    Calls Tryd.prog 3 #[.slice a0 len0 cap0] w fun e w' => e = .returned (.bool true) ∧ Below w.heap.size w w' := by
  go_enter Tryd.func3, Tryd.ntmps3
  go_wp2
  go_ret
  exact ⟨rfl, Below.refl _ _⟩

set_option maxRecDepth 8000 in
set_option maxHeartbeats 4000000 in
theorem short (a0 : Option Addr) (len0 cap0 : Nat) (z : Nat → Int) (w : World) (hc : CodeIn w a0 len0 cap0 z) (h : (len0 : Int) ≤ 1048576) (herr : Errs w) :
    Calls Tryd.prog 3 #[.slice a0 len0 cap0] w fun e w' => e = .returned (.bool true) ∧ Below w.heap.size w w' := by
  go_enter Tryd.func3, Tryd.ntmps3
  go_wp2_with fail
  refine (drawTextPieces a0 len0 cap0 z _ hc).mono ?_
  rintro e w1 ⟨s, rfl, hs, k1⟩
  have hmx : s.size ≤ maxLen := by unfold maxLen; omega
  obtain ⟨ps, hps⟩ : ∃ ps, pieL s.data.toList = ps := ⟨_, rfl⟩
  have hpl : ps.length ≤ 40 := by rw [← hps]; exact len_pie0 _
  go_wp2_with fail
  refine (pieces_is _ _ hps _ (herr.below k1)).mono ?_
  rintro e w2 ⟨v2, rfl, hv2, k2⟩
  have b2 := k1.trans (k2.mono k1.size)
  clear k1 k2
  go_wp2_with fail
  refine (spieces_is _ _ hps (by omega) _).mono ?_
  rintro e w3 ⟨v3, rfl, hv3, k3⟩
  have hv2' := hv2.below k3
  have b3 := b2.trans (k3.mono b2.size)
  clear b2 k3 hv2
  go_wp2_with fail
  refine (lz_true _ ps (by omega) _ _ hv2' hv3).mono ?_
  rintro e w4 ⟨rfl, k4⟩
  have hv4 := hv2'.below k4
  have b4 := b3.trans (k4.mono b3.size)
  clear b3 k4 hv2' hv3
  go_wp2_with fail
  refine (sok_any s hmx _).mono ?_
  rintro e w5 ⟨rfl, rfl⟩
  cases hok : okB s.data.toList
  · go_wp2_with fail
    refine (spieces_is _ _ hps (by omega) _).mono ?_
    rintro e w6 ⟨v6, rfl, hv6, k6⟩
    have hv4' := hv4.below k6
    have b6 := b4.trans (k6.mono b4.size)
    go_wp2_with fail
    refine (lz_true _ ps (by omega) _ _ hv4' hv6).mono ?_
    rintro e w7 ⟨rfl, k7⟩
    go_wp2
    go_ret
    exact ⟨rfl, b6.trans (k7.mono b6.size)⟩
  · have hlk := lenL s
    have hpo := pie_ok _ hok
    rw [hps] at hpo
    have hbl := bd_len s.data.toList
    have hll := heldN_len s.data.toList
    have hd := hd_ok _ hok
    have hsum : szs ps = s.size - heldN s.data.toList := by rw [hpo, szs_pcs, hbl, hlk]
    rw [hlk] at hll
    have HPO : Hid (pcs (bd s.data.toList) = ps) := hpo.symm
    have HSUM : Hid (szs ps = s.size - heldN s.data.toList) := hsum
    have HD : Hid (hdN s.data.toList = heldN s.data.toList) := hd
    have HLK : Hid (s.data.toList.length = s.size) := hlk
    clear hps hpo hbl hd hlk
    rcases hv4 with ⟨rfl, h0⟩ | ⟨g, o, c, rfl, _, _, hat⟩
    · have hs0 : s.size = heldN s.data.toList := by
        rw [h0] at hsum
        have : szs ([] : List Pc) = 0 := rfl
        omega
      go_wp2
      refine wp_loop_rounds 1 ?_
      rw [rounds_succ]
      go_wp2_with fail
      refine (held_is s (heldN s.data.toList) HD.out _).mono ?_
      rintro e w8 ⟨rfl, k8⟩
      clear HD HPO HSUM hsum
      generalize heldN s.data.toList = m at *
      go_wp2
      go_ret
      refine ⟨congrArg (fun b => Ending.returned (Value.bool b)) ?_, b4.trans (k8.mono b4.size)⟩
      first | rfl | (simp; omega)
    · clear hsum
      go_wp2
      go_loopw [5, 6] (fun a i wr => ∃ k : Nat, k ≤ ps.length ∧ i = .int .i64 k ∧ a = .int .i64 (szs (ps.take k) : Nat) ∧ Below w5.heap.size w5 wr) (fun a i wr => ps.length - (intOf i).toNat)
      case atStart => exact ⟨0, Nat.zero_le _, rfl, rfl, Below.refl _ _⟩
      case round =>
        obtain ⟨k, hk, rfl, rfl, hb⟩ := hrel
        by_cases hlt : k < ps.length
        · have hlt' : (k : Int) < (ps.length : Int) := by omega
          obtain ⟨x0, x1, x2, x3⟩ := (hat k _ (List.getElem?_eq_getElem hlt)).below hb
          obtain ⟨hle, hkind⟩ := piece_in s.data.toList ps HPO.out k hlt
          have hsn := szs_snocA ps k hlt
          generalize ps[k] = P at x0 x1 x2 x3 hle hkind hsn
          obtain ⟨sz, nm, ad, po⟩ := P
          simp only at x0 x1 x2 x3 hle hkind hsn
          rw [HLK.out] at hle
          have HS : Hid (szs (ps.take (k + 1)) = szs (ps.take k) + sz) := hsn
          clear hat hsn
          generalize hA : szs (ps.take k) = A at *
          clear hA
          rcases hkind with ⟨hnm, hsd, hnl⟩ | ⟨hnm, hsz, had, hpo2⟩
          · subst hnm
            have hE : s.extract A (A + sz) = ⟨#[64]⟩ ++ txt ad po ++ ⟨#[59]⟩ := by
              apply bytes_ext
              rw [Nm.ext_to, one_l ad po hsd, ← hnl, show A + sz - A = sz by omega]
            have hsm := Draw.txt_four ad po
            have hA1 : (A : Int) ≤ (A : Int) + (sz : Int) := by omega
            have hA2 : (A : Int) + (sz : Int) ≤ (s.size : Int) := by omega
            have hA3 : A + sz ≤ 400 := by omega
            have hA4 : A + sz ≤ s.size := by omega
            have hA5 : ((A + sz : Nat) : Int) ≤ (s.size : Int) := by omega
            have hA6 : (A : Int) ≤ ((A + sz : Nat) : Int) := by omega
            have hw : IntKind.i64.wrap ((A : Int) + (sz : Int)) = ((A + sz : Nat) : Int) := by simp [IntKind.wrap, IntKind.bits, IntKind.signed]; omega
            clear hnl hsd
            go_upto_region 12 with fail
            obtain ⟨EE, hE9⟩ : ∃ EE, s.extract A (A + sz) = EE := ⟨_, rfl⟩
            obtain ⟨TX, hTX⟩ : ∃ TX, txt ad po = TX := ⟨_, rfl⟩
            have hTN : ((A : Int) + (sz : Int)).toNat = A + sz := by omega
            have hE14 : (⟨#[64]⟩ ++ TX ++ ⟨#[59]⟩ : ByteArray) = EE := by rw [← hTX, ← hE, hE9]
            rw [hTX] at hsm
            clear hE
            have bA : Below wr.heap.size wr (wr.alloc (.cells #[.int .i64 (sz : Nat), .bool true, .int .i64 ad, .int .i64 po] 31)) := (Below.refl _ _).alloc (Nat.le_refl _) _
            have y0 : (wr.alloc (.cells #[.int .i64 (sz : Nat), .bool true, .int .i64 ad, .int .i64 po] 31)).cell? ⟨wr.heap.size, 0, none⟩ = some (.int .i64 (sz : Nat)) := by simp
            have y1 : (wr.alloc (.cells #[.int .i64 (sz : Nat), .bool true, .int .i64 ad, .int .i64 po] 31)).cell? ⟨wr.heap.size, 1, none⟩ = some (.bool true) := by simp
            have y2 : (wr.alloc (.cells #[.int .i64 (sz : Nat), .bool true, .int .i64 ad, .int .i64 po] 31)).cell? ⟨wr.heap.size, 2, none⟩ = some (.int .i64 ad) := by simp
            have y3 : (wr.alloc (.cells #[.int .i64 (sz : Nat), .bool true, .int .i64 ad, .int .i64 po] 31)).cell? ⟨wr.heap.size, 3, none⟩ = some (.int .i64 po) := by simp
            have hX6 : wr.heap.size < (wr.alloc (.cells #[.int .i64 (sz : Nat), .bool true, .int .i64 ad, .int .i64 po] 31)).heap.size := by simp
            generalize (wr.alloc (.cells #[.int .i64 (sz : Nat), .bool true, .int .i64 ad, .int .i64 po] 31)) = W6 at bA y0 y1 y2 y3 hX6 ⊢
            have HB6 := (show Hid (Below w5.heap.size w5 W6) from hb.trans (bA.mono hb.size))
            obtain ⟨X, hXe⟩ : ∃ X, wr.heap.size = X := ⟨_, rfl⟩
            rw [hXe] at y0 y1 y2 y3 hX6 ⊢
            clear bA hb hXe x0 x1 x2 x3
            have hmix : Tryd.prog.follows .mixedOrders = true := by kernel_rfl
            obtain ⟨VV, hVV⟩ : ∃ VV : Nat → Value, VV = fun j => [(.pointer (some ⟨X, 1, none⟩) : Value), .bool true, .bool true, .string s, .int .i64 ((A : Nat)), .int .i64 ((A : Nat)), .pointer (some ⟨X, 0, none⟩), .int .i64 ((sz : Nat)), .int .i64 (((A + sz : Nat) : Int)), .string EE, .pointer (some ⟨X, 2, none⟩), .agg #[.int .i64 ad, .int .i64 po], .string TX, .string (⟨#[64]⟩ ++ TX), .string EE, .bool false, .bool false, .bool false, .pointer (some ⟨X, 1, none⟩), .bool true, .bool false, .bool false, .tuple #[], .tuple #[], .tuple #[], .tuple #[], .tuple #[], .tuple #[], .tuple #[], .tuple #[], .tuple #[], .bool false, .bool false].getD j undef := ⟨_, rfl⟩
            have V0 : VV 0 = .pointer (some ⟨X, 1, none⟩) := by rw [hVV]; rfl
            have V1 : VV 1 = .bool true := by rw [hVV]; rfl
            have V2 : VV 2 = .bool true := by rw [hVV]; rfl
            have V3 : VV 3 = .string s := by rw [hVV]; rfl
            have V4 : VV 4 = .int .i64 ((A : Nat)) := by rw [hVV]; rfl
            have V5 : VV 5 = .int .i64 ((A : Nat)) := by rw [hVV]; rfl
            have V6 : VV 6 = .pointer (some ⟨X, 0, none⟩) := by rw [hVV]; rfl
            have V7 : VV 7 = .int .i64 ((sz : Nat)) := by rw [hVV]; rfl
            have V8 : VV 8 = .int .i64 (((A + sz : Nat) : Int)) := by rw [hVV]; rfl
            have V9 : VV 9 = .string EE := by rw [hVV]; rfl
            have V10 : VV 10 = .pointer (some ⟨X, 2, none⟩) := by rw [hVV]; rfl
            have V11 : VV 11 = .agg #[.int .i64 ad, .int .i64 po] := by rw [hVV]; rfl
            have V12 : VV 12 = .string TX := by rw [hVV]; rfl
            have V13 : VV 13 = .string (⟨#[64]⟩ ++ TX) := by rw [hVV]; rfl
            have V14 : VV 14 = .string EE := by rw [hVV]; rfl
            have V15 : VV 15 = .bool false := by rw [hVV]; rfl
            have V16 : VV 16 = .bool false := by rw [hVV]; rfl
            have V17 : VV 17 = .bool false := by rw [hVV]; rfl
            have V18 : VV 18 = .pointer (some ⟨X, 1, none⟩) := by rw [hVV]; rfl
            have V19 : VV 19 = .bool true := by rw [hVV]; rfl
            have V20 : VV 20 = .bool false := by rw [hVV]; rfl
            have V21 : VV 21 = .bool false := by rw [hVV]; rfl
            have V22 : VV 22 = .tuple #[] := by rw [hVV]; rfl
            have V23 : VV 23 = .tuple #[] := by rw [hVV]; rfl
            have V24 : VV 24 = .tuple #[] := by rw [hVV]; rfl
            have V25 : VV 25 = .tuple #[] := by rw [hVV]; rfl
            have V26 : VV 26 = .tuple #[] := by rw [hVV]; rfl
            have V27 : VV 27 = .tuple #[] := by rw [hVV]; rfl
            have V28 : VV 28 = .tuple #[] := by rw [hVV]; rfl
            have V29 : VV 29 = .tuple #[] := by rw [hVV]; rfl
            have V30 : VV 30 = .tuple #[] := by rw [hVV]; rfl
            have V31 : VV 31 = .bool false := by rw [hVV]; rfl
            have V32 : VV 32 = .bool false := by rw [hVV]; rfl
            clear hVV
            refine wp_region_any hmix ?_
            refine Ri.any_inv (I := fun l a' w' => l.size = 33 ∧ ∃ t : Nat → Value, a' = { tmps := #[.slice a0 len0 cap0, .tuple #[], u2, .string s, .slice (some ⟨g, o, none⟩) ps.length c, .int .i64 ((A : Nat)), .int .i64 ((k : Nat)), .pointer (some ⟨X, 0, none⟩), .slice a0 len0 cap0, .int .i64 ((len0 : Nat)), .bool (decide ((1048576 : Int) < (len0 : Int))), .slice a0 len0 cap0, .string s, .string s, .slice (some ⟨g, o, none⟩) ps.length c, .slice (some ⟨g, o, none⟩) ps.length c, .string s, v3, .bool true, .bool false, .bool false, .string s, .bool true, .bool false, .bool false, .tuple #[], .tuple #[], .tuple #[], .tuple #[], .int .i64 ((k : Nat)), .slice (some ⟨g, o, none⟩) ps.length c, .int .i64 ((ps.length : Nat)), .bool true, u33, u34, .slice (some ⟨g, o, none⟩) ps.length c, .int .i64 ((k : Nat)), .pointer (some ⟨g, o + k * 4, none⟩), .agg #[.int .i64 (sz : Nat), .bool true, .int .i64 ad, .int .i64 po], t 0, t 1, t 2, t 3, t 4, t 5, t 6, t 7, t 8, t 9, t 10, t 11, t 12, t 13, t 14, t 15, t 16, t 17, t 18, t 19, t 20, t 21, t 22, t 23, t 24, t 25, t 26, t 27, t 28, t 29, t 30, t 31, t 32, u72, u73, u74, u75, .tuple #[], .tuple #[], .tuple #[], .tuple #[], .tuple #[], .tuple #[], .tuple #[]], defers := [] } ∧ Rg.Vals l VV t ∧ Hid (Below W6.heap.size W6 w')) ?sz ?low ?step ?fin _ _ _ _ ?start (Ri.closed_none _ _ _) (Rg.left_all _)
            case sz => exact fun l a' w' h => h.1
            case start => exact ⟨by simp, fun j => ([u39, u40, u41, u42, u43, u44, u45, u46, u47, u48, u49, u50, u51, u52, u53, u54, u55, u56, u57, u58, u59, u60, u61, u62, u63, u64, u65, u66, u67, u68, u69, u70, u71] : List Value).getD j undef, rfl, Rg.vals_none _ _ _, (Below.refl _ _).drew⟩
            case low => exact Ri.low_of (by kernel_rfl)
            case step =>
              rintro l a' w' i ⟨hsz, t, rfl, hv, HW⟩ hcl hi
              obtain ⟨h0, op, ho, hd⟩ := mem_ready.1 hi
              have hin : i < 33 := (Array.getElem?_eq_some_iff.1 ho).1
              clear h0 hi hcl
              have hc : i = 0 ∨ i = 1 ∨ i = 2 ∨ i = 3 ∨ i = 4 ∨ i = 5 ∨ i = 6 ∨ i = 7 ∨ i = 8 ∨ i = 9 ∨ i = 10 ∨ i = 11 ∨ i = 12 ∨ i = 13 ∨ i = 14 ∨ i = 15 ∨ i = 16 ∨ i = 17 ∨ i = 18 ∨ i = 19 ∨ i = 20 ∨ i = 21 ∨ i = 22 ∨ i = 23 ∨ i = 24 ∨ i = 25 ∨ i = 26 ∨ i = 27 ∨ i = 28 ∨ i = 29 ∨ i = 30 ∨ i = 31 ∨ i = 32 := by omega
              rcases hc with rfl | rfl | rfl | rfl | rfl | rfl | rfl | rfl | rfl | rfl | rfl | rfl | rfl | rfl | rfl | rfl | rfl | rfl | rfl | rfl | rfl | rfl | rfl | rfl | rfl | rfl | rfl | rfl | rfl | rfl | rfl | rfl | rfl
              · obtain rfl : _ = op := Option.some.inj (show some _ = some op from ho)
                have HV := (show Hid (Rg.Vals l VV t) from hv)
                clear hv hd ho
                refine wpOp_step rfl fun K9 hK9 => ?_
                have HKK := (show Hid _ from hK9)
                clear hK9
                go_simp
                exact HKK.out _ _ ⟨by simp [hsz], fun j => if j = 0 then .pointer (some ⟨X, 1, none⟩) else t j, by simp, HV.out.put 0 _ V0.symm, HW⟩
              · obtain rfl : _ = op := Option.some.inj (show some _ = some op from ho)
                have e0 : t 0 = .pointer (some ⟨X, 1, none⟩) := (hv 0 (hd { on := 0, ground := .data } (by simp) rfl)).trans V0
                have yy0 : w'.cell? ⟨X, 0, none⟩ = some (.int .i64 (sz : Nat)) := (HW.out.cell (p := ⟨X, 0, none⟩) hX6).trans y0
                have yy1 : w'.cell? ⟨X, 1, none⟩ = some (.bool true) := (HW.out.cell (p := ⟨X, 1, none⟩) hX6).trans y1
                have yy2 : w'.cell? ⟨X, 2, none⟩ = some (.int .i64 ad) := (HW.out.cell (p := ⟨X, 2, none⟩) hX6).trans y2
                have yy3 : w'.cell? ⟨X, 3, none⟩ = some (.int .i64 po) := (HW.out.cell (p := ⟨X, 3, none⟩) hX6).trans y3
                have HV := (show Hid (Rg.Vals l VV t) from hv)
                clear hv hd ho
                refine wpOp_step rfl fun K9 hK9 => ?_
                have HKK := (show Hid _ from hK9)
                clear hK9
                go_simp
                exact HKK.out _ _ ⟨by simp [hsz], fun j => if j = 1 then .bool true else t j, by simp [e0], HV.out.put 1 _ V1.symm, HW⟩
              · obtain rfl : _ = op := Option.some.inj (show some _ = some op from ho)
                have e1 : t 1 = .bool true := (hv 1 (hd { on := 1, ground := .data } (by simp) rfl)).trans V1
                have HV := (show Hid (Rg.Vals l VV t) from hv)
                clear hv hd ho
                refine wpOp_step rfl fun K9 hK9 => ?_
                have HKK := (show Hid _ from hK9)
                clear hK9
                go_simp
                exact HKK.out _ _ ⟨by simp [hsz], fun j => if j = 2 then .bool true else t j, by simp [e1], HV.out.put 2 _ V2.symm, HW⟩
              · obtain rfl : _ = op := Option.some.inj (show some _ = some op from ho)
                have e2 : t 2 = .bool true := (hv 2 (hd { on := 2, ground := .guard } (by simp) rfl)).trans V2
                have HV := (show Hid (Rg.Vals l VV t) from hv)
                clear hv hd ho
                refine wpOp_step rfl fun K9 hK9 => ?_
                have HKK := (show Hid _ from hK9)
                clear hK9
                go_simp
                exact HKK.out _ _ ⟨by simp [hsz], fun j => if j = 3 then .string s else t j, by simp [e2], HV.out.put 3 _ V3.symm, HW⟩
              · obtain rfl : _ = op := Option.some.inj (show some _ = some op from ho)
                have e2 : t 2 = .bool true := (hv 2 (hd { on := 2, ground := .guard } (by simp) rfl)).trans V2
                have HV := (show Hid (Rg.Vals l VV t) from hv)
                clear hv hd ho
                refine wpOp_step rfl fun K9 hK9 => ?_
                have HKK := (show Hid _ from hK9)
                clear hK9
                go_simp
                exact HKK.out _ _ ⟨by simp [hsz], fun j => if j = 4 then .int .i64 ((A : Nat)) else t j, by simp [e2], HV.out.put 4 _ V4.symm, HW⟩
              · obtain rfl : _ = op := Option.some.inj (show some _ = some op from ho)
                have e2 : t 2 = .bool true := (hv 2 (hd { on := 2, ground := .guard } (by simp) rfl)).trans V2
                have HV := (show Hid (Rg.Vals l VV t) from hv)
                clear hv hd ho
                refine wpOp_step rfl fun K9 hK9 => ?_
                have HKK := (show Hid _ from hK9)
                clear hK9
                go_simp
                exact HKK.out _ _ ⟨by simp [hsz], fun j => if j = 5 then .int .i64 ((A : Nat)) else t j, by simp [e2], HV.out.put 5 _ V5.symm, HW⟩
              · obtain rfl : _ = op := Option.some.inj (show some _ = some op from ho)
                have e2 : t 2 = .bool true := (hv 2 (hd { on := 2, ground := .guard } (by simp) rfl)).trans V2
                have HV := (show Hid (Rg.Vals l VV t) from hv)
                clear hv hd ho
                refine wpOp_step rfl fun K9 hK9 => ?_
                have HKK := (show Hid _ from hK9)
                clear hK9
                go_simp
                exact HKK.out _ _ ⟨by simp [hsz], fun j => if j = 6 then .pointer (some ⟨X, 0, none⟩) else t j, by simp [e2], HV.out.put 6 _ V6.symm, HW⟩
              · obtain rfl : _ = op := Option.some.inj (show some _ = some op from ho)
                have e6 : t 6 = .pointer (some ⟨X, 0, none⟩) := (hv 6 (hd { on := 6, ground := .data } (by simp) rfl)).trans V6
                have e2 : t 2 = .bool true := (hv 2 (hd { on := 2, ground := .guard } (by simp) rfl)).trans V2
                have yy0 : w'.cell? ⟨X, 0, none⟩ = some (.int .i64 (sz : Nat)) := (HW.out.cell (p := ⟨X, 0, none⟩) hX6).trans y0
                have yy1 : w'.cell? ⟨X, 1, none⟩ = some (.bool true) := (HW.out.cell (p := ⟨X, 1, none⟩) hX6).trans y1
                have yy2 : w'.cell? ⟨X, 2, none⟩ = some (.int .i64 ad) := (HW.out.cell (p := ⟨X, 2, none⟩) hX6).trans y2
                have yy3 : w'.cell? ⟨X, 3, none⟩ = some (.int .i64 po) := (HW.out.cell (p := ⟨X, 3, none⟩) hX6).trans y3
                have HV := (show Hid (Rg.Vals l VV t) from hv)
                clear hv hd ho
                refine wpOp_step rfl fun K9 hK9 => ?_
                have HKK := (show Hid _ from hK9)
                clear hK9
                go_simp
                exact HKK.out _ _ ⟨by simp [hsz], fun j => if j = 7 then .int .i64 ((sz : Nat)) else t j, by simp [e6, e2], HV.out.put 7 _ V7.symm, HW⟩
              · obtain rfl : _ = op := Option.some.inj (show some _ = some op from ho)
                have e5 : t 5 = .int .i64 ((A : Nat)) := (hv 5 (hd { on := 5, ground := .data } (by simp) rfl)).trans V5
                have e7 : t 7 = .int .i64 ((sz : Nat)) := (hv 7 (hd { on := 7, ground := .data } (by simp) rfl)).trans V7
                have e2 : t 2 = .bool true := (hv 2 (hd { on := 2, ground := .guard } (by simp) rfl)).trans V2
                have HV := (show Hid (Rg.Vals l VV t) from hv)
                clear hv hd ho
                refine wpOp_step rfl fun K9 hK9 => ?_
                have HKK := (show Hid _ from hK9)
                clear hK9
                go_simp
                exact HKK.out _ _ ⟨by simp [hsz], fun j => if j = 8 then .int .i64 (((A + sz : Nat) : Int)) else t j, by simp [e5, e7, e2, hw], HV.out.put 8 _ V8.symm, HW⟩
              · obtain rfl : _ = op := Option.some.inj (show some _ = some op from ho)
                have e3 : t 3 = .string s := (hv 3 (hd { on := 3, ground := .data } (by simp) rfl)).trans V3
                have e4 : t 4 = .int .i64 ((A : Nat)) := (hv 4 (hd { on := 4, ground := .data } (by simp) rfl)).trans V4
                have e8 : t 8 = .int .i64 (((A + sz : Nat) : Int)) := (hv 8 (hd { on := 8, ground := .data } (by simp) rfl)).trans V8
                have e2 : t 2 = .bool true := (hv 2 (hd { on := 2, ground := .guard } (by simp) rfl)).trans V2
                have HV := (show Hid (Rg.Vals l VV t) from hv)
                clear hv hd ho
                refine wpOp_step rfl fun K9 hK9 => ?_
                have HKK := (show Hid _ from hK9)
                clear hK9
                go_simp
                exact HKK.out _ _ ⟨by simp [hsz], fun j => if j = 9 then .string EE else t j, by simp [e3, e4, e8, e2, hTN, hE9], HV.out.put 9 _ V9.symm, HW⟩
              · obtain rfl : _ = op := Option.some.inj (show some _ = some op from ho)
                have e2 : t 2 = .bool true := (hv 2 (hd { on := 2, ground := .guard } (by simp) rfl)).trans V2
                have HV := (show Hid (Rg.Vals l VV t) from hv)
                clear hv hd ho
                refine wpOp_step rfl fun K9 hK9 => ?_
                have HKK := (show Hid _ from hK9)
                clear hK9
                go_simp
                exact HKK.out _ _ ⟨by simp [hsz], fun j => if j = 10 then .pointer (some ⟨X, 2, none⟩) else t j, by simp [e2], HV.out.put 10 _ V10.symm, HW⟩
              · obtain rfl : _ = op := Option.some.inj (show some _ = some op from ho)
                have e10 : t 10 = .pointer (some ⟨X, 2, none⟩) := (hv 10 (hd { on := 10, ground := .data } (by simp) rfl)).trans V10
                have e2 : t 2 = .bool true := (hv 2 (hd { on := 2, ground := .guard } (by simp) rfl)).trans V2
                have yy0 : w'.cell? ⟨X, 0, none⟩ = some (.int .i64 (sz : Nat)) := (HW.out.cell (p := ⟨X, 0, none⟩) hX6).trans y0
                have yy1 : w'.cell? ⟨X, 1, none⟩ = some (.bool true) := (HW.out.cell (p := ⟨X, 1, none⟩) hX6).trans y1
                have yy2 : w'.cell? ⟨X, 2, none⟩ = some (.int .i64 ad) := (HW.out.cell (p := ⟨X, 2, none⟩) hX6).trans y2
                have yy3 : w'.cell? ⟨X, 3, none⟩ = some (.int .i64 po) := (HW.out.cell (p := ⟨X, 3, none⟩) hX6).trans y3
                have HV := (show Hid (Rg.Vals l VV t) from hv)
                clear hv hd ho
                refine wpOp_step rfl fun K9 hK9 => ?_
                have HKK := (show Hid _ from hK9)
                clear hK9
                go_simp
                exact HKK.out _ _ ⟨by simp [hsz], fun j => if j = 11 then .agg #[.int .i64 ad, .int .i64 po] else t j, by simp [e10, e2], HV.out.put 11 _ V11.symm, HW⟩
              · obtain rfl : _ = op := Option.some.inj (show some _ = some op from ho)
                have e11 : t 11 = .agg #[.int .i64 ad, .int .i64 po] := (hv 11 (hd { on := 11, ground := .data } (by simp) rfl)).trans V11
                have e2 : t 2 = .bool true := (hv 2 (hd { on := 2, ground := .guard } (by simp) rfl)).trans V2
                have HV := (show Hid (Rg.Vals l VV t) from hv)
                clear hv hd ho
                refine wpOp_step rfl fun K9 hK9 => ?_
                have HKK := (show Hid _ from hK9)
                clear hK9
                go_simp
                refine (implText ad po _).mono ?_
                rintro e w9 ⟨rfl, k9⟩
                refine HKK.out _ _ ⟨by simp [hsz], fun j => if j = 12 then .string TX else t j, by simp [e11, e2, hTX], HV.out.put 12 _ V12.symm, HW.out.trans (k9.mono HW.out.size)⟩
              · obtain rfl : _ = op := Option.some.inj (show some _ = some op from ho)
                have e12 : t 12 = .string TX := (hv 12 (hd { on := 12, ground := .data } (by simp) rfl)).trans V12
                have e2 : t 2 = .bool true := (hv 2 (hd { on := 2, ground := .guard } (by simp) rfl)).trans V2
                have HV := (show Hid (Rg.Vals l VV t) from hv)
                clear hv hd ho
                refine wpOp_step rfl fun K9 hK9 => ?_
                have HKK := (show Hid _ from hK9)
                clear hK9
                go_simp
                go_wp2_with fail
                exact HKK.out _ _ ⟨by simp [hsz], fun j => if j = 13 then .string (⟨#[64]⟩ ++ TX) else t j, by simp [e12, e2], HV.out.put 13 _ V13.symm, HW⟩
              · obtain rfl : _ = op := Option.some.inj (show some _ = some op from ho)
                have e13 : t 13 = .string (⟨#[64]⟩ ++ TX) := (hv 13 (hd { on := 13, ground := .data } (by simp) rfl)).trans V13
                have e2 : t 2 = .bool true := (hv 2 (hd { on := 2, ground := .guard } (by simp) rfl)).trans V2
                have HV := (show Hid (Rg.Vals l VV t) from hv)
                clear hv hd ho
                refine wpOp_step rfl fun K9 hK9 => ?_
                have HKK := (show Hid _ from hK9)
                clear hK9
                go_simp
                go_wp2_with fail
                exact HKK.out _ _ ⟨by simp [hsz], fun j => if j = 14 then .string EE else t j, by simp [e13, e2, hE14], HV.out.put 14 _ V14.symm, HW⟩
              · obtain rfl : _ = op := Option.some.inj (show some _ = some op from ho)
                have e9 : t 9 = .string EE := (hv 9 (hd { on := 9, ground := .data } (by simp) rfl)).trans V9
                have e14 : t 14 = .string EE := (hv 14 (hd { on := 14, ground := .data } (by simp) rfl)).trans V14
                have e2 : t 2 = .bool true := (hv 2 (hd { on := 2, ground := .guard } (by simp) rfl)).trans V2
                have HV := (show Hid (Rg.Vals l VV t) from hv)
                clear hv hd ho
                refine wpOp_step rfl fun K9 hK9 => ?_
                have HKK := (show Hid _ from hK9)
                clear hK9
                go_simp
                exact HKK.out _ _ ⟨by simp [hsz], fun j => if j = 15 then .bool false else t j, by simp [e9, e14, e2], HV.out.put 15 _ V15.symm, HW⟩
              · obtain rfl : _ = op := Option.some.inj (show some _ = some op from ho)
                have e2 : t 2 = .bool true := (hv 2 (hd { on := 2, ground := .data } (by simp) rfl)).trans V2
                have e15 : t 15 = .bool false := (hv 15 (hd { on := 15, ground := .data } (by simp) rfl)).trans V15
                have HV := (show Hid (Rg.Vals l VV t) from hv)
                clear hv hd ho
                refine wpOp_step rfl fun K9 hK9 => ?_
                have HKK := (show Hid _ from hK9)
                clear hK9
                go_simp
                exact HKK.out _ _ ⟨by simp [hsz], fun j => if j = 16 then .bool false else t j, by simp [e2, e15], HV.out.put 16 _ V16.symm, HW⟩
              · obtain rfl : _ = op := Option.some.inj (show some _ = some op from ho)
                have e16 : t 16 = .bool false := (hv 16 (hd { on := 16, ground := .data } (by simp) rfl)).trans V16
                have HV := (show Hid (Rg.Vals l VV t) from hv)
                clear hv hd ho
                refine wpOp_step rfl fun K9 hK9 => ?_
                have HKK := (show Hid _ from hK9)
                clear hK9
                go_simp
                exact HKK.out _ _ ⟨by simp [hsz], fun j => if j = 17 then .bool false else t j, by simp [e16], HV.out.put 17 _ V17.symm, HW⟩
              · obtain rfl : _ = op := Option.some.inj (show some _ = some op from ho)
                have e17 : t 17 = .bool false := (hv 17 (hd { on := 17, ground := .guard } (by simp) rfl)).trans V17
                have HV := (show Hid (Rg.Vals l VV t) from hv)
                clear hv hd ho
                refine wpOp_step rfl fun K9 hK9 => ?_
                have HKK := (show Hid _ from hK9)
                clear hK9
                go_simp
                exact HKK.out _ _ ⟨by simp [hsz], fun j => if j = 18 then .pointer (some ⟨X, 1, none⟩) else t j, by simp [e17], HV.out.put 18 _ V18.symm, HW⟩
              · obtain rfl : _ = op := Option.some.inj (show some _ = some op from ho)
                have e18 : t 18 = .pointer (some ⟨X, 1, none⟩) := (hv 18 (hd { on := 18, ground := .data } (by simp) rfl)).trans V18
                have e17 : t 17 = .bool false := (hv 17 (hd { on := 17, ground := .guard } (by simp) rfl)).trans V17
                have yy0 : w'.cell? ⟨X, 0, none⟩ = some (.int .i64 (sz : Nat)) := (HW.out.cell (p := ⟨X, 0, none⟩) hX6).trans y0
                have yy1 : w'.cell? ⟨X, 1, none⟩ = some (.bool true) := (HW.out.cell (p := ⟨X, 1, none⟩) hX6).trans y1
                have yy2 : w'.cell? ⟨X, 2, none⟩ = some (.int .i64 ad) := (HW.out.cell (p := ⟨X, 2, none⟩) hX6).trans y2
                have yy3 : w'.cell? ⟨X, 3, none⟩ = some (.int .i64 po) := (HW.out.cell (p := ⟨X, 3, none⟩) hX6).trans y3
                have HV := (show Hid (Rg.Vals l VV t) from hv)
                clear hv hd ho
                refine wpOp_step rfl fun K9 hK9 => ?_
                have HKK := (show Hid _ from hK9)
                clear hK9
                go_simp
                exact HKK.out _ _ ⟨by simp [hsz], fun j => if j = 19 then .bool true else t j, by simp [e18, e17], HV.out.put 19 _ V19.symm, HW⟩
              · obtain rfl : _ = op := Option.some.inj (show some _ = some op from ho)
                have e19 : t 19 = .bool true := (hv 19 (hd { on := 19, ground := .data } (by simp) rfl)).trans V19
                have e17 : t 17 = .bool false := (hv 17 (hd { on := 17, ground := .guard } (by simp) rfl)).trans V17
                have HV := (show Hid (Rg.Vals l VV t) from hv)
                clear hv hd ho
                refine wpOp_step rfl fun K9 hK9 => ?_
                have HKK := (show Hid _ from hK9)
                clear hK9
                go_simp
                exact HKK.out _ _ ⟨by simp [hsz], fun j => if j = 20 then .bool false else t j, by simp [e19, e17], HV.out.put 20 _ V20.symm, HW⟩
              · obtain rfl : _ = op := Option.some.inj (show some _ = some op from ho)
                have e20 : t 20 = .bool false := (hv 20 (hd { on := 20, ground := .data } (by simp) rfl)).trans V20
                have e17 : t 17 = .bool false := (hv 17 (hd { on := 17, ground := .guard } (by simp) rfl)).trans V17
                have HV := (show Hid (Rg.Vals l VV t) from hv)
                clear hv hd ho
                refine wpOp_step rfl fun K9 hK9 => ?_
                have HKK := (show Hid _ from hK9)
                clear hK9
                go_simp
                exact HKK.out _ _ ⟨by simp [hsz], fun j => if j = 21 then .bool false else t j, by simp [e20, e17], HV.out.put 21 _ V21.symm, HW⟩
              · obtain rfl : _ = op := Option.some.inj (show some _ = some op from ho)
                have e21 : t 21 = .bool false := (hv 21 (hd { on := 21, ground := .guard } (by simp) rfl)).trans V21
                have HV := (show Hid (Rg.Vals l VV t) from hv)
                clear hv hd ho
                refine wpOp_step rfl fun K9 hK9 => ?_
                have HKK := (show Hid _ from hK9)
                clear hK9
                go_simp
                exact HKK.out _ _ ⟨by simp [hsz], fun j => if j = 22 then .tuple #[] else t j, by simp [e21], HV.out.put 22 _ V22.symm, HW⟩
              · obtain rfl : _ = op := Option.some.inj (show some _ = some op from ho)
                have e21 : t 21 = .bool false := (hv 21 (hd { on := 21, ground := .guard } (by simp) rfl)).trans V21
                have yy0 : w'.cell? ⟨X, 0, none⟩ = some (.int .i64 (sz : Nat)) := (HW.out.cell (p := ⟨X, 0, none⟩) hX6).trans y0
                have yy1 : w'.cell? ⟨X, 1, none⟩ = some (.bool true) := (HW.out.cell (p := ⟨X, 1, none⟩) hX6).trans y1
                have yy2 : w'.cell? ⟨X, 2, none⟩ = some (.int .i64 ad) := (HW.out.cell (p := ⟨X, 2, none⟩) hX6).trans y2
                have yy3 : w'.cell? ⟨X, 3, none⟩ = some (.int .i64 po) := (HW.out.cell (p := ⟨X, 3, none⟩) hX6).trans y3
                have HV := (show Hid (Rg.Vals l VV t) from hv)
                clear hv hd ho
                refine wpOp_step rfl fun K9 hK9 => ?_
                have HKK := (show Hid _ from hK9)
                clear hK9
                go_simp
                exact HKK.out _ _ ⟨by simp [hsz], fun j => if j = 23 then .tuple #[] else t j, by simp [e21], HV.out.put 23 _ V23.symm, HW⟩
              · obtain rfl : _ = op := Option.some.inj (show some _ = some op from ho)
                have e21 : t 21 = .bool false := (hv 21 (hd { on := 21, ground := .guard } (by simp) rfl)).trans V21
                have HV := (show Hid (Rg.Vals l VV t) from hv)
                clear hv hd ho
                refine wpOp_step rfl fun K9 hK9 => ?_
                have HKK := (show Hid _ from hK9)
                clear hK9
                go_simp
                exact HKK.out _ _ ⟨by simp [hsz], fun j => if j = 24 then .tuple #[] else t j, by simp [e21], HV.out.put 24 _ V24.symm, HW⟩
              · obtain rfl : _ = op := Option.some.inj (show some _ = some op from ho)
                have e21 : t 21 = .bool false := (hv 21 (hd { on := 21, ground := .guard } (by simp) rfl)).trans V21
                have HV := (show Hid (Rg.Vals l VV t) from hv)
                clear hv hd ho
                refine wpOp_step rfl fun K9 hK9 => ?_
                have HKK := (show Hid _ from hK9)
                clear hK9
                go_simp
                exact HKK.out _ _ ⟨by simp [hsz], fun j => if j = 25 then .tuple #[] else t j, by simp [e21], HV.out.put 25 _ V25.symm, HW⟩
              · obtain rfl : _ = op := Option.some.inj (show some _ = some op from ho)
                have e25 : t 25 = .tuple #[] := (hv 25 (hd { on := 25, ground := .guard } (by simp) rfl)).trans V25
                have HV := (show Hid (Rg.Vals l VV t) from hv)
                clear hv hd ho
                refine wpOp_step rfl fun K9 hK9 => ?_
                have HKK := (show Hid _ from hK9)
                clear hK9
                go_simp
                exact HKK.out _ _ ⟨by simp [hsz], fun j => if j = 26 then .tuple #[] else t j, by simp [e25], HV.out.put 26 _ V26.symm, HW⟩
              · obtain rfl : _ = op := Option.some.inj (show some _ = some op from ho)
                have e25 : t 25 = .tuple #[] := (hv 25 (hd { on := 25, ground := .guard } (by simp) rfl)).trans V25
                have yy0 : w'.cell? ⟨X, 0, none⟩ = some (.int .i64 (sz : Nat)) := (HW.out.cell (p := ⟨X, 0, none⟩) hX6).trans y0
                have yy1 : w'.cell? ⟨X, 1, none⟩ = some (.bool true) := (HW.out.cell (p := ⟨X, 1, none⟩) hX6).trans y1
                have yy2 : w'.cell? ⟨X, 2, none⟩ = some (.int .i64 ad) := (HW.out.cell (p := ⟨X, 2, none⟩) hX6).trans y2
                have yy3 : w'.cell? ⟨X, 3, none⟩ = some (.int .i64 po) := (HW.out.cell (p := ⟨X, 3, none⟩) hX6).trans y3
                have HV := (show Hid (Rg.Vals l VV t) from hv)
                clear hv hd ho
                refine wpOp_step rfl fun K9 hK9 => ?_
                have HKK := (show Hid _ from hK9)
                clear hK9
                go_simp
                exact HKK.out _ _ ⟨by simp [hsz], fun j => if j = 27 then .tuple #[] else t j, by simp [e25], HV.out.put 27 _ V27.symm, HW⟩
              · obtain rfl : _ = op := Option.some.inj (show some _ = some op from ho)
                have e25 : t 25 = .tuple #[] := (hv 25 (hd { on := 25, ground := .guard } (by simp) rfl)).trans V25
                have HV := (show Hid (Rg.Vals l VV t) from hv)
                clear hv hd ho
                refine wpOp_step rfl fun K9 hK9 => ?_
                have HKK := (show Hid _ from hK9)
                clear hK9
                go_simp
                exact HKK.out _ _ ⟨by simp [hsz], fun j => if j = 28 then .tuple #[] else t j, by simp [e25], HV.out.put 28 _ V28.symm, HW⟩
              · obtain rfl : _ = op := Option.some.inj (show some _ = some op from ho)
                have e25 : t 25 = .tuple #[] := (hv 25 (hd { on := 25, ground := .guard } (by simp) rfl)).trans V25
                have HV := (show Hid (Rg.Vals l VV t) from hv)
                clear hv hd ho
                refine wpOp_step rfl fun K9 hK9 => ?_
                have HKK := (show Hid _ from hK9)
                clear hK9
                go_simp
                exact HKK.out _ _ ⟨by simp [hsz], fun j => if j = 29 then .tuple #[] else t j, by simp [e25], HV.out.put 29 _ V29.symm, HW⟩
              · obtain rfl : _ = op := Option.some.inj (show some _ = some op from ho)
                have e21 : t 21 = .bool false := (hv 21 (hd { on := 21, ground := .guard } (by simp) rfl)).trans V21
                have HV := (show Hid (Rg.Vals l VV t) from hv)
                clear hv hd ho
                refine wpOp_step rfl fun K9 hK9 => ?_
                have HKK := (show Hid _ from hK9)
                clear hK9
                go_simp
                exact HKK.out _ _ ⟨by simp [hsz], fun j => if j = 30 then .tuple #[] else t j, by simp [e21], HV.out.put 30 _ V30.symm, HW⟩
              · obtain rfl : _ = op := Option.some.inj (show some _ = some op from ho)
                have e21 : t 21 = .bool false := (hv 21 (hd { on := 21, ground := .data } (by simp) rfl)).trans V21
                have e30 : t 30 = .tuple #[] := (hv 30 (hd { on := 30, ground := .data } (by simp) rfl)).trans V30
                have e17 : t 17 = .bool false := (hv 17 (hd { on := 17, ground := .guard } (by simp) rfl)).trans V17
                have HV := (show Hid (Rg.Vals l VV t) from hv)
                clear hv hd ho
                refine wpOp_step rfl fun K9 hK9 => ?_
                have HKK := (show Hid _ from hK9)
                clear hK9
                go_simp
                exact HKK.out _ _ ⟨by simp [hsz], fun j => if j = 31 then .bool false else t j, by simp [e21, e30, e17], HV.out.put 31 _ V31.symm, HW⟩
              · obtain rfl : _ = op := Option.some.inj (show some _ = some op from ho)
                have e17 : t 17 = .bool false := (hv 17 (hd { on := 17, ground := .data } (by simp) rfl)).trans V17
                have e31 : t 31 = .bool false := (hv 31 (hd { on := 31, ground := .data } (by simp) rfl)).trans V31
                have HV := (show Hid (Rg.Vals l VV t) from hv)
                clear hv hd ho
                refine wpOp_step rfl fun K9 hK9 => ?_
                have HKK := (show Hid _ from hK9)
                clear hK9
                go_simp
                exact HKK.out _ _ ⟨by simp [hsz], fun j => if j = 32 then .bool false else t j, by simp [e17, e31], HV.out.put 32 _ V32.symm, HW⟩
            case fin =>
              rintro l a' w' ⟨hsz, t, rfl, hv, HW⟩ hall
              have e32 : t 32 = .bool false := (hv 32 (hall 32 (by simp))).trans V32
              have m0 := (HW.out.cell (p := ⟨X, 0, none⟩) hX6).trans y0
              rw [e32]
              clear hv hall e32
              go_wp2
              go_roundw
              case rel => exact ⟨k + 1, by omega, by go_num, by rw [HS.out]; go_num, HB6.out.trans (HW.out.mono HB6.out.size)⟩
              case measure => simp [intOf]; omega
          · subst hnm hsz had hpo2
            go_wp2_with fail
            go_quiet (fail)
            go_wp2
            go_roundw
            case rel => exact ⟨k + 1, by omega, by go_num, by rw [HS.out]; go_num, hb.trans ((((Below.refl _ _).alloc (Nat.le_refl _) _).trans (Text.below_drewN _ _ _)).mono hb.size)⟩
            case measure => simp [intOf]; omega
        · have hge : (ps.length : Int) ≤ (k : Int) := by omega
          have e : ps.take k = ps := List.take_of_length_le (by omega)
          rw [e, HSUM.out]
          have b7 := b4.trans (hb.mono b4.size)
          go_wp2_with fail
          refine (held_is s (heldN s.data.toList) HD.out _).mono ?_
          rintro e w8 ⟨rfl, k8⟩
          clear HD HPO HSUM
          generalize heldN s.data.toList = m at *
          go_wp2
          go_ret
          refine ⟨congrArg (fun b => Ending.returned (Value.bool b)) ?_, b7.trans (k8.mono b7.size)⟩
          first | rfl | (simp; omega)
end Go.Proofs.YtcpdkicmmhnpcaaDoor.LPiecesAll

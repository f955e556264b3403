/- Walks: as what a piece goes out, and comes in, by the model. -/
import Derived.Test.YtdggchcapjidjabGreatDoorMmOp
import Derived.Test.YtdggchcapjidjabGreatDoorLzP
import Derived.Test.YtdggchcapjidjabGreatDoorMpTs
import Derived.Test.YtdggchcapjidjabGreatDoorPt
import Derived.Test.YtdggchcapjidjabGreatDoorPp
import Derived.RangeFuncBox
import Derived.Deep.RegionLaw
namespace Go.Proofs.YtdggchcapjidjabGreatDoor.SpA
open Go.RowKit Go.Proofs.YtdggchcapjidjabGreatDoor.Kit Go.Proofs.YtdggchcapjidjabGreatDoor.Mp Go.Proofs.YtdggchcapjidjabGreatDoor.Mm Go.Proofs.YtdggchcapjidjabGreatDoor.Ms Go.Proofs.YtdggchcapjidjabGreatDoor.Tx Go.Proofs.YtdggchcapjidjabGreatDoor.Nm Go.Proofs.YtdggchcapjidjabGreatDoor.App
open Go.Proofs.YtdggchcapjidjabGreatDoor.EndW (endV sideZ isB spec1)
open Go.Proofs.YtdggchcapjidjabGreatDoor.EndW (spec3)
open Go.Proofs.YtdggchcapjidjabGreatDoor.Text (txt specText)
set_option linter.unusedSimpArgs false
set_option linter.unusedVariables false

theorem nm_data (x y : Int) (h : sideZ x y ≠ 0) : (⟨#[64]⟩ ++ txt x y ++ ⟨#[59]⟩ : ByteArray).data.toList = nmL (x, y) := by
  have e := Text.txt_list x y h
  rw [ByteArray.toList_eq] at e
  simp [ByteArray.data_append, nmL, e]
theorem isB3 (x y : Int) : isB 3 x y = decide (sideZ x y = 3) := by
  unfold isB; rw [Bool.eq_iff_iff]; simp
theorem txt_four (x y : Int) : (txt x y).size ≤ 4 := by
  by_cases h : sideZ x y = 0
  · unfold txt; rw [if_pos h]; exact Nat.le_of_ble_eq_true rfl
  · rw [Text.txt_len x y h]; split <;> omega

set_option maxRecDepth 8000 in
set_option maxHeartbeats 4000000 in
theorem sout_piece (W : World) (base : Nat) (hB : base ≤ W.heap.size) (v : Value) (es : List (Int × Int)) (hg : GoodE es) (hrow : OwnP W base v es) (P : Pc) (S : ByteArray) :
    Calls Tryz.prog 60 #[v, pcV P, .string S] W fun r W' => ∃ v' T, r = .returned (.tuple #[v', .string T]) ∧ OwnP W' base v' (goO es P S.data.toList).1 ∧ T.data.toList = (goO es P S.data.toList).2 ∧ Below base W W' ∧ Gr W W' v v' := by
  obtain ⟨sz, nm, ad, po⟩ := P
  have bA : Below W.heap.size W (W.alloc (.cells #[.int .i64 (sz : Nat), .bool nm, .int .i64 ad, .int .i64 po] 90)) := (Below.refl _ _).alloc (Nat.le_refl _) _
  cases nm
  · have hgo : goO es ⟨sz, false, ad, po⟩ S.data.toList = (es, S.data.toList) := by unfold goO; rw [if_neg (by rintro ⟨e, _⟩; cases e)]
    rw [hgo]
    go_enter Tryz.func60, Tryz.ntmps60
    go_wp2
    refine bodyPost_ret (v := .tuple #[v, .string S]) (by simp [results, Tryz.results60, go_sem]) rfl ?_
    exact ⟨_, _, rfl, hrow.below bA, rfl, bA.mono hB, Gr.of bA v⟩
  · cases hi : inB (ad, po)
    · have hgo : goO es ⟨sz, true, ad, po⟩ S.data.toList = (es, S.data.toList) := by unfold goO; rw [if_neg (by rintro ⟨_, e, _⟩; simp only at e; rw [hi] at e; cases e)]
      rw [hgo]
      go_enter Tryz.func60, Tryz.ntmps60
      go_wp2_with fail
      refine (spec1 ad po _).mono ?_
      rintro r w1 ⟨rfl, k1⟩
      rw [show isB 1 ad po = inB (ad, po) from isB_inB (ad, po), hi]
      have b1 := bA.trans (k1.mono bA.size)
      go_wp2
      refine bodyPost_ret (v := .tuple #[v, .string S]) (by simp [results, Tryz.results60, go_sem]) rfl ?_
      exact ⟨_, _, rfl, hrow.below b1, rfl, b1.mono hB, Gr.of b1 v⟩
    · have hgo : goO es ⟨sz, true, ad, po⟩ S.data.toList = if (outE es (ad, po)).2.2 = true then ((outE es (ad, po)).1, nmL (9, (outE es (ad, po)).2.1)) else (es, S.data.toList) := by
        unfold goO; simp only [hi, true_and]
      rw [hgo]
      clear hgo
      have hop := outE_port es (ad, po) hg
      obtain ⟨q, hq⟩ : ∃ q, outE es (ad, po) = q := ⟨_, rfl⟩
      have HQ : Hid (outE es (ad, po) = q) := hq
      have hpre : q.2.2 = false → q.1 = es := by
        rw [← hq]
        intro hf
        by_cases hm : (ad, po) ∈ es
        · rw [outE_has es _ hm]
        · by_cases hl : es.length < 8
          · rw [outE_new es _ hm hl] at hf; cases hf
          · rw [outE_full es _ hm (by omega)]
      rw [hq] at hop ⊢
      clear hq
      obtain ⟨es2, pt, ok⟩ := q
      simp only at hop hpre ⊢
      go_enter Tryz.func60, Tryz.ntmps60
      go_wp2_with fail
      refine (spec1 ad po _).mono ?_
      rintro r w1 ⟨rfl, k1⟩
      rw [show isB 1 ad po = inB (ad, po) from isB_inB (ad, po), hi]
      have z1 := k1.size
      simp at z1
      have b1 := bA.trans (k1.mono bA.size)
      have c1 := keepc k1 W.heap.size (by simp)
      have hrow1 := hrow.below b1
      go_wp2_with fail
      refine (lout_P _ base (by omega) v es hg hrow1 (ad, po)).mono ?_
      rintro r w2 ⟨v2, rfl, hrow2, k2, kgr, kf⟩
      rw [HQ.out] at hrow2 kf
      rw [HQ.out]
      have b2 := (b1.mono hB).trans k2
      simp only at hrow2 kf
      cases ok
      · have he : es2 = es := hpre rfl
        have kf2 := kf rfl
        have hrowv : OwnP w2 base v es := hrow1.below kf2
        go_wp2
        refine bodyPost_ret (v := .tuple #[v, .string S]) (by simp [results, Tryz.results60, go_sem]) rfl ?_
        exact ⟨_, _, rfl, by simpa using hrowv, by simp, b2, Gr.of (b1.trans (kf2.mono b1.size)) v⟩
      · obtain ⟨p1, p2, _⟩ := hop rfl
        have hsd : sideZ 9 pt ≠ 0 := by
          unfold sideZ; simp; omega
        have hz := txt_four 9 pt
        go_wp2_with fail
        refine (specText 9 pt _).mono ?_
        rintro r w3 ⟨rfl, k3⟩
        have hnd := nm_data 9 pt hsd
        generalize txt 9 pt = X at hz hnd
        go_wp2
        refine bodyPost_ret (v := .tuple #[v2, .string (⟨#[64]⟩ ++ X ++ ⟨#[59]⟩)]) (by simp [results, Tryz.results60, go_sem]) rfl ?_
        refine ⟨_, _, rfl, by simpa using hrow2.below k3, by simpa using hnd, b2.trans (k3.mono (Nat.le_trans hB b2.size)), ⟨grown_trans (grown_trans (grown_of b1 _) kgr.1) (grown_of k3 _), ?_⟩⟩
        rcases kgr.2 with q | ⟨g, q, hq⟩
        · exact .inl q
        · exact .inr ⟨g, q, by have := b1.size; omega⟩

theorem isP_grown {W W' : World} {row : Option Nat} {v : Value} {ps : List Pc} (h : Lz.IsP W v ps) (k : W.grownBy W' row) (hv : ∀ g o n c, v = .slice (some ⟨g, o, none⟩) n c → row ≠ some g) : Lz.IsP W' v ps := by
  rcases h with h | ⟨g, o, cap, rfl, h2, h3, h4⟩
  · exact .inl h
  · refine .inr ⟨g, o, cap, rfl, h2, h3, fun i p hp => ?_⟩
    have hq := h4 i p hp
    have hlt : g < W.heap.size := blk hq.1
    have e : ∀ j, W'.cell? ⟨g, j, none⟩ = W.cell? ⟨g, j, none⟩ := fun j => World.cell?_of_block (k.block g hlt (fun e => hv g o _ _ rfl e.symm))
    exact ⟨(e _).trans hq.1, (e _).trans hq.2.1, (e _).trans hq.2.2.1, (e _).trans hq.2.2.2⟩
theorem lpieces_any (s : ByteArray) (hsz : s.size ≤ 1073741824) (w : World) :
    Calls Tryz.prog 59 #[.string s] w fun e W' => ∃ v, e = .returned v ∧ W'.ownsRow w.heap.size 90 4 v (pcs (bd s.data.toList)).length (Pcs.cellsP (pcs (bd s.data.toList))) ∧ Below w.heap.size w W' :=
  (callsIn_wide (n := 5)).1 (Pcs.lpieces_in 5 (by omega) s hsz w)
theorem szs_take (ps : List Pc) (k : Nat) (p : Pc) (h : ps[k]? = some p) : szs (ps.take (k + 1)) = szs (ps.take k) + p.sz := by
  rw [List.take_add_one, h]; simp [szs]
theorem szs_take_le (ps : List Pc) (k : Nat) : szs (ps.take k) ≤ szs ps := by
  have : szs (ps.take k ++ ps.drop k) = szs (ps.take k) + szs (ps.drop k) := by unfold szs; rw [List.map_append, List.sum_append]
  rw [List.take_append_drop] at this
  omega
set_option maxRecDepth 8000 in
set_option maxHeartbeats 4000000 in
theorem sin_piece (W : World) (v : Value) (es : List (Int × Int)) (hg : GoodE es) (hm : IsM W v (prs es)) (P : Pc) (S : ByteArray) :
    Calls Tryz.prog 61 #[v, pcV P, .string S] W fun r W' => ∃ T, r = .returned (.string T) ∧ T.data.toList = goI es P S.data.toList ∧ Below W.heap.size W W' := by
  obtain ⟨sz, nm, ad, po⟩ := P
  have bA : Below W.heap.size W (W.alloc (.cells #[.int .i64 (sz : Nat), .bool nm, .int .i64 ad, .int .i64 po] 90)) := (Below.refl _ _).alloc (Nat.le_refl _) _
  cases nm
  · have hgo : goI es ⟨sz, false, ad, po⟩ S.data.toList = S.data.toList := by unfold goI; rw [if_neg (by rintro ⟨e, _⟩; cases e)]
    rw [hgo]
    go_enter Tryz.func61, Tryz.ntmps61
    go_wp2
    go_ret
    exact ⟨_, rfl, rfl, bA⟩
  · by_cases hs : sideZ ad po = 3
    · have hdd : isB 3 ad po = true := by rw [isB3]; simp [hs]
      have hgo : goI es ⟨sz, true, ad, po⟩ S.data.toList = if (inE es po).2 = true then nmL (inE es po).1 else S.data.toList := by
        unfold goI; simp only [hs, true_and]
      rw [hgo]
      clear hgo
      have hbd : 10 ≤ po ∧ po ≤ 17 := by
        unfold sideZ at hs
        split at hs
        · omega
        · split at hs
          · omega
          · split at hs <;> omega
      have hin : (inE es po).2 = true → sideZ (inE es po).1.1 (inE es po).1.2 ≠ 0 := by
        intro ht
        rcases inE_cases es po with ⟨i, e, _, he, hq⟩ | ⟨_, hq⟩
        · rw [hq]
          have := hg.ins e (List.mem_of_getElem? he)
          simp only [inB, decide_eq_true_eq] at this
          simp only; omega
        · rw [hq] at ht; cases ht
      obtain ⟨q, hq⟩ : ∃ q, inE es po = q := ⟨_, rfl⟩
      have HQ : Hid (inE es po = q) := hq
      rw [hq] at hin ⊢
      clear hq
      obtain ⟨⟨ea, ep⟩, ok⟩ := q
      simp only at hin ⊢
      go_enter Tryz.func61, Tryz.ntmps61
      go_wp2_with fail
      refine (spec3 ad po _).mono ?_
      rintro r w1 ⟨rfl, k1⟩
      rw [hdd]
      have z1 := k1.size
      simp at z1
      have b1 := bA.trans (k1.mono bA.size)
      have c1 := keepc k1 W.heap.size (by simp)
      go_wp2_with fail
      refine (lin_any _ v es hg.len (hm.below b1) po (by omega) (by omega)).mono ?_
      rintro r w2 ⟨rfl, k2⟩
      rw [HQ.out]
      have b2 := b1.trans (k2.mono b1.size)
      cases ok
      · go_wp2
        go_ret
        exact ⟨_, rfl, by simp, b2.alloc b2.size _⟩
      · have hnz : sideZ ea ep ≠ 0 := hin rfl
        have hz := txt_four ea ep
        go_wp2_with fail
        refine (specText ea ep _).mono ?_
        rintro r w3 ⟨rfl, k3⟩
        have hnd := nm_data ea ep hnz
        have b3 := (b2.alloc (o := .cells #[.int .i64 ea, .int .i64 ep] 81) b2.size).trans (k3.mono (by have := b2.size; simp; omega))
        generalize txt ea ep = X at hz hnd
        go_wp2
        go_ret
        exact ⟨_, rfl, by simpa using hnd, b3⟩
    · have hdd : isB 3 ad po = false := by rw [isB3]; simp [hs]
      have hgo : goI es ⟨sz, true, ad, po⟩ S.data.toList = S.data.toList := by unfold goI; rw [if_neg (by rintro ⟨_, e, _⟩; exact hs e)]
      rw [hgo]
      go_enter Tryz.func61, Tryz.ntmps61
      go_wp2_with fail
      refine (spec3 ad po _).mono ?_
      rintro r w1 ⟨rfl, k1⟩
      rw [hdd]
      have b1 := bA.trans (k1.mono bA.size)
      go_wp2
      go_ret
      exact ⟨_, rfl, rfl, b1⟩

end Go.Proofs.YtdggchcapjidjabGreatDoor.SpA

/- Walks: bytes that come to a stream, by the model. -/
namespace Go.Proofs.YtdggchcapjidjabGreatDoor.StP
open Go.RowKit Go.Shelf Go.Proofs.YtdggchcapjidjabGreatDoor.Kit Go.Proofs.YtdggchcapjidjabGreatDoor.Tx Go.Proofs.YtdggchcapjidjabGreatDoor.Mp Go.Proofs.YtdggchcapjidjabGreatDoor.Mm Go.Proofs.YtdggchcapjidjabGreatDoor.Ms Go.Proofs.YtdggchcapjidjabGreatDoor.Nm Go.Proofs.YtdggchcapjidjabGreatDoor.App Go.Proofs.YtdggchcapjidjabGreatDoor.St Go.Proofs.YtdggchcapjidjabGreatDoor.SpA
open Go.Proofs.YtdggchcapjidjabGreatDoor.Pcs (two_at)
set_option linter.unusedSimpArgs false
set_option linter.unusedVariables false

/-- pairs and parts, each in a row of its own -/
structure Rows2 (W : World) (base : Nat) (v : Value) (es : List (Int × Int)) (pv : Value) (ps : List (Int × ByteArray)) : Prop where
  rm : OwnP W base v es
  rt : W.ownsRow base 79 2 pv ps.length (cellsT ps)
  ne : v.ownBlock = none ∨ v.ownBlock ≠ pv.ownBlock
  nn : ∃ k, pv.ownBlock = some k
theorem Rows2.below {W W' : World} {base : Nat} {v : Value} {es : List (Int × Int)} {pv : Value} {ps : List (Int × ByteArray)} (h : Rows2 W base v es pv ps) (k : Below W.heap.size W W') : Rows2 W' base v es pv ps :=
  ⟨h.rm.below k, row_below h.rt k, h.ne, h.nn⟩

theorem rowM_isM {W : World} {b : Nat} {v : Value} {es : List (Int × Int)} (h : OwnP W b v es) : IsM W v (prs es) := h.isM
theorem part_sz {S : ByteArray} {ps : List (Int × ByteArray)} (h : stB S ps = true) (k : Nat) (p : Int × ByteArray) (hp : ps[k]? = some p) : ∃ x, (pieL S.data.toList)[k]? = some x ∧ p.1 = (x.sz : Int) := by
  obtain ⟨_, h2, h3⟩ := stB_parts.1 h
  have hk := (List.getElem?_eq_some_iff.1 hp).1
  have hx : (pieL S.data.toList)[k]? = some ((pieL S.data.toList)[k]'(by omega)) := List.getElem?_eq_getElem _
  refine ⟨_, hx, ?_⟩
  have := h3 k _ p hx hp
  unfold partB at this
  simp only [Bool.and_eq_true, decide_eq_true_eq] at this
  exact this.1.1.1
theorem pie_szs (l : List UInt8) (h : okB l = true) : (pieL l).length ≤ 40 ∧ szs (pieL l) ≤ 40 ∧ szs (pieL l) ≤ l.length := by
  have h1 := (LzP.len_pie l h)
  have h2 := (ok_parts _ h).1
  exact ⟨h1.1, by omega, by omega⟩
theorem isT_at {W : World} {a : Option Addr} {ps : List (Int × ByteArray)} (h : ps = [] ∨ ∃ g o, a = some ⟨g, o, none⟩ ∧ ∀ (i : Nat) (p : Int × ByteArray), ps[i]? = some p → At2 W g (o + i * 2) p) (k : Nat) (p : Int × ByteArray) (hp : ps[k]? = some p) : ∃ g o, a = some ⟨g, o, none⟩ ∧ At2 W g (o + k * 2) p := by
  rcases h with rfl | ⟨g, o, rfl, h⟩
  · simp at hp
  · exact ⟨g, o, rfl, h k p hp⟩

/-- append behind a row of one's own, as a step of a region that draws its order -/
theorem step_append_own {P : Program} {ops : Array Oper} {o : Oper} {a : Act} {w : World} {K : Act → World → Prop} {Q : Exit → Act → World → Prop} {E : Prop}
    (hg : o.guard = none) (s x : Operand) (t : TypeId) (hop : o.op = Op.call { callee := Callee.builtin Builtin.append, args := #[s, x], argTypes := #[t, t] })
    (base : Nat) (e : TypeId) (i : TypeInfo) (z : Value) (size bytes : Nat) (h1 : P.underlying t = some (.slice e)) (h2 : P.info? e = some i) (h3 : i.zero = some z) (h4 : i.size = size) (h5 : i.bytes = bytes) (h6 : z.cells.size = size) (h7 : 0 < size)
    (v : Value) (n : Nat) (xs : List Value) (hs : a.eval s = v) (hrow : w.ownsRow base e size v n xs)
    (ad : Addr) (m c : Nat) (news : List Value) (hx : a.eval x = .slice (some ad) m c) (hn : news.length = m * size) (hc : ∀ j u, news[j]? = some u → w.cell? (ad.add j) = some u) (h1c : ∀ u ∈ news, u.oneCell' = true)
    (b1 : n + m ≤ maxLen) (b2 : (n + m) * bytes ≤ 140737488355328) (hb : base ≤ w.heap.size)
    (hK : ∀ v' w', w'.ownsRow base e size v' (n + m) (xs ++ news) → w.grownBy w' v.ownBlock → (∀ g, v'.ownBlock = some g → v.ownBlock = some g ∨ w.heap.size ≤ g) → K (a.put o.dst v') w') :
    if Region.wanted o (yielded ops a.tmps) = true then Oper.wp P o a w K Q else E := by
  have hw : Region.wanted o (yielded ops a.tmps) = true := by simp [Region.wanted, hg]
  rw [if_pos hw]
  obtain ⟨v', w', hrun, r1, r2, r3⟩ := run_append_own2 (P := P) w base t o.type e i z size bytes h1 h2 h3 h4 h5 h6 h7 v n xs hrow ad m c news hn hc h1c b1 b2 hb
  unfold Oper.wp
  simp [execOp, hop, resolve, invoke, builtin, hs, hx, hrun, Result.andThen]
  exact hK v' w' r1 r2 r3

set_option maxRecDepth 8000 in
set_option maxHeartbeats 4000000 in
theorem done_any (S : ByteArray) (v : Value) (ps : List (Int × ByteArray)) (W : World) (hT : IsT W v ps) (hst : stB S ps = true) :
    Calls Tryz.prog 58 #[.agg #[.string S, v]] W fun r W' => r = .returned (.int .i64 (szs (pieL S.data.toList) : Nat)) ∧ Below W.heap.size W W' := by
  obtain ⟨a, cap, rfl, hc, hcm, hr⟩ := hT
  obtain ⟨hok, hlen, _⟩ := stB_parts.1 hst
  obtain ⟨h40, hz40, _⟩ := pie_szs _ hok
  have bA : Below W.heap.size W (W.alloc (.cells #[.string S, .slice a ps.length cap] 26)) := (Below.refl _ _).alloc (Nat.le_refl _) _
  have e1 : (W.alloc (.cells #[.string S, .slice a ps.length cap] 26)).cell? ⟨W.heap.size, 1, none⟩ = some (.slice a ps.length cap) := by simp
  have hl1 : W.heap.size < (W.alloc (.cells #[.string S, .slice a ps.length cap] 26)).heap.size := by simp
  go_enter Tryz.func58, Tryz.ntmps58
  go_wp2
  generalize (W.alloc (.cells #[.string S, .slice a ps.length cap] 26)) = W1 at bA e1 hl1 ⊢
  go_loopw [3, 4] (fun o i wr => ∃ k : Nat, k ≤ ps.length ∧ i = .int .i64 k ∧ o = .int .i64 (szs ((pieL S.data.toList).take k) : Nat) ∧ Below W1.heap.size W1 wr) (fun o i wr => ps.length - (intOf i).toNat)
  case atStart => exact ⟨0, Nat.zero_le _, rfl, rfl, Below.refl _ _⟩
  case round =>
    obtain ⟨k, hk, rfl, rfl, hb⟩ := hrel
    have f1 := (hb.cell (p := ⟨W.heap.size, 1, none⟩) hl1).trans e1
    by_cases hlt : k < ps.length
    · have hlt' : (k : Int) < (ps.length : Int) := by omega
      have hp : ps[k]? = some ps[k] := List.getElem?_eq_getElem hlt
      obtain ⟨g, o, rfl, at2⟩ := isT_at hr k _ hp
      obtain ⟨x0, x1⟩ := (at2.below bA).below hb
      obtain ⟨x, hx, hpx⟩ := part_sz hst k _ hp
      have hst2 := szs_take _ k x hx
      have hle := szs_take_le (pieL S.data.toList) (k + 1)
      have hsum : szs ((pieL S.data.toList).take k) + x.sz ≤ 40 := by omega
      rw [hpx] at x0
      generalize ps[k] = p at hp x0 x1 hpx
      have HN := (show Hid _ from hst2)
      clear hst2 at2 hp hpx
      go_wp2
      go_roundw
      case rel => exact ⟨k + 1, by omega, by go_num, congrArg (Value.int IntKind.i64) (by rw [HN.out]; omega), hb⟩
      case measure => simp [intOf]; omega
    · have hge : (ps.length : Int) ≤ (k : Int) := by omega
      have htk : (pieL S.data.toList).take k = pieL S.data.toList := List.take_of_length_le (by omega)
      rw [htk]
      go_wp2
      go_ret
      exact ⟨rfl, bA.trans (hb.mono bA.size)⟩

theorem cellsT_one (m : List (Int × ByteArray)) : ∀ u ∈ cellsT m, u.oneCell' = true := by
  intro u hu
  induction m with
  | nil => cases hu
  | cons p m ih =>
    rw [cellsT_cons] at hu
    rcases List.mem_cons.1 hu with rfl | hu
    · rfl
    · rcases List.mem_cons.1 hu with rfl | hu
      · rfl
      · exact ih hu
theorem rowT_cells {W : World} {g o : Nat} {m : List (Int × ByteArray)} (h : ∀ (i : Nat) (p : Int × ByteArray), m[i]? = some p → At2 W g (o + i * 2) p) : ∀ j u, (cellsT m)[j]? = some u → W.cell? ((⟨g, o, none⟩ : Addr).add j) = some u := by
  intro j u hj
  have hjl : j < m.length * 2 := by rw [← cellsT_len]; exact (List.getElem?_eq_some_iff.1 hj).1
  have hi3 : j / 2 < m.length := by omega
  have hp : m[j / 2]? = some m[j / 2] := List.getElem?_eq_getElem hi3
  obtain ⟨a0, a1⟩ := h _ _ hp
  obtain ⟨b0, b1⟩ := cellsT_at m _ _ hp
  rw [Addr.add_lit]
  have e3 : j = j / 2 * 2 ∨ j = j / 2 * 2 + 1 := by omega
  rcases e3 with e3 | e3
  · rw [e3] at hj; rw [b0] at hj; rw [e3, ← Option.some.inj hj]; exact a0
  · rw [e3] at hj; rw [b1] at hj; rw [e3, ← Option.some.inj hj, ← Nat.add_assoc]; exact a1

set_option maxRecDepth 8000 in
set_option maxHeartbeats 8000000 in
theorem lput_no (W : World) (base : Nat) (o : Bool) (v : Value) (es : List (Int × Int)) (S : ByteArray) (pv : Value) (ps : List (Int × ByteArray)) (h2 : Rows2 W base v es pv ps) (q : Nat) (T : ByteArray) (hq : q ≤ 1000) (hT : T.size ≤ 1000) (hS : S.size ≤ 1000) (hno : S.size < q ∨ 40 < q + T.size) :
    Calls Tryz.prog 31 #[v, .agg #[.string S, pv], .int .i64 (q : Nat), .string T, .bool o] W fun r W' => r = .returned (.tuple #[v, .agg #[.string S, pv], .bool false]) ∧ Below W.heap.size W W' := by
  obtain ⟨va, vc, rfl⟩ := isM_slice (rowM_isM h2.rm)
  obtain ⟨pa, pc, rfl, _⟩ := isT_of_row h2.rt
  go_enter Tryz.func31, Tryz.ntmps31
  have bA : Below W.heap.size W ((W.alloc (.cells #[.string S, .slice pa ps.length pc] 26)).alloc (.cells #[.string S, .slice pa ps.length pc] 26)) := ((Below.refl _ _).alloc (Nat.le_refl _) _).alloc (by simp) _
  by_cases h1 : S.size < q
  · have h1' : (S.size : Int) < (q : Int) := by omega
    go_wp2_with fail
    go_region
    all_goals
      go_wp2
      refine bodyPost_ret (v := .tuple #[.slice va (prs es).length vc, .agg #[.string S, .slice pa ps.length pc], .bool false]) (by simp [results, Tryz.results31, go_sem]) rfl ?_
      exact ⟨rfl, bA.drew⟩
  · have h1' : ¬ (S.size : Int) < (q : Int) := by omega
    have h3' : (40 : Int) < (q : Int) + (T.size : Int) := by omega
    go_wp2_with fail
    go_region
    all_goals
      go_wp2
      refine bodyPost_ret (v := .tuple #[.slice va (prs es).length vc, .agg #[.string S, .slice pa ps.length pc], .bool false]) (by simp [results, Tryz.results31, go_sem]) rfl ?_
      exact ⟨rfl, bA.drew⟩
set_option maxRecDepth 8000 in
set_option maxHeartbeats 8000000 in
theorem lput_had (W : World) (base : Nat) (o : Bool) (v : Value) (es : List (Int × Int)) (S : ByteArray) (pv : Value) (ps : List (Int × ByteArray)) (h2 : Rows2 W base v es pv ps) (q : Nat) (T : ByteArray) (hq : q ≤ 1000) (hT : T.size ≤ 1000) (hS : S.size ≤ 1000) (h1 : q ≤ S.size) (h40 : q + T.size ≤ 40) (hle : q + T.size ≤ S.size) :
    Calls Tryz.prog 31 #[v, .agg #[.string S, pv], .int .i64 (q : Nat), .string T, .bool o] W fun r W' => r = .returned (.tuple #[v, .agg #[.string S, pv], .bool true]) ∧ Below W.heap.size W W' := by
  obtain ⟨va, vc, rfl⟩ := isM_slice (rowM_isM h2.rm)
  obtain ⟨pa, pc, rfl, _⟩ := isT_of_row h2.rt
  go_enter Tryz.func31, Tryz.ntmps31
  have bA : Below W.heap.size W ((W.alloc (.cells #[.string S, .slice pa ps.length pc] 26)).alloc (.cells #[.string S, .slice pa ps.length pc] 26)) := ((Below.refl _ _).alloc (Nat.le_refl _) _).alloc (by simp) _
  have h1' : ¬ (S.size : Int) < (q : Int) := by omega
  have h3' : ¬ (40 : Int) < (q : Int) + (T.size : Int) := by omega
  have h4' : (q : Int) + (T.size : Int) ≤ (S.size : Int) := by omega
  go_wp2_with fail
  go_region
  all_goals
    go_wp2
    refine bodyPost_ret (v := .tuple #[.slice va (prs es).length vc, .agg #[.string S, .slice pa ps.length pc], .bool true]) (by simp [results, Tryz.results31, go_sem]) rfl ?_
    exact ⟨rfl, bA.drew⟩

/-- what stands while parts are added: the stream in the making, the result's place, the pieces -/
structure Sys (wr : World) (Xb Rb : Nat) (I : ByteArray) (v1 : Value) (xs : List Pc) (v pv : Value) : Prop where
  hx : wr.heap[Xb]? = some (.cells #[.string I, pv] 26 (0, 0))
  hr : wr.heap[Rb]? = some (.cells #[.string ⟨#[]⟩, .slice none 0 0] 26 (0, 0))
  hp : Lz.IsP wr v1 xs
  lv : ∀ g o n c, v1 = .slice (some ⟨g, o, none⟩) n c → g < wr.heap.size
  nx : Xb ≠ Rb ∧ ∀ g o n c, v1 = .slice (some ⟨g, o, none⟩) n c → g ≠ Xb
  nm : ∀ k, v.ownBlock = some k → k ≠ Xb ∧ k ≠ Rb ∧ ∀ g o n c, v1 = .slice (some ⟨g, o, none⟩) n c → k ≠ g
  np : ∀ k, pv.ownBlock = some k → k ≠ Xb ∧ k ≠ Rb ∧ ∀ g o n c, v1 = .slice (some ⟨g, o, none⟩) n c → k ≠ g
  ne : v.ownBlock = none ∨ v.ownBlock ≠ pv.ownBlock
  nn : ∃ k, pv.ownBlock = some k
theorem Sys.ltx {wr : World} {Xb Rb : Nat} {I : ByteArray} {v1 : Value} {xs : List Pc} {v pv : Value} (h : Sys wr Xb Rb I v1 xs v pv) : Xb < wr.heap.size := (Array.getElem?_eq_some_iff.1 h.hx).1
theorem Sys.ltr {wr : World} {Xb Rb : Nat} {I : ByteArray} {v1 : Value} {xs : List Pc} {v pv : Value} (h : Sys wr Xb Rb I v1 xs v pv) : Rb < wr.heap.size := (Array.getElem?_eq_some_iff.1 h.hr).1
theorem Sys.below {wr W1 : World} {Xb Rb : Nat} {I : ByteArray} {v1 : Value} {xs : List Pc} {v pv : Value} (h : Sys wr Xb Rb I v1 xs v pv) (k : Below wr.heap.size wr W1) : Sys W1 Xb Rb I v1 xs v pv :=
  ⟨(k.block _ h.ltx).trans h.hx, (k.block _ h.ltr).trans h.hr, h.hp.below k, fun g o n c e => Nat.lt_of_lt_of_le (h.lv g o n c e) k.size, h.nx, h.nm, h.np, h.ne, h.nn⟩
theorem Sys.gr {wr W1 : World} {Xb Rb : Nat} {I : ByteArray} {v1 : Value} {xs : List Pc} {v pv v' : Value} (h : Sys wr Xb Rb I v1 xs v pv) (k : Gr wr W1 v v') (hpv : ∀ b, pv.ownBlock = some b → b < wr.heap.size) : Sys W1 Xb Rb I v1 xs v' pv := by
  refine ⟨(k.1.block _ h.ltx fun e => (h.nm _ e.symm).1 rfl).trans h.hx, (k.1.block _ h.ltr fun e => (h.nm _ e.symm).2.1 rfl).trans h.hr, isP_grown h.hp k.1 (fun g o n c e q => (h.nm g q).2.2 g o n c e rfl), fun g o n c e => Nat.lt_of_lt_of_le (h.lv g o n c e) k.1.size, h.nx, ?_, h.np, ?_, h.nn⟩
  · intro b hb
    rcases k.2 with q | ⟨g, q, hq⟩
    · exact h.nm b (q ▸ hb)
    · rw [q] at hb; cases hb
      refine ⟨fun e => ?_, fun e => ?_, fun g' o n c e e' => ?_⟩
      · have := h.ltx; omega
      · have := h.ltr; omega
      · have := h.lv g' o n c e; omega
  · rcases k.2 with q | ⟨g, q, hq⟩
    · rw [q]; exact h.ne
    · refine .inr fun e => ?_
      have := hpv g (by rw [← e, q]); omega
/-- a part more -/
theorem Sys.put {wr W1 : World} {Xb Rb : Nat} {I : ByteArray} {v1 : Value} {xs : List Pc} {v pv pv' : Value} {ob : Obj} (h : Sys wr Xb Rb I v1 xs v pv) (k : (wr.alloc ob).grownBy W1 pv.ownBlock) (hw : ∀ g, pv'.ownBlock = some g → pv.ownBlock = some g ∨ wr.heap.size ≤ g) (hvm : ∀ b, v.ownBlock = some b → b < wr.heap.size) (hnn : ∃ k, pv'.ownBlock = some k) : Sys (W1.setCell ⟨Xb, 1, none⟩ pv') Xb Rb I v1 xs v pv' ∧ (∀ b, b < wr.heap.size → b ≠ Xb → some b ≠ pv.ownBlock → (W1.setCell ⟨Xb, 1, none⟩ pv').heap[b]? = wr.heap[b]?) := by
  have hb : ∀ b, b < wr.heap.size → some b ≠ pv.ownBlock → W1.heap[b]? = wr.heap[b]? := fun b hl hn => (k.block b (by simp; omega) hn).trans (Below.heap_alloc _ _ _ (by omega))
  have hs := k.size
  simp at hs
  have hX := (hb Xb h.ltx fun e => (h.np _ e.symm).1 rfl).trans h.hx
  have hR := (hb Rb h.ltr fun e => (h.np _ e.symm).2.1 rfl).trans h.hr
  have hk : ∀ b, b < wr.heap.size → b ≠ Xb → some b ≠ pv.ownBlock → (W1.setCell ⟨Xb, 1, none⟩ pv').heap[b]? = wr.heap[b]? := fun b hl hne hn => (Below.heap_setCell _ _ _ _ hne).trans (hb b hl hn)
  refine ⟨⟨?_, (Below.heap_setCell _ _ _ _ (fun e => h.nx.1 e.symm)).trans hR, ?_, fun g o n c e => by rw [set_size]; have := h.lv g o n c e; omega, h.nx, h.nm, ?_, ?_, hnn⟩, hk⟩
  · rw [setCell_obj hX]; simp
  · rcases h.hp with q | ⟨g, o, cap, e, q2, q3, q4⟩
    · exact .inl q
    · refine .inr ⟨g, o, cap, e, q2, q3, fun i p hp => ?_⟩
      have hq := q4 i p hp
      have he : ∀ j, (W1.setCell ⟨Xb, 1, none⟩ pv').cell? ⟨g, j, none⟩ = wr.cell? ⟨g, j, none⟩ := fun j => World.cell?_of_block (hk g (h.lv g o _ _ e) (h.nx.2 g o _ _ e) (fun e2 => (h.np g e2.symm).2.2 g o _ _ e rfl))
      exact ⟨(he _).trans hq.1, (he _).trans hq.2.1, (he _).trans hq.2.2.1, (he _).trans hq.2.2.2⟩
  · intro b hb
    rcases hw b hb with q | hq
    · exact h.np b q
    · refine ⟨fun e => ?_, fun e => ?_, fun g' o n c e e' => ?_⟩
      · have := h.ltx; omega
      · have := h.ltr; omega
      · have := h.lv g' o n c e; omega
  · cases hv : v.ownBlock with
    | none => exact .inl rfl
    | some k =>
      refine .inr fun e => ?_
      rcases hw k e.symm with q | hq
      · rcases h.ne with q0 | q0
        · rw [hv] at q0; cases q0
        · exact q0 (by rw [hv, q])
      · have := hvm k hv; omega
theorem keep5 {w3 w5 : World} {ob : Obj} {x n c : Nat} (hg : (w3.alloc ob).grownBy w5 (Value.slice (some ⟨w3.heap.size, 0, none⟩) n c).ownBlock) (hl : x < w3.heap.size) : w5.heap[x]? = w3.heap[x]? :=
  (hg.block x (by simp; omega) (fun e => by simp [Value.ownBlock] at e; omega)).trans (Below.heap_alloc _ _ _ (by omega))
theorem keep5s {w3 w5 : World} {ob : Obj} {r : Option Nat} (hg : (w3.alloc ob).grownBy w5 r) : w3.heap.size ≤ w5.heap.size := by have := hg.size; simp at this; omega
theorem isP_at {W : World} {v : Value} {ps : List Pc} (h : Lz.IsP W v ps) (i : Nat) (p : Pc) (hp : ps[i]? = some p) : ∃ g o c, v = .slice (some ⟨g, o, none⟩) ps.length c ∧ Lz.At4 W g (o + i * 4) p := by
  rcases h with ⟨rfl, rfl⟩ | ⟨g, o, c, rfl, _, _, h⟩
  · simp at hp
  · exact ⟨g, o, c, rfl, h i p hp⟩
theorem ne_swap {a b : Option Nat} (h : a = none ∨ a ≠ b) : b = none ∨ b ≠ a := by
  cases b with
  | none => exact .inl rfl
  | some b => rcases h with rfl | h
              · exact .inr (by simp)
              · exact .inr fun e => h e.symm
theorem row_slice {W : World} {b : Nat} {e : TypeId} {sz n : Nat} {v : Value} {xs : List Value} (h : W.ownsRow b e sz v n xs) : ∃ a c, v = .slice a n c := by
  rcases h.2 with ⟨q, q0⟩ | ⟨g, cap, cur, q, _⟩
  · exact ⟨_, _, q.trans (by rw [q0])⟩
  · exact ⟨_, _, q⟩
theorem ext_at (I : ByteArray) (A k n : Nat) (L : List UInt8) (h : I.data.toList.drop A = L) : (I.extract (A + k) (A + k + n)).data.toList = (L.drop k).take n := by
  rw [ByteArray.data_extract, Array.toList_extract, List.extract_eq_take_drop, ← h, List.drop_drop]
  congr 1; omega
theorem prt_take (o : Bool) (es : List (Int × Int)) (Y : List Pc) (j : Nat) (x : Pc) (L : List UInt8) (h : Y[j]? = some x) :
    prt o es (Y.take (j + 1)) L = ((goY o (prt o es (Y.take j) L).1 x ((L.drop (szs (Y.take j))).take x.sz)).1, (prt o es (Y.take j) L).2 ++ [((x.sz : Int), mkB (goY o (prt o es (Y.take j) L).1 x ((L.drop (szs (Y.take j))).take x.sz)).2)]) := by
  rw [List.take_add_one, h]; exact prt_snoc o es (Y.take j) x L

/-- as Gr, one behind the other -/
theorem gr_below {W wr w6 : World} {v0 v : Value} (h : Gr W wr v0 v) (k : Below wr.heap.size wr w6) : Gr W w6 v0 v := ⟨grown_trans h.1 (grown_of k _), h.2⟩
theorem gr_trans {W wr w6 : World} {v0 v v6 : Value} (h : Gr W wr v0 v) (k : Gr wr w6 v v6) : Gr W w6 v0 v6 := by
  have z := h.1.size
  refine ⟨⟨k.1.os.trans h.1.os, k.1.tape.trans h.1.tape, k.1.output.trans h.1.output, Nat.le_trans z k.1.size, fun i hi hn => (k.1.block i (by omega) fun e => ?_).trans (h.1.block i hi hn)⟩, ?_⟩
  · rcases h.2 with q | ⟨g, q, hq⟩
    · exact hn (e.trans q)
    · rw [q] at e; cases e; omega
  · rcases k.2 with q | ⟨g, q, hq⟩
    · rw [q]; exact h.2
    · exact .inr ⟨g, q, by omega⟩
theorem gr_row {W wr w6 : World} {v0 v : Value} {row : Option Nat} (h : Gr W wr v0 v) (k : wr.grownBy w6 row) (hr : ∀ g, row = some g → W.heap.size ≤ g) : Gr W w6 v0 v := by
  have z := h.1.size
  exact ⟨⟨k.os.trans h.1.os, k.tape.trans h.1.tape, k.output.trans h.1.output, Nat.le_trans z k.size, fun i hi hn => (k.block i (by omega) fun e => by have := hr i e.symm; omega).trans (h.1.block i hi hn)⟩, h.2⟩
theorem gr_set {W wr : World} {v0 v : Value} (h : Gr W wr v0 v) {p : Addr} (hp : W.heap.size ≤ p.block) (u : Value) : Gr W (wr.setCell p u) v0 v :=
  gr_row h (row := some p.block) ⟨rfl, rfl, rfl, by simp [World.setCell], fun k _ hk => Below.heap_setCell _ _ _ _ (fun e => hk (by rw [e]))⟩ (fun g e => by cases e; exact hp)
theorem gr_drew {W wr : World} {v0 v : Value} (h : Gr W wr v0 v) : Gr W wr.drew v0 v := ⟨⟨h.1.os, h.1.tape, h.1.output, h.1.size, h.1.block⟩, h.2⟩

set_option maxRecDepth 8000 in
set_option maxHeartbeats 16000000 in
theorem lput_new (W : World) (base : Nat) (hB : base ≤ W.heap.size) (o : Bool) (v : Value) (es : List (Int × Int)) (hg : GoodE es) (S : ByteArray) (pv : Value) (ps : List (Int × ByteArray)) (h2 : Rows2 W base v es pv ps) (hst : stB S ps = true) (q : Nat) (T : ByteArray) (hTok : okB T.data.toList = true) (h1 : q ≤ S.size) (h40 : q + T.size ≤ 40) (hgt : S.size < q + T.size) (b : List UInt8) (hb : b = T.data.toList.drop (S.size - q)) :
    Calls Tryz.prog 31 #[v, .agg #[.string S, pv], .int .i64 (q : Nat), .string T, .bool o] W fun r W' => ∃ v' pv', r = .returned (.tuple #[v', .agg #[.string (mkB (S.data.toList ++ b)), pv'], .bool true]) ∧
      Rows2 W' base v' (prt o es (pieL (hp S.data.toList ++ b)) (hp S.data.toList ++ b)).1 pv' (ps ++ (prt o es (pieL (hp S.data.toList ++ b)) (hp S.data.toList ++ b)).2) ∧ Below base W W' ∧ Gr W W' v v' ∧ (∀ k, pv'.ownBlock = some k → W.heap.size ≤ k) := by
  obtain ⟨i0, hi, hz0, hz1, hz2⟩ := info_parts infoT
  obtain ⟨hSok, hlen, _⟩ := stB_parts.1 hst
  have hS40 := (ok_parts _ hSok).1
  rw [lenL] at hS40
  have hIl : (S ++ T.extract (S.size - q) T.size).data.toList = S.data.toList ++ b := by
    rw [ByteArray.data_append, Array.toList_append, ext_from, hb]
  have hIok : okB (S.data.toList ++ b) = true := by
    refine ok_app _ _ hSok (by rw [hb]; exact ok_drop _ _ hTok) ?_
    rw [hb, List.length_drop, lenL, lenL]; omega
  have hIz : (S ++ T.extract (S.size - q) T.size).size ≤ 40 := by
    rw [← lenL, hIl]; exact (ok_parts _ hIok).1
  obtain ⟨q1, q2, q3, q4⟩ := pie_split _ _ hIok
  obtain ⟨y40, yz40, _⟩ := pie_szs _ hIok
  rw [q1, List.length_append] at y40
  rw [q1, szs_app] at yz40
  have hmk : mkB (S.data.toList ++ b) = S ++ T.extract (S.size - q) T.size := (mkB_of hIl).symm
  rw [hmk]
  have hszI : szs (pieL S.data.toList) + szs (pieL (hp S.data.toList ++ b)) ≤ (S ++ T.extract (S.size - q) T.size).size := by
    have := (pie_szs _ hIok).2.2
    rw [q1, szs_app, ← hIl, lenL] at this; exact this
  have hIp : pcs (bd (S ++ T.extract (S.size - q) T.size).data.toList) = pieL S.data.toList ++ pieL (hp S.data.toList ++ b) := by
    rw [hIl, ← pie_ok _ hIok, q1]
  have hdr : (S ++ T.extract (S.size - q) T.size).data.toList.drop (szs (pieL S.data.toList)) = hp S.data.toList ++ b := by rw [hIl]; exact q3
  have HI := (show Hid (okB (S.data.toList ++ b) = true) from hIok)
  generalize pieL (hp S.data.toList ++ b) = Y at *
  generalize hp S.data.toList ++ b = L at *
  obtain ⟨I, hI⟩ : ∃ I, S ++ T.extract (S.size - q) T.size = I := ⟨_, rfl⟩
  have HII := (show Hid (S ++ T.extract (S.size - q) T.size = I) from hI)
  rw [hI] at hIz hszI hIp hdr ⊢
  have hT1 := isT_of_row h2.rt
  obtain ⟨va, vc, rfl⟩ := isM_slice (rowM_isM h2.rm)
  obtain ⟨pa, pc, rfl, hpc, hpm, hprow⟩ := id hT1
  have bA : Below W.heap.size W ((W.alloc (.cells #[.string S, .slice pa ps.length pc] 26)).alloc (.cells #[.string ⟨#[]⟩, .slice none 0 0] 26)) := ((Below.refl _ _).alloc (Nat.le_refl _) _).alloc (by simp) _
  have h1' : ¬ (S.size : Int) < (q : Int) := by omega
  have h3' : ¬ (40 : Int) < (q : Int) + (T.size : Int) := by omega
  have h4' : ¬ (q : Int) + (T.size : Int) ≤ (S.size : Int) := by omega
  have hTz : T.size ≤ 40 := by omega
  have h5 : ((S.size : Int) - (q : Int)) = ((S.size - q : Nat) : Int) := by omega
  have h6 : ((S.size - q : Nat) : Int) ≤ (T.size : Int) := by omega
  have H2 := (show Hid (Rows2 W base (.slice va (prs es).length vc) es (.slice pa ps.length pc) ps) from h2)
  clear h2 hIl hIok hmk q1 q2 q3 q4 hI
  go_enter Tryz.func31, Tryz.ntmps31
  go_wp2_with fail
  go_quiet (fail)
  go_wp2_with fail
  have b1 := bA.trans (Ms.below_drewN W.heap.size ((W.alloc (.cells #[.string S, .slice pa ps.length pc] 26)).alloc (.cells #[.string ⟨#[]⟩, .slice none 0 0] 26)) nq)
  have z1 : (((W.alloc (.cells #[.string S, .slice pa ps.length pc] 26)).alloc (.cells #[.string ⟨#[]⟩, .slice none 0 0] 26)).drewN nq).heap.size = W.heap.size + 2 := by show (World.alloc _ _).heap.size = _; simp
  have e0 : (((W.alloc (.cells #[.string S, .slice pa ps.length pc] 26)).alloc (.cells #[.string ⟨#[]⟩, .slice none 0 0] 26)).drewN nq).cell? ⟨W.heap.size, 0, none⟩ = some (.string S) := by simp [go_sem]
  have e1 : (((W.alloc (.cells #[.string S, .slice pa ps.length pc] 26)).alloc (.cells #[.string ⟨#[]⟩, .slice none 0 0] 26)).drewN nq).cell? ⟨W.heap.size, 1, none⟩ = some (.slice pa ps.length pc) := by simp [go_sem]
  have eR : (((W.alloc (.cells #[.string S, .slice pa ps.length pc] 26)).alloc (.cells #[.string ⟨#[]⟩, .slice none 0 0] 26)).drewN nq).heap[W.heap.size + 1]? = some (.cells #[.string ⟨#[]⟩, .slice none 0 0] 26 (0, 0)) := by
    have := World.alloc_heap_new (W.alloc (.cells #[.string S, .slice pa ps.length pc] 26)) (.cells #[.string ⟨#[]⟩, .slice none 0 0] 26)
    rwa [World.size_alloc] at this
  generalize (((W.alloc (.cells #[.string S, .slice pa ps.length pc] 26)).alloc (.cells #[.string ⟨#[]⟩, .slice none 0 0] 26)).drewN nq) = w1 at b1 z1 e0 e1 eR ⊢
  refine (done_any S _ ps _ (hT1.below b1) hst).mono ?_
  rintro e w2 ⟨rfl, k2⟩
  have f0 := (k2.cell (p := ⟨W.heap.size, 0, none⟩) (by simp; omega)).trans e0
  have f1 := (k2.cell (p := ⟨W.heap.size, 1, none⟩) (by simp; omega)).trans e1
  have fR := (k2.block (W.heap.size + 1) (by omega)).trans eR
  have b2 := b1.trans (k2.mono b1.size)
  have z2 : W.heap.size + 2 ≤ w2.heap.size := by have := k2.size; omega
  clear k2 e0 e1 eR b1 z1 bA
  rw [HII.out]
  go_wp2_with fail
  refine (lpieces_any I (by omega) _).mono ?_
  rintro e w3 ⟨v1, rfl, hr3, k3⟩
  rw [hIp] at hr3
  have hP3 := Lz.isP_of_row hr3
  obtain ⟨a1, c1, hv1⟩ := LzP.isP_slice hP3
  have g0 := (k3.cell (p := ⟨W.heap.size, 0, none⟩) (by simp; omega)).trans f0
  have g1 := (k3.cell (p := ⟨W.heap.size, 1, none⟩) (by simp; omega)).trans f1
  have gR := (k3.block (W.heap.size + 1) (by omega)).trans fR
  have b3 := b2.trans (k3.mono b2.size)
  have z3 := k3.size
  have hob : ∀ g o n c, v1 = .slice (some ⟨g, o, none⟩) n c → w2.heap.size ≤ g ∧ g < w3.heap.size := by
    intro g o n c e
    have hob : v1.ownBlock = some g := by
      rcases hr3.2 with ⟨q, _⟩ | ⟨g', cap', cur, q, _⟩
      · rw [q] at e; cases e
      · rw [q] at e ⊢
        simp at e
        rw [e.1.1]; rfl
    exact hr3.lt g hob
  have HOB := (show Hid (∀ g o n c, v1 = .slice (some ⟨g, o, none⟩) n c → w2.heap.size ≤ g ∧ g < w3.heap.size) from hob)
  have HP3 := (show Hid (Lz.IsP w3 v1 (pieL S.data.toList ++ Y)) from hP3)
  clear k3 f0 f1 fR hr3 hP3 hob
  have hnew := World.ownsRow_made (base := w3.heap.size) (e := 79) (size := 2) w3 #[] 0 (Nat.le_refl _) (Nat.zero_le _) rfl
  have hxl : (pieL S.data.toList ++ Y).length = ps.length + Y.length := by rw [List.length_append, hlen]
  have hpl40 : ps.length ≤ 40 := by omega
  have hlt3 : W.heap.size < w3.heap.size := by omega
  obtain ⟨N, hN⟩ : ∃ N, (pieL S.data.toList ++ Y).length = N := ⟨_, rfl⟩
  rw [hN] at hv1 hxl
  subst hv1
  obtain ⟨c1P, hc1⟩ : ∃ c, c = c1 := ⟨_, rfl⟩
  subst hc1
  have HXL := (show Hid (N = ps.length + Y.length) from hxl)
  clear hN hxl
  generalize szs (pieL S.data.toList) = A at *
  generalize pieL S.data.toList = Z at *
  rcases H2.out.rt.2 with ⟨epv, hps0⟩ | ⟨g, cap, cur, epv, hbg, hgc, hnc, hcm, hcs, htk⟩
  · simp only [Value.slice.injEq] at epv
    obtain ⟨rfl, -, rfl⟩ := epv
    obtain ⟨k, hk⟩ := H2.out.nn
    cases hk
  · simp only [Value.slice.injEq] at epv
    obtain ⟨rfl, -, rfl⟩ := epv
    have hprow2 : ∀ (i : Nat) (p : Int × ByteArray), ps[i]? = some p → At2 (w3.alloc (.cells #[] 79)) g (0 + i * 2) p := by
      intro i p hp
      rcases hprow with rfl | ⟨g', o', e', hat⟩
      · simp at hp
      · cases e'
        exact ((hat i p hp).below b3).below ((Below.refl _ _).alloc (Nat.le_refl _) _)
    have hcell := rowT_cells hprow2
    clear hprow hprow2 hT1
    go_wp2_with (at_builtin; refine wpList_append_own_at _ rfl _ _ 24 rfl w3.heap.size 79 i0 (.agg #[.int .i64 0, .string ByteArray.empty]) 2 24 Tryz.underlying24 hi hz0 hz1 hz2 rfl (by decide) _ _ _ rfl hnew ⟨g, 0, none⟩ ps.length pc (cellsT ps) rfl (cellsT_len ps) hcell (cellsT_one ps) (by unfold maxLen; omega) (by omega) (by simp) ?_; intro v' w5 hown' hgrow _ hwn; have hnn5 : ∃ k, v'.ownBlock = some k := (by rcases hwn with q | q; exact ⟨_, q⟩; exact ⟨_, q⟩); obtain ⟨a5, c5, rfl⟩ := row_slice hown'; have m1 := (World.cell?_of_block (keep5 (x := W.heap.size) hgrow hlt3)).trans g1; have hlt5 : W.heap.size < w5.heap.size := (Nat.lt_of_lt_of_le hlt3 (keep5s hgrow)); have b5 : Below w3.heap.size w3 w5 := ((Below.refl _ w3).alloc (Nat.le_refl _) _).trans (grown_below hgrow (by simp) (fun k hk => (hnew.lt k hk).1)); have row5 : w5.ownsRow w3.heap.size 79 2 (.slice a5 ps.length c5) ps.length (cellsT ps) := (by simpa using hown'); clear hown' hgrow)
    clear hcell m1
    have z5 := b5.size
    have sys0 : Sys (w5.alloc (.cells #[.string I, .slice a5 ps.length c5] 26)) w5.heap.size (W.heap.size + 1) I (.slice a1 N c1P) (Z ++ Y) (.slice va (prs es).length vc) (.slice a5 ps.length c5) := by
      have hob := HOB.out
      refine ⟨World.alloc_heap_new _ _, (Below.heap_alloc _ _ _ (by omega)).trans ((b5.block _ (by omega)).trans gR), (HP3.out.below b5).below ((Below.refl _ _).alloc (Nat.le_refl _) _), fun g o n c e => ?_, ⟨by omega, fun g o n c e => ?_⟩, fun k hk => ?_, fun k hk => ?_, ?_, by simpa using hnn5⟩
      · have := hob g o n c e; simp; omega
      · have := hob g o n c e; omega
      · have h1 := (H2.out.rm.lt k hk).2
        exact ⟨by omega, by omega, fun g o n c e => by have := hob g o n c e; omega⟩
      · have h1 := row5.lt k hk
        exact ⟨by omega, by omega, fun g o n c e => by have := hob g o n c e; omega⟩
      · cases hv : (Value.slice va (prs es).length vc).ownBlock with
        | none => exact .inl rfl
        | some k =>
          refine .inr fun e => ?_
          have h1 := (H2.out.rm.lt k hv).2
          have h2 := row5.lt k e.symm
          omega
    have rowM0 : OwnP (w5.alloc (.cells #[.string I, .slice a5 ps.length c5] 26)) base (.slice va (prs es).length vc) (prt o es (Y.take 0) L).1 := by
      rw [List.take_zero, prt]
      exact ((H2.out.rm.below b3).below (b5.mono (Nat.le_refl _))).alloc _
    have rowT0 : (w5.alloc (.cells #[.string I, .slice a5 ps.length c5] 26)).ownsRow W.heap.size 79 2 (.slice a5 ps.length c5) ps.length (cellsT (ps ++ (prt o es (Y.take 0) L).2)) := by
      rw [List.take_zero, prt, List.append_nil]
      exact (ownsRow_base row5 (by omega)).alloc _
    have bel0 : Below base W (w5.alloc (.cells #[.string I, .slice a5 ps.length c5] 26)) ∧ Gr W (w5.alloc (.cells #[.string I, .slice a5 ps.length c5] 26)) (.slice va (prs es).length vc) (.slice va (prs es).length vc) := ⟨((b3.mono hB).trans (b5.mono (by omega))).alloc (by have := b5.size; omega) _, Gr.of ((b3.trans (b5.mono (by omega))).alloc (by have := b5.size; omega) _) _⟩
    obtain ⟨Xb, hXb⟩ : ∃ Xb, w5.heap.size = Xb := ⟨_, rfl⟩
    generalize (w5.alloc (.cells #[.string I, .slice a5 ps.length c5] 26)) = wL at sys0 rowM0 rowT0 bel0 ⊢
    rw [hXb] at sys0 z5 ⊢
    have hXB : base ≤ Xb := by omega
    have hXW : W.heap.size ≤ Xb := by omega
    clear HOB HP3 row5 b5 H2 b3 gR g0 g1 hXb hnew HI
    go_loopw [0, 15, 18] (fun vm vf vi wr => ∃ (j J B : Nat) (pv : Value), Hid (J = ps.length + j) ∧ Hid (B = A + szs (Y.take j)) ∧ j ≤ Y.length ∧ vf = .int .i64 ((B : Nat) : Int) ∧ vi = .int .i64 ((J : Nat) : Int) ∧ OwnP wr base vm (prt o es (Y.take j) L).1 ∧ wr.ownsRow W.heap.size 79 2 pv J (cellsT (ps ++ (prt o es (Y.take j) L).2)) ∧ Sys wr Xb (W.heap.size + 1) I (.slice a1 N c1P) (Z ++ Y) vm pv ∧ (Below base W wr ∧ Gr W wr (.slice va (prs es).length vc) vm)) (fun vm vf vi wr => N - (intOf vi).toNat)
    case atStart => exact ⟨0, ps.length, A, _, rfl, (show A = A + szs [] from rfl), Nat.zero_le _, rfl, rfl, rowM0, rowT0, sys0, bel0⟩
    case round =>
      obtain ⟨j, J, B, pv, HJ, HBB, hj, rfl, rfl, hrm, hrt, hsy, hbw⟩ := hrel
      clear sys0 rowM0 rowT0 bel0
      by_cases hjl : j < Y.length
      · have hx : Y[j]? = some Y[j] := List.getElem?_eq_getElem hjl
        have hxs : (Z ++ Y)[J]? = some Y[j] := by rw [HJ.out, List.getElem?_append_right (by omega), ← hx]; congr 1; omega
        have htk := prt_take o es Y j _ L hx
        have hzk := szs_take Y j _ hx
        have hzl := szs_take_le Y (j + 1)
        generalize Y[j] = x at hx hxs htk hzk
        have hgj := prt_good o es (Y.take j) L hg
        have hext := ext_at I A (szs (Y.take j)) x.sz L hdr
        rw [← HBB.out] at hext
        obtain ⟨gP, oP, cc, ev, x0, x1, x2, x3⟩ := isP_at hsy.hp J x hxs
        simp only [Value.slice.injEq] at ev
        obtain ⟨rfl, -, rfl⟩ := ev
        have hcond : (J : Int) < (N : Int) := by have := HJ.out; have := HXL.out; omega
        have hcondN : J < N := by omega
        have hend : B + x.sz ≤ I.size := by have := HBB.out; omega
        have hJ80 : J ≤ 80 := by have := HJ.out; omega
        have hbB := hbw.1.size
        obtain ⟨vma, vmc, rfl⟩ := hrm.slice
        generalize hE : (prt o es (Y.take j) L).1 = E at hrm hgj htk hsy hbw ⊢
        have hk2 : (B : Int) + (x.sz : Int) ≤ (I.size : Int) := by omega
        have HTK := (show Hid _ from htk)
        have HEX := (show Hid _ from hext)
        have HZK := (show Hid (szs (Y.take (j + 1)) = szs (Y.take j) + x.sz) from hzk)
        have HRM := (show Hid (OwnP wr base (.slice vma E.length vmc) E) from hrm)
        have HRT := (show Hid (wr.ownsRow W.heap.size 79 2 pv J (cellsT (ps ++ (prt o es (Y.take j) L).2))) from hrt)
        have HSY := (show Hid (Sys wr Xb (W.heap.size + 1) I (.slice (some ⟨gP, oP, none⟩) N c1P) (Z ++ Y) (.slice vma E.length vmc) pv) from hsy)
        have HBW := (show Hid (Below base W wr ∧ Gr W wr (.slice va (prs es).length vc) (.slice vma E.length vmc)) from hbw)
        clear htk hext hrm hrt hsy hbw hzk hzl
        cases o
        · go_wp2_with fail
          refine (sin_piece _ _ E hgj (rowM_isM HRM.out) x _).mono ?_
          rintro e w6 ⟨Tx, rfl, hTx, k6⟩
          rw [HEX.out] at hTx
          have hsy6 := HSY.out.below k6
          have hrt6 := row_below HRT.out k6
          obtain ⟨v6, hv6⟩ : ∃ v6, v6 = Value.slice vma E.length vmc := ⟨_, rfl⟩
          have hrm6 := HRM.out.below k6
          have hb6 := HBW.out.1.trans (k6.mono (by omega))
          have hg6 := gr_below HBW.out.2 k6
          have hE6 : (prt false es (Y.take (j + 1)) L).1 = E := by rw [HTK.out]; rfl
          have hT6 : (prt false es (Y.take (j + 1)) L).2 = (prt false es (Y.take j) L).2 ++ [((x.sz : Int), Tx)] := by rw [HTK.out, mkB_of hTx]; rfl
          have hz6 := k6.size
          rw [← hv6] at hsy6 hrm6 hg6
          have HE6 := (show Hid _ from hE6)
          have HT6 := (show Hid _ from hT6)
          have HB6 := (show Hid (Below base W w6 ∧ Gr W w6 (.slice va (prs es).length vc) v6) from ⟨hb6, hg6⟩)
          clear hE6 hT6 hTx x0 x1 x2 x3 hb6 hg6
          obtain ⟨a6, c6, rfl⟩ := row_slice hrt6
          have c0 : w6.cell? ⟨Xb, 0, none⟩ = some (.string I) := by simp [World.cell?, hsy6.hx]
          have c1 : w6.cell? ⟨Xb, 1, none⟩ = some (.slice a6 J c6) := by simp [World.cell?, hsy6.hx]
          have cf : w6.frozen? ⟨Xb, 1, none⟩ = false := by simp [World.frozen?, hsy6.hx]
          obtain ⟨_, _, _, ev6, y0, -, -, -⟩ := isP_at hsy6.hp _ x hxs
          simp only [Value.slice.injEq, Option.some.injEq, Addr.mk.injEq, and_true] at ev6
          obtain ⟨⟨rfl, rfl⟩, -, rfl⟩ := ev6
          have lx6 := hsy6.ltx
          have lg6 := hsy6.lv _ _ _ _ rfl
          have ngx : ¬ gP = Xb := hsy6.nx.2 _ _ _ _ rfl
          have ngx' : ¬ Xb = gP := fun e => ngx e.symm
          have HS6 := (show Hid (Sys w6 Xb (W.heap.size + 1) I (.slice (some ⟨gP, oP, none⟩) N c1P) (Z ++ Y) v6 (.slice a6 J c6)) from hsy6)
          have HM6 := (show Hid (OwnP w6 base v6 E) from hrm6)
          have HR6 := (show Hid (w6.ownsRow W.heap.size 79 2 (.slice a6 J c6) J (cellsT (ps ++ (prt false es (Y.take j) L).2))) from hrt6)
          have hnp : ∀ k, (Value.slice a6 J c6).ownBlock = some k → k ≠ Xb ∧ k ≠ gP := fun k hk => ⟨(hsy6.np k hk).1, (hsy6.np k hk).2.2 _ _ _ _ rfl⟩
          have hB6 : base ≤ w6.heap.size := by omega
          have hW6 : W.heap.size ≤ w6.heap.size := HB6.out.1.size
          clear hsy6 hrm6 hrt6
          go_wp2_with fail
          go_region_law (refine step_append_own rfl (.tmp 100) (.tmp 108) 24 rfl W.heap.size 79 i0 (.agg #[.int .i64 0, .string ByteArray.empty]) 2 24 Tryz.underlying24 hi hz0 hz1 hz2 rfl (by decide) (.slice a6 J c6) J (cellsT (ps ++ (prt false es (Y.take j) L).2)) (by simp [Act.eval, Act.put]) (by first | exact HR6.out.alloc _ | exact HR6.out.drew.alloc _ | exact HR6.out.drew.drew.alloc _ | exact (HR6.out.alloc _).drew) ⟨w6.heap.size, 0, none⟩ 1 1 [.int .i64 (x.sz : Nat), .string Tx] (by simp [Act.eval, Act.put]) rfl (by first | exact two_at _ _ _ _ _ rfl | exact two_at _ _ _ _ w6.heap.size (by simp)) (by simp [Value.oneCell']) (by unfold maxLen; omega) (by omega) (by simp; omega) ?_; intro v7 w7 hown' hgrow0 hwh0; obtain ⟨g7, c7, rfl⟩ := ownsRow_succ hown'; have hgrow : (w6.alloc (.cells #[.int .i64 (x.sz : Nat), .string Tx] 79)).grownBy w7 (Value.slice a6 J c6).ownBlock := ⟨hgrow0.os, hgrow0.tape, hgrow0.output, hgrow0.size, hgrow0.block⟩; have y1 : w7.cell? ⟨gP, oP + J * 4, none⟩ = some (.int .i64 (x.sz : Nat)) := (World.cell?_of_block ((hgrow.block gP (by simp; omega) (fun e => (hnp gP e.symm).2 rfl)).trans (Below.heap_alloc _ _ _ (by omega)))).trans y0; have hX7 : w7.heap[Xb]? = w6.heap[Xb]? := (hgrow.block Xb (by simp; omega) (fun e => (hnp Xb e.symm).1 rfl)).trans (Below.heap_alloc _ _ _ (by omega)); have d1 : w7.cell? ⟨Xb, 1, none⟩ = some (.slice a6 J c6) := (World.cell?_of_block hX7).trans c1; have df : w7.frozen? ⟨Xb, 1, none⟩ = false := (World.frozen?_of_block hX7).trans cf)
          all_goals
            go_wp2
            go_roundw
            case rel =>
              have hw : ∀ g, (Value.slice (some ⟨g7, 0, none⟩) (J + 1) c7).ownBlock = some g → (Value.slice a6 J c6).ownBlock = some g ∨ w6.heap.size ≤ g := fun g hg => by
                rcases hwh0 g hg with q | q
                · exact .inl q
                · exact .inr (by simp at q; omega)
              obtain ⟨sys8, _⟩ := HS6.out.put (pv' := .slice (some ⟨g7, 0, none⟩) (J + 1) c7) hgrow hw (fun b hb => (HM6.out.lt b hb).2) ⟨_, rfl⟩
              have rowM8 := OwnP.setCell_other ((HM6.out.alloc _).kept hgrow HS6.out.ne) (a := ⟨Xb, 1, none⟩) (fun e => (HS6.out.nm _ e).1 rfl) (.slice (some ⟨g7, 0, none⟩) (J + 1) c7)
              have rowT8 := ownsRow_setCell_other hown' (a := ⟨Xb, 1, none⟩) (fun e => (sys8.np _ e).1 rfl) (.slice (some ⟨g7, 0, none⟩) (J + 1) c7)
              have bel8 : Below base W (w7.setCell ⟨Xb, 1, none⟩ (.slice (some ⟨g7, 0, none⟩) (J + 1) c7)) := ((HB6.out.1.alloc (by omega) _).trans (grown_below hgrow (by simp; omega) (fun k hk => Nat.le_trans hB (HR6.out.lt k hk).1))).setCell (p := ⟨Xb, 1, none⟩) hXB _
              have gr8 : Gr W (w7.setCell ⟨Xb, 1, none⟩ (.slice (some ⟨g7, 0, none⟩) (J + 1) c7)) (.slice va (prs es).length vc) v6 := gr_set (gr_row (gr_below HB6.out.2 ((Below.refl _ w6).alloc (Nat.le_refl _) _)) hgrow (fun k hk => (HR6.out.lt k hk).1)) (p := ⟨Xb, 1, none⟩) hXW _
              rw [hv6] at rowM8 sys8 gr8
              refine ⟨j + 1, J + 1, B + x.sz, _, (show J + 1 = ps.length + (j + 1) by have := HJ.out; omega), (show B + x.sz = A + szs (Y.take (j + 1)) by have := HBB.out; have := HZK.out; omega), by omega, congrArg (Value.int IntKind.i64) (by omega), congrArg (Value.int IntKind.i64) (by omega), ?_, ?_, sys8, bel8, gr8⟩
              · rw [HE6.out]; exact rowM8
              · rw [HT6.out, ← List.append_assoc, cellsT_snoc]; exact rowT8
            case measure => simp [intOf]; omega
        · go_wp2_with fail
          refine (sout_piece _ base (by omega) _ E hgj HRM.out x _).mono ?_
          rintro e w6 ⟨v6, Tx, rfl, hrm6, hTx, k6, hgr6⟩
          rw [HEX.out] at hTx hrm6
          have hsy6 := HSY.out.gr hgr6 (fun b hb => (HRT.out.lt b hb).2)
          have hrt6 := HRT.out.kept hgr6.1 (ne_swap HSY.out.ne)
          obtain ⟨a6m, c6m, hv6⟩ := hrm6.slice
          have hb6 := HBW.out.1.trans k6
          have hg6 := gr_trans HBW.out.2 hgr6
          have hE6 : (prt true es (Y.take (j + 1)) L).1 = (goO E x ((L.drop (szs (Y.take j))).take x.sz)).1 := by rw [HTK.out]; rfl
          have hT6 : (prt true es (Y.take (j + 1)) L).2 = (prt true es (Y.take j) L).2 ++ [((x.sz : Int), Tx)] := by rw [HTK.out, mkB_of hTx]; rfl
          have hz6 := hgr6.1.size
          have HE6 := (show Hid _ from hE6)
          have HT6 := (show Hid _ from hT6)
          have HB6 := (show Hid (Below base W w6 ∧ Gr W w6 (.slice va (prs es).length vc) v6) from ⟨hb6, hg6⟩)
          clear hE6 hT6 hTx x0 x1 x2 x3 hb6 hg6
          rw [hv6]
          obtain ⟨a6, c6, rfl⟩ := row_slice hrt6
          have c0 : w6.cell? ⟨Xb, 0, none⟩ = some (.string I) := by simp [World.cell?, hsy6.hx]
          have c1 : w6.cell? ⟨Xb, 1, none⟩ = some (.slice a6 J c6) := by simp [World.cell?, hsy6.hx]
          have cf : w6.frozen? ⟨Xb, 1, none⟩ = false := by simp [World.frozen?, hsy6.hx]
          obtain ⟨_, _, _, ev6, y0, -, -, -⟩ := isP_at hsy6.hp _ x hxs
          simp only [Value.slice.injEq, Option.some.injEq, Addr.mk.injEq, and_true] at ev6
          obtain ⟨⟨rfl, rfl⟩, -, rfl⟩ := ev6
          have lx6 := hsy6.ltx
          have lg6 := hsy6.lv _ _ _ _ rfl
          have ngx : ¬ gP = Xb := hsy6.nx.2 _ _ _ _ rfl
          have ngx' : ¬ Xb = gP := fun e => ngx e.symm
          have HS6 := (show Hid (Sys w6 Xb (W.heap.size + 1) I (.slice (some ⟨gP, oP, none⟩) N c1P) (Z ++ Y) v6 (.slice a6 J c6)) from hsy6)
          have HM6 := (show Hid (OwnP w6 base v6 (goO E x ((L.drop (szs (Y.take j))).take x.sz)).1) from hrm6)
          have HR6 := (show Hid (w6.ownsRow W.heap.size 79 2 (.slice a6 J c6) J (cellsT (ps ++ (prt true es (Y.take j) L).2))) from hrt6)
          have hnp : ∀ k, (Value.slice a6 J c6).ownBlock = some k → k ≠ Xb ∧ k ≠ gP := fun k hk => ⟨(hsy6.np k hk).1, (hsy6.np k hk).2.2 _ _ _ _ rfl⟩
          have hB6 : base ≤ w6.heap.size := by omega
          have hW6 : W.heap.size ≤ w6.heap.size := HB6.out.1.size
          clear hsy6 hrm6 hrt6
          go_wp2_with fail
          go_region_law (refine step_append_own rfl (.tmp 100) (.tmp 108) 24 rfl W.heap.size 79 i0 (.agg #[.int .i64 0, .string ByteArray.empty]) 2 24 Tryz.underlying24 hi hz0 hz1 hz2 rfl (by decide) (.slice a6 J c6) J (cellsT (ps ++ (prt true es (Y.take j) L).2)) (by simp [Act.eval, Act.put]) (by first | exact HR6.out.alloc _ | exact HR6.out.drew.alloc _ | exact HR6.out.drew.drew.alloc _ | exact (HR6.out.alloc _).drew) ⟨w6.heap.size, 0, none⟩ 1 1 [.int .i64 (x.sz : Nat), .string Tx] (by simp [Act.eval, Act.put]) rfl (by first | exact two_at _ _ _ _ _ rfl | exact two_at _ _ _ _ w6.heap.size (by simp)) (by simp [Value.oneCell']) (by unfold maxLen; omega) (by omega) (by simp; omega) ?_; intro v7 w7 hown' hgrow0 hwh0; obtain ⟨g7, c7, rfl⟩ := ownsRow_succ hown'; have hgrow : (w6.alloc (.cells #[.int .i64 (x.sz : Nat), .string Tx] 79)).grownBy w7 (Value.slice a6 J c6).ownBlock := ⟨hgrow0.os, hgrow0.tape, hgrow0.output, hgrow0.size, hgrow0.block⟩; have y1 : w7.cell? ⟨gP, oP + J * 4, none⟩ = some (.int .i64 (x.sz : Nat)) := (World.cell?_of_block ((hgrow.block gP (by simp; omega) (fun e => (hnp gP e.symm).2 rfl)).trans (Below.heap_alloc _ _ _ (by omega)))).trans y0; have hX7 : w7.heap[Xb]? = w6.heap[Xb]? := (hgrow.block Xb (by simp; omega) (fun e => (hnp Xb e.symm).1 rfl)).trans (Below.heap_alloc _ _ _ (by omega)); have d1 : w7.cell? ⟨Xb, 1, none⟩ = some (.slice a6 J c6) := (World.cell?_of_block hX7).trans c1; have df : w7.frozen? ⟨Xb, 1, none⟩ = false := (World.frozen?_of_block hX7).trans cf)
          all_goals
            go_wp2
            go_roundw
            case rel =>
              have hw : ∀ g, (Value.slice (some ⟨g7, 0, none⟩) (J + 1) c7).ownBlock = some g → (Value.slice a6 J c6).ownBlock = some g ∨ w6.heap.size ≤ g := fun g hg => by
                rcases hwh0 g hg with q | q
                · exact .inl q
                · exact .inr (by simp at q; omega)
              obtain ⟨sys8, _⟩ := HS6.out.put (pv' := .slice (some ⟨g7, 0, none⟩) (J + 1) c7) hgrow hw (fun b hb => (HM6.out.lt b hb).2) ⟨_, rfl⟩
              have rowM8 := OwnP.setCell_other ((HM6.out.alloc _).kept hgrow HS6.out.ne) (a := ⟨Xb, 1, none⟩) (fun e => (HS6.out.nm _ e).1 rfl) (.slice (some ⟨g7, 0, none⟩) (J + 1) c7)
              have rowT8 := ownsRow_setCell_other hown' (a := ⟨Xb, 1, none⟩) (fun e => (sys8.np _ e).1 rfl) (.slice (some ⟨g7, 0, none⟩) (J + 1) c7)
              have bel8 : Below base W (w7.setCell ⟨Xb, 1, none⟩ (.slice (some ⟨g7, 0, none⟩) (J + 1) c7)) := ((HB6.out.1.alloc (by omega) _).trans (grown_below hgrow (by simp; omega) (fun k hk => Nat.le_trans hB (HR6.out.lt k hk).1))).setCell (p := ⟨Xb, 1, none⟩) hXB _
              have gr8 : Gr W (w7.setCell ⟨Xb, 1, none⟩ (.slice (some ⟨g7, 0, none⟩) (J + 1) c7)) (.slice va (prs es).length vc) v6 := gr_set (gr_row (gr_below HB6.out.2 ((Below.refl _ w6).alloc (Nat.le_refl _) _)) hgrow (fun k hk => (HR6.out.lt k hk).1)) (p := ⟨Xb, 1, none⟩) hXW _
              rw [hv6] at rowM8 sys8 gr8
              refine ⟨j + 1, J + 1, B + x.sz, _, (show J + 1 = ps.length + (j + 1) by have := HJ.out; omega), (show B + x.sz = A + szs (Y.take (j + 1)) by have := HBB.out; have := HZK.out; omega), by omega, congrArg (Value.int IntKind.i64) (by omega), congrArg (Value.int IntKind.i64) (by omega), ?_, ?_, sys8, bel8, gr8⟩
              · rw [HE6.out]; exact rowM8
              · rw [HT6.out, ← List.append_assoc, cellsT_snoc]; exact rowT8
            case measure => simp [intOf]; omega
      · have hge : (N : Int) ≤ (J : Int) := by have := HJ.out; have := HXL.out; omega
        have hgeN : ¬ J < N := by omega
        have hjn : j = Y.length := by omega
        subst hjn
        rw [List.take_length] at hrm hrt
        obtain ⟨vma, vmc, rfl⟩ := hrm.slice
        obtain ⟨pa9, pc9, rfl⟩ := row_slice hrt
        have c0 : wr.cell? ⟨Xb, 0, none⟩ = some (.string I) := by simp [World.cell?, hsy.hx]
        have c1 : wr.cell? ⟨Xb, 1, none⟩ = some (.slice pa9 J pc9) := by simp [World.cell?, hsy.hx]
        have r0 : wr.cell? ⟨W.heap.size + 1, 0, none⟩ = some (.string ⟨#[]⟩) := by simp [World.cell?, hsy.hr]
        have r1 : wr.cell? ⟨W.heap.size + 1, 1, none⟩ = some (.slice none 0 0) := by simp [World.cell?, hsy.hr]
        have rf : ∀ j, wr.frozen? ⟨W.heap.size + 1, j, none⟩ = false := fun j => by simp [World.frozen?, hsy.hr]
        have lx := hsy.ltx
        have lr := hsy.ltr
        have nxr : ¬ Xb = W.heap.size + 1 := hsy.nx.1
        have nrx : ¬ W.heap.size + 1 = Xb := fun e => nxr e.symm
        have HSY := (show Hid (Sys wr Xb (W.heap.size + 1) I (.slice a1 N c1P) (Z ++ Y) (.slice vma (prt o es Y L).1.length vmc) (.slice pa9 J pc9)) from hsy)
        have HRM := (show Hid (OwnP wr base (.slice vma (prt o es Y L).1.length vmc) (prt o es Y L).1) from hrm)
        have HRT := (show Hid (wr.ownsRow W.heap.size 79 2 (.slice pa9 J pc9) J (cellsT (ps ++ (prt o es Y L).2))) from hrt)
        have HBW := (show Hid (Below base W wr ∧ Gr W wr (.slice va (prs es).length vc) (.slice vma (prt o es Y L).1.length vmc)) from hbw)
        have hJl : J = (ps ++ (prt o es Y L).2).length := by rw [List.length_append, prt_len]; exact HJ.out
        have HJL := (show Hid (J = (ps ++ (prt o es Y L).2).length) from hJl)
        clear hsy hrm hrt hbw hJl
        go_wp2_with fail
        go_region
        all_goals
          go_wp2
          refine bodyPost_ret (v := .tuple #[.slice vma (prt o es Y L).1.length vmc, .agg #[.string I, .slice pa9 J pc9], .bool true]) ?_ rfl ?_
          · simp [results, Tryz.results31, go_sem, r0, r1]
          · refine ⟨_, _, rfl, ⟨?_, ?_, HSY.out.ne, HSY.out.nn⟩, ?_, ?_, fun k hk => (HRT.out.lt k hk).1⟩
            · exact (OwnP.setCell_other (OwnP.setCell_other HRM.out (a := ⟨W.heap.size + 1, 0, none⟩) (fun e => (HSY.out.nm _ e).2.1 rfl) _) (a := ⟨W.heap.size + 1, 1, none⟩) (fun e => (HSY.out.nm _ e).2.1 rfl) _).drew
            · rw [← HJL.out]
              exact (ownsRow_setCell_other (ownsRow_setCell_other (ownsRow_base HRT.out hB) (a := ⟨W.heap.size + 1, 0, none⟩) (fun e => (HSY.out.np _ e).2.1 rfl) _) (a := ⟨W.heap.size + 1, 1, none⟩) (fun e => (HSY.out.np _ e).2.1 rfl) _).drew
            · exact ((HBW.out.1.setCell (p := ⟨W.heap.size + 1, 0, none⟩) (by simp; omega) _).setCell (p := ⟨W.heap.size + 1, 1, none⟩) (by simp; omega) _).drew
            · exact gr_drew (gr_set (gr_set HBW.out.2 (p := ⟨W.heap.size + 1, 0, none⟩) (by simp) _) (p := ⟨W.heap.size + 1, 1, none⟩) (by simp) _)
end Go.Proofs.YtdggchcapjidjabGreatDoor.StP

/- Walks: bytes that come to a stream, by the model, in all ways. -/
namespace Go.Proofs.YtdggchcapjidjabGreatDoor.StP
open Go.RowKit Go.Shelf Go.Proofs.YtdggchcapjidjabGreatDoor.Kit Go.Proofs.YtdggchcapjidjabGreatDoor.Tx Go.Proofs.YtdggchcapjidjabGreatDoor.Mp Go.Proofs.YtdggchcapjidjabGreatDoor.Mm Go.Proofs.YtdggchcapjidjabGreatDoor.Ms Go.Proofs.YtdggchcapjidjabGreatDoor.Nm Go.Proofs.YtdggchcapjidjabGreatDoor.App Go.Proofs.YtdggchcapjidjabGreatDoor.St Go.Proofs.YtdggchcapjidjabGreatDoor.SpA
set_option linter.unusedSimpArgs false
set_option linter.unusedVariables false

/-- what StreamPut answers is ok -/
theorem putF_ok (o : Bool) {es : List (Int × Int)} {S : ByteArray} {ps : List (Int × ByteArray)} (q : Nat) (T : ByteArray) (hg : GoodE es) (hst : stB S ps = true) (hT : okB T.data.toList = true) :
    GoodE (putF o es S ps (q : Nat) T).1 ∧ stB (putF o es S ps (q : Nat) T).2.1 (putF o es S ps (q : Nat) T).2.2.1 = true ∧ es <+: (putF o es S ps (q : Nat) T).1 := by
  obtain ⟨hSok, _, _⟩ := stB_parts.1 hst
  unfold putF
  split
  · exact ⟨hg, hst, List.prefix_refl _⟩
  · split
    · exact ⟨hg, hst, List.prefix_refl _⟩
    · rename_i h1 h2
      have hb : okB (S.data.toList ++ T.data.toList.drop (S.size - ((q : Nat) : Int).toNat)) = true := by
        refine ok_app _ _ hSok (ok_drop _ _ hT) ?_
        rw [List.length_drop, lenL, lenL]
        have e : ((q : Nat) : Int).toNat = q := by simp
        rw [e]; omega
      exact ⟨prt_good o es _ _ hg, stB_more o hg hst _ hb, prt_pre o es _ _⟩

theorem lput_any (W : World) (base : Nat) (hB : base ≤ W.heap.size) (o : Bool) (v : Value) (es : List (Int × Int)) (hg : GoodE es) (S : ByteArray) (pv : Value) (ps : List (Int × ByteArray)) (h2 : Rows2 W base v es pv ps) (hst : stB S ps = true) (q : Nat) (T : ByteArray) (hTok : okB T.data.toList = true) (hq : q ≤ 1000) :
    Calls Tryz.prog 31 #[v, .agg #[.string S, pv], .int .i64 (q : Nat), .string T, .bool o] W fun r W' => ∃ v' pv', r = .returned (.tuple #[v', .agg #[.string (putF o es S ps (q : Nat) T).2.1, pv'], .bool (putF o es S ps (q : Nat) T).2.2.2]) ∧
      Rows2 W' base v' (putF o es S ps (q : Nat) T).1 pv' (putF o es S ps (q : Nat) T).2.2.1 ∧ Below base W W' ∧ Gr W W' v v' ∧ (∀ k, pv'.ownBlock = some k → pv.ownBlock = some k ∨ W.heap.size ≤ k) := by
  obtain ⟨hSok, _, _⟩ := stB_parts.1 hst
  have hS40 := (ok_parts _ hSok).1
  have hT40 := (ok_parts _ hTok).1
  rw [lenL] at hS40 hT40
  by_cases hno : S.size < q ∨ 40 < q + T.size
  · have e : putF o es S ps (q : Nat) T = (es, S, ps, false) := if_pos (by omega)
    rw [e]
    refine (lput_no W base o v es S pv ps h2 q T hq (by omega) (by omega) hno).mono ?_
    rintro r W' ⟨rfl, k⟩
    exact ⟨v, pv, rfl, h2.below k, k.mono hB, Gr.of k v, fun k hk => .inl hk⟩
  · by_cases hle : q + T.size ≤ S.size
    · have e : putF o es S ps (q : Nat) T = (es, S, ps, true) := by
        unfold putF
        rw [if_neg (by omega), if_pos (by omega)]
      rw [e]
      refine (lput_had W base o v es S pv ps h2 q T hq (by omega) (by omega) (by omega) (by omega) hle).mono ?_
      rintro r W' ⟨rfl, k⟩
      exact ⟨v, pv, rfl, h2.below k, k.mono hB, Gr.of k v, fun k hk => .inl hk⟩
    · have e0 : ((q : Nat) : Int).toNat = q := by simp
      have e : putF o es S ps (q : Nat) T = ((prt o es (pieL (hp S.data.toList ++ T.data.toList.drop (S.size - q))) (hp S.data.toList ++ T.data.toList.drop (S.size - q))).1, mkB (S.data.toList ++ T.data.toList.drop (S.size - q)), ps ++ (prt o es (pieL (hp S.data.toList ++ T.data.toList.drop (S.size - q))) (hp S.data.toList ++ T.data.toList.drop (S.size - q))).2, true) := by
        unfold putF
        rw [if_neg (by omega), if_neg (by omega), e0]
      rw [e]
      refine (lput_new W base hB o v es hg S pv ps h2 hst q T hTok (by omega) (by omega) (by omega) _ rfl).mono ?_
      rintro r W' ⟨v', pv', rfl, k1, k2, k3, k4⟩
      exact ⟨v', pv', rfl, k1, k2, k3, fun k hk => .inr (k4 k hk)⟩
end Go.Proofs.YtdggchcapjidjabGreatDoor.StP

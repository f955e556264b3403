/- Packets: plain facts on texts that are read: which words they have, and whose they are. -/
import Derived.Test.YtnjggammbebpkaaGreatDoorPkR
namespace Go.Proofs.YtnjggammbebpkaaGreatDoor.PkR
open Go.RowKit Go.Shelf Go.Proofs.YtnjggammbebpkaaGreatDoor.Kit Go.Proofs.YtnjggammbebpkaaGreatDoor.Pk
open Go.Proofs.YtnjggammbebpkaaGreatDoor.EndW (sideZ)
open Go.Proofs.YtnjggammbebpkaaGreatDoor.Text (txt txtL txt_list fig txtL_inj)
open Go.Proofs.YtnjggammbebpkaaGreatDoor.Itoa (decS decS_size)
open Go.Proofs.YtnjggammbebpkaaGreatDoor.Spl (wsOf cut_hit cut_miss ext_list mk_list)

/-- what PktRead answers -/
def PTold (s : ByteArray) (k a b c d n : Int) (t : ByteArray) (B : Bool) : Prop :=
  (B = true ∧ pktB k a b c d n t = true ∧ s.data.toList = pktL k a b c d n t) ∨
  (B = false ∧ (k = 0 ∧ a = 0 ∧ b = 0 ∧ c = 0 ∧ d = 0 ∧ n = 0 ∧ t = ⟨#[]⟩) ∧ ∀ k a b c d n t, pktB k a b c d n t = true → s.data.toList ≠ pktL k a b c d n t)

theorem ptold_one {s : ByteArray} {k a b c d n k2 a2 b2 c2 d2 n2 : Int} {t t2 : ByteArray} {B B2 : Bool} (h : PTold s k a b c d n t B) (g : PTold s k2 a2 b2 c2 d2 n2 t2 B2) :
    k = k2 ∧ a = a2 ∧ b = b2 ∧ c = c2 ∧ d = d2 ∧ n = n2 ∧ t = t2 ∧ B = B2 := by
  rcases h with ⟨rfl, h1, h2⟩ | ⟨rfl, ⟨rfl, rfl, rfl, rfl, rfl, rfl, rfl⟩, h⟩ <;> rcases g with ⟨rfl, g1, g2⟩ | ⟨rfl, ⟨rfl, rfl, rfl, rfl, rfl, rfl, rfl⟩, g⟩
  · obtain ⟨e1, e2, e3, e4, e5, e6, e7⟩ := pkt_inj h1 g1 (h2.symm.trans g2)
    exact ⟨e1, e2, e3, e4, e5, e6, e7, rfl⟩
  · exact absurd h2 (g _ _ _ _ _ _ _ h1)
  · exact absurd g2 (h _ _ _ _ _ _ _ g1)
  · exact ⟨rfl, rfl, rfl, rfl, rfl, rfl, rfl, rfl⟩

theorem sz_list (s : ByteArray) : s.size = s.data.toList.length := rfl
theorem word_len (k : Int) (h : k = 1 ∨ k = 2) : 3 ≤ (wordS k).data.toList.length := by
  rcases h with rfl | rfl <;> decide

theorem ws_pkt (s : ByteArray) (k a b c d n : Int) (t : ByteArray) (h : pktB k a b c d n t = true) (e : s.data.toList = pktL k a b c d n t) : wsOf s = pktWs k a b c d n t := by
  obtain ⟨h1, h2, h3, h4, h5⟩ := pkt_parts h
  have hk : k = 1 ∨ k = 2 := h5.elim (fun q => .inl q.1) (fun q => .inr q.1)
  have hw := word_len k hk
  have hsz : 5 ≤ s.size + 1 := by
    rw [sz_list, e]; unfold pktL
    simp only [List.length_append, List.length_cons]; omega
  unfold wsOf
  rw [show min 5 (s.size + 1) - 1 = 3 + 1 by omega]
  unfold pktL at e
  unfold pktWs
  obtain ⟨R3, hR3⟩ : ∃ R3 : List UInt8, R3 = (decS n).data.toList ++ (if k = 1 then 32 :: t.data.toList else []) := ⟨_, rfl⟩
  rw [← hR3] at e
  have e1 := cut_hit 3 s (wordS k) ⟨((txt a b).data.toList ++ 32 :: ((txt c d).data.toList ++ 32 :: R3)).toArray⟩ (nb_word k) (by rw [mk_list]; exact e)
  have e2 := cut_hit 2 ⟨((txt a b).data.toList ++ 32 :: ((txt c d).data.toList ++ 32 :: R3)).toArray⟩ (txt a b) ⟨((txt c d).data.toList ++ 32 :: R3).toArray⟩ (nb_txt a b h1) (by rw [mk_list, mk_list])
  have e3 := cut_hit 1 ⟨((txt c d).data.toList ++ 32 :: R3).toArray⟩ (txt c d) ⟨R3.toArray⟩ (nb_txt c d h2) (by rw [mk_list, mk_list])
  rw [e1, e2, e3]
  rcases h5 with ⟨rfl, he, ho⟩ | ⟨rfl, rfl⟩
  · rw [cut_hit 0 ⟨R3.toArray⟩ (decS n) t (nb_dec n h3 h4) (by rw [mk_list, hR3, if_pos rfl]), Lib.splitB_zero, if_pos rfl]
    rfl
  · have h0 : R3 = (decS n).data.toList := by rw [hR3, if_neg (by decide), List.append_nil]
    rw [cut_miss 1 ⟨R3.toArray⟩ (by rw [mk_list, h0]; exact nb_dec n h3 h4), if_neg (by decide)]
    have : (⟨R3.toArray⟩ : ByteArray) = decS n := ext_list (by rw [mk_list, h0])
    rw [this]; rfl

theorem split_small (k : Nat) : ∀ s : ByteArray, ∀ x ∈ Lib.splitB ⟨#[32]⟩ 0 k s, x.size ≤ s.size := by
  induction k with
  | zero => intro s x hx; rw [Lib.splitB_zero] at hx; simp at hx; rw [hx]; exact Nat.le_refl _
  | succ k ih =>
    intro s x hx
    rcases Lib.indexB_cases s ⟨#[32]⟩ with hi | ⟨i, hi, hr⟩
    · rw [Lib.splitB_miss _ _ _ _ hi] at hx; simp at hx; rw [hx]; exact Nat.le_refl _
    · rw [Lib.splitB_hit _ _ _ _ _ hi] at hx
      rcases List.mem_cons.1 hx with rfl | hx
      · rw [ByteArray.size_extract]; omega
      · have := ih _ x hx
        rw [ByteArray.size_extract] at this; omega
theorem ws_small (s : ByteArray) : ∀ x ∈ wsOf s, x.size ≤ s.size := split_small _ s
theorem ws_len (s : ByteArray) : (wsOf s).length ≤ 5 := by
  have := Lib.splitB_length_le ⟨#[32]⟩ 0 (min 5 (s.size + 1) - 1) s
  unfold wsOf; omega
theorem ws_cap (s : ByteArray) : (wsOf s).length ≤ min 5 (s.size + 1) := by
  have := Lib.splitB_length_le ⟨#[32]⟩ 0 (min 5 (s.size + 1) - 1) s
  unfold wsOf; omega
theorem ws_nil : wsOf ⟨#[]⟩ = [⟨#[]⟩] := rfl
theorem ws_cell (W : World) (s : ByteArray) (ty : TypeId) (j : Nat) (x : ByteArray) (h : (wsOf s)[j]? = some x) :
    (W.alloc (.cells (Lib.cellsOf (wsOf s) (min 5 (s.size + 1))) ty)).cell? ⟨W.heap.size, j, none⟩ = some (.string x) := by
  have h1 := heap_alloc_new W (.cells (Lib.cellsOf (wsOf s) (min 5 (s.size + 1))) ty)
  have hj : j < (wsOf s).length := by
    rcases Nat.lt_or_ge j (wsOf s).length with q | q
    · exact q
    · rw [List.getElem?_eq_none q] at h; cases h
  unfold World.cell?
  rw [h1]
  unfold Lib.cellsOf
  have hx : (wsOf s)[j] = x := by rw [List.getElem?_eq_getElem hj] at h; exact Option.some.inj h
  simp [List.getElem?_append, hj, hx]

theorem kind_word (k : Int) (h : k = 1 ∨ k = 2) : kindZ (wordS k) = k := by
  rcases h with rfl | rfl <;> decide
theorem dec_all : ∀ n : Fin 100, Lib.atoiAll (decS (n.val : Int)).data.toList = .ok (n.val : Int) := by decide +kernel
theorem dec_atoi (n : Int) (h0 : 0 ≤ n) (h1 : n ≤ 99) : Lib.atoiAll (decS n).data.toList = .ok n := by
  obtain ⟨m, rfl⟩ := Int.eq_ofNat_of_zero_le h0
  exact dec_all ⟨m, by omega⟩
theorem txt_is {a b : Int} (h : (sideZ a b != 0) = true) : (txt a b).toList = txtL a b := txt_list a b (by simpa using h)

/-- fewer words than four are no packet's -/
theorem few_none (s : ByteArray) (h : (wsOf s).length < 4) : ∀ k a b c d n t, pktB k a b c d n t = true → s.data.toList ≠ pktL k a b c d n t := by
  intro k a b c d n t hB e
  rw [ws_pkt s k a b c d n t hB e] at h
  unfold pktWs at h
  simp at h
  omega
theorem bad_none (s w0 w1 w2 w3 : ByteArray) (r : List ByteArray) (hw : wsOf s = w0 :: w1 :: w2 :: w3 :: r) (h : Bad w1 w2 w3) : ∀ k a b c d n t, pktB k a b c d n t = true → s.data.toList ≠ pktL k a b c d n t := by
  intro k a b c d n t hB e
  have := (ws_pkt s k a b c d n t hB e).symm.trans hw
  obtain ⟨h1, h2, h3, h4, _⟩ := pkt_parts hB
  unfold pktWs at this
  simp only [List.cons_append, List.cons.injEq] at this
  obtain ⟨_, rfl, rfl, rfl, _⟩ := this
  rcases h with h | h | h
  · exact h a b (by simpa using h1) (txt_is h1)
  · exact h c d (by simpa using h2) (txt_is h2)
  · exact h n (dec_atoi n h3 h4)
theorem told_true {s : ByteArray} {x y : Int} (h : Read.Told s x y true) : sideZ x y ≠ 0 ∧ s.toList = txtL x y := by
  rcases h with ⟨_, h1, h2⟩ | ⟨h, _⟩
  · exact ⟨h1, h2⟩
  · cases h
theorem good_one (s w0 w1 w2 w3 : ByteArray) (r : List ByteArray) (hw : wsOf s = w0 :: w1 :: w2 :: w3 :: r) {k a b c d n : Int} {t : ByteArray} (hg : Good w0 w1 w2 w3 r k a b c d n t)
    {k2 a2 b2 c2 d2 n2 : Int} {t2 : ByteArray} (hB : pktB k2 a2 b2 c2 d2 n2 t2 = true) (e : s.data.toList = pktL k2 a2 b2 c2 d2 n2 t2) :
    k = k2 ∧ a = a2 ∧ b = b2 ∧ c = c2 ∧ d = d2 ∧ n = n2 ∧ t = t2 := by
  have := (ws_pkt s k2 a2 b2 c2 d2 n2 t2 hB e).symm.trans hw
  obtain ⟨h1, h2, h3, h4, h5⟩ := pkt_parts hB
  have hk : k2 = 1 ∨ k2 = 2 := h5.elim (fun q => .inl q.1) (fun q => .inr q.1)
  unfold pktWs at this
  simp only [List.cons_append, List.nil_append, List.cons.injEq] at this
  obtain ⟨rfl, rfl, rfl, rfl, rfl⟩ := this
  obtain ⟨T1, T2, hn, rfl, rfl⟩ := hg
  obtain ⟨u1, v1⟩ := told_true T1
  obtain ⟨u2, v2⟩ := told_true T2
  obtain ⟨rfl, rfl⟩ := txtL_inj _ _ _ _ u1 (by simpa using h1) (v1.symm.trans (txt_is h1))
  obtain ⟨rfl, rfl⟩ := txtL_inj _ _ _ _ u2 (by simpa using h2) (v2.symm.trans (txt_is h2))
  rw [dec_atoi n2 h3 h4] at hn
  have hn' : n2 = n := by injection hn
  refine ⟨kind_word k2 hk, rfl, rfl, rfl, rfl, hn'.symm, ?_⟩
  rcases h5 with ⟨rfl, _, _⟩ | ⟨rfl, rfl⟩
  · rw [if_pos rfl]; rfl
  · rw [if_neg (by decide)]; rfl
/-- words that say a packet whose text this is -/
theorem good_yes (s w0 w1 w2 w3 : ByteArray) (r : List ByteArray) (hw : wsOf s = w0 :: w1 :: w2 :: w3 :: r) {k a b c d n : Int} {t : ByteArray} (e : pktS k a b c d n t = s) : pktB k a b c d n t = true ∧ s.data.toList = pktL k a b c d n t := by
  cases hB : pktB k a b c d n t
  · have : s = ⟨#[]⟩ := by rw [← e]; unfold pktS; rw [hB]; rfl
    rw [this, ws_nil] at hw
    simp at hw
  · refine ⟨rfl, ?_⟩
    rw [← e]; unfold pktS; rw [if_pos hB]
theorem good_no (s w0 w1 w2 w3 : ByteArray) (r : List ByteArray) (hw : wsOf s = w0 :: w1 :: w2 :: w3 :: r) {k a b c d n : Int} {t : ByteArray} (hg : Good w0 w1 w2 w3 r k a b c d n t) (ne : pktS k a b c d n t ≠ s) :
    ∀ k a b c d n t, pktB k a b c d n t = true → s.data.toList ≠ pktL k a b c d n t := by
  intro k2 a2 b2 c2 d2 n2 t2 hB e
  obtain ⟨rfl, rfl, rfl, rfl, rfl, rfl, rfl⟩ := good_one s w0 w1 w2 w3 r hw hg hB e
  apply ne
  apply ext_list
  unfold pktS
  rw [if_pos hB, mk_list]
  exact e.symm
theorem great_none (s : ByteArray) (h : 70 < s.size) : ∀ k a b c d n t, pktB k a b c d n t = true → s.data.toList ≠ pktL k a b c d n t := by
  intro k a b c d n t hB e
  have h1 := pktS_size k a b c d n t
  have h2 : (pktS k a b c d n t).size = s.size := by
    rw [sz_list s, e]; unfold pktS; rw [if_pos hB]; rfl
  omega
end Go.Proofs.YtnjggammbebpkaaGreatDoor.PkR

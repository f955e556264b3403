/- Plain facts on what StreamPut answers, as the laws on it ask. -/
import Derived.Test.YtdggchcapjidjaaGreatDoorPuPr
import Derived.Test.YtdggchcapjidjaaGreatDoorSpSs
namespace Go.Proofs.YtdggchcapjidjaaGreatDoor.St
open Go.RowKit Go.Proofs.YtdggchcapjidjaaGreatDoor.Tx Go.Proofs.YtdggchcapjidjaaGreatDoor.Mp Go.Proofs.YtdggchcapjidjaaGreatDoor.StP Go.Proofs.YtdggchcapjidjaaGreatDoor.Nm
set_option linter.unusedSimpArgs false
set_option linter.unusedVariables false

theorem prt_in (es : List (Int × Int)) (a : List Pc) (l : List UInt8) : (prt false es a l).1 = es := by
  induction a generalizing l with
  | nil => rfl
  | cons p a ih => rw [prt]; exact ih _
theorem putF_in (es : List (Int × Int)) (S : ByteArray) (ps : List (Int × ByteArray)) (q : Int) (T : ByteArray) : (putF false es S ps q T).1 = es := by
  unfold putF
  split
  · rfl
  · split
    · rfl
    · exact prt_in _ _ _
theorem fold_txp (ps : List (Int × ByteArray)) : ∀ x : ByteArray, ps.foldl (fun a p => a ++ p.2) x = x ++ txW ps := by
  induction ps with
  | nil => intro x; simp [txW]
  | cons p ps ih =>
    intro x
    show ps.foldl _ (x ++ p.2) = x ++ ps.foldl _ (ByteArray.empty ++ p.2)
    rw [ih, ih, ByteArray.append_assoc]; simp [ByteArray.append_assoc]
theorem txW_cons (p : Int × ByteArray) (ps : List (Int × ByteArray)) : txW (p :: ps) = p.2 ++ txW ps := by
  show ps.foldl _ (ByteArray.empty ++ p.2) = _
  rw [fold_txp]; simp
theorem txW_two (a b : List (Int × ByteArray)) : txW (a ++ b) = txW a ++ txW b := by
  show (a ++ b).foldl _ _ = _
  rw [List.foldl_append, fold_txp]; rfl
theorem prt_outP (es : List (Int × Int)) (a : List Pc) (l : List UInt8) : (prt true es a l).1 = (outP es a l).1 ∧ (txW (prt true es a l).2).data.toList = (outP es a l).2 := by
  induction a generalizing es l with
  | nil => exact ⟨rfl, rfl⟩
  | cons p a ih =>
    obtain ⟨h1, h2⟩ := ih (goO es p (l.take p.sz)).1 (l.drop p.sz)
    rw [prt, outP]
    refine ⟨h1, ?_⟩
    rw [txW_cons, ByteArray.data_append, Array.toList_append, mkB_list]
    show (goO es p (l.take p.sz)).2 ++ _ = _
    rw [← h2]; rfl
theorem prt_inP (es : List (Int × Int)) (a : List Pc) (l : List UInt8) : (txW (prt false es a l).2).data.toList = inP es a l := by
  induction a generalizing l with
  | nil => rfl
  | cons p a ih =>
    have h2 := ih (l.drop p.sz)
    rw [prt, inP, txW_cons, ByteArray.data_append, Array.toList_append, mkB_list]
    show goI es p (l.take p.sz) ++ _ = _
    rw [← h2]; rfl
theorem stB_none : stB ⟨#[]⟩ [] = true := by
  refine stB_parts.2 ⟨by rfl, ?_, fun i x p _ hp => by simp at hp⟩
  have h : pieL ((⟨#[]⟩ : ByteArray).data.toList) = [] := pie_hp [] (by rfl)
  rw [h]; rfl
theorem putF_zero (o : Bool) (es : List (Int × Int)) (T : ByteArray) (hT : okB T.data.toList = true) :
    putF o es ⟨#[]⟩ [] ((0 : Nat) : Int) T = ((prt o es (pieL T.data.toList) T.data.toList).1, T, (prt o es (pieL T.data.toList) T.data.toList).2, true) := by
  have h40 := (ok_parts _ hT).1
  rw [lenL] at h40
  rw [putF_all o es ⟨#[]⟩ [] 0 T 0 stB_none (Nat.zero_le _) (by omega) (by have : (⟨#[]⟩ : ByteArray).size = 0 := rfl; omega)]
  have e : hp ((⟨#[]⟩ : ByteArray).data.toList) ++ T.data.toList.drop 0 = T.data.toList := rfl
  rw [e]
  have e2 : mkB ((⟨#[]⟩ : ByteArray).data.toList ++ T.data.toList.drop 0) = T := mkB_self T
  rw [e2, List.nil_append]
theorem putF_had (o : Bool) (es : List (Int × Int)) (S : ByteArray) (ps : List (Int × ByteArray)) (q : Nat) (T : ByteArray) (h : q + T.size ≤ S.size) (h40 : S.size ≤ 40) : putF o es S ps (q : Nat) T = (es, S, ps, true) := by
  unfold putF
  rw [if_neg (by omega), if_pos (by omega)]
theorem putF_size {o : Bool} {es es1 : List (Int × Int)} {S S1 : ByteArray} {ps ps1 : List (Int × ByteArray)} {q : Nat} {T : ByteArray} (h : putF o es S ps (q : Nat) T = (es1, S1, ps1, true)) : q ≤ S.size ∧ q + T.size ≤ 40 ∧ q + T.size ≤ S1.size ∧ S1.size = max S.size (q + T.size) := by
  unfold putF at h
  split at h
  · simp at h
  · split at h
    · simp only [Prod.mk.injEq] at h
      obtain ⟨_, rfl, _⟩ := h
      omega
    · simp only [Prod.mk.injEq] at h
      obtain ⟨_, h2, _⟩ := h
      have e0 : ((q : Nat) : Int).toNat = q := by simp
      have : S1.size = S.size + (T.size - (S.size - q)) := by rw [← h2, mkB_size, List.length_append, List.length_drop, lenL, lenL, e0]
      omega
theorem putF_no {o : Bool} {es es1 : List (Int × Int)} {S S1 : ByteArray} {ps ps1 : List (Int × ByteArray)} {q : Nat} {T : ByteArray} (h : putF o es S ps (q : Nat) T = (es1, S1, ps1, false)) : (S.size < q ∨ 40 < q + T.size) ∧ es1 = es ∧ S1 = S ∧ ps1 = ps := by
  unfold putF at h
  split at h
  · simp only [Prod.mk.injEq] at h
    exact ⟨by omega, h.1.symm, h.2.1.symm, h.2.2.1.symm⟩
  · split at h <;> simp at h
theorem prt_text (o : Bool) (es : List (Int × Int)) (a : List Pc) (l m : List UInt8) (h : szs a ≤ l.length) : prt o es a (l ++ m) = prt o es a l := by
  induction a generalizing es l with
  | nil => rfl
  | cons p a ih =>
    rw [szs_cons] at h
    rw [prt, prt, List.take_append_of_le_length (by omega), List.drop_append_of_le_length (by omega), ih _ _ (by rw [List.length_drop]; omega)]
theorem hp_hp (a b : List UInt8) : hp (a ++ b) = hp (hp a ++ b) := by
  have e : a ++ b = bd a ++ (hp a ++ b) := by rw [← List.append_assoc, bd_hp]
  have hh := held_hp a b
  have hl := heldN_len (hp a ++ b)
  show (a ++ b).drop _ = (hp a ++ b).drop _
  rw [hh, e, List.length_append, List.drop_append, List.drop_of_length_le (by omega), List.nil_append]
  congr 1
  omega
theorem ext0k (T : ByteArray) (k : Nat) : (T.extract 0 k).data.toList = T.data.toList.take k := by rw [ext_to]; rfl
/-- bytes in two parts are as at once -/
theorem putF_parts {o : Bool} {es es1 : List (Int × Int)} {S S1 : ByteArray} {ps ps1 : List (Int × ByteArray)} {q : Nat} {T : ByteArray} (hg : GoodE es) (hst : stB S ps = true) (hT : okB T.data.toList = true) (h : putF o es S ps (q : Nat) T = (es1, S1, ps1, true)) (k : Nat) (hk : k ≤ T.size) :
    ∃ es2 S2 ps2, putF o es S ps (q : Nat) (T.extract 0 k) = (es2, S2, ps2, true) ∧ putF o es2 S2 ps2 ((q + k : Nat) : Int) (T.extract k T.size) = (es1, S1, ps1, true) := by
  obtain ⟨h1, h2, h3, h4⟩ := putF_size h
  have s1 : (T.extract 0 k).size = k := by rw [ByteArray.size_extract]; omega
  have s2 : (T.extract k T.size).size = T.size - k := by rw [ByteArray.size_extract]; omega
  have ok1 : okB (T.extract 0 k).data.toList = true := by rw [ext0k]; exact ok_take _ _ hT
  have e1 := putF_all o es S ps q (T.extract 0 k) (min (S.size - q) k) hst h1 (by omega) (by rw [s1])
  have g1 := putF_ok o q (T.extract 0 k) hg hst ok1
  have z1 := putF_size (es1 := _) (S1 := _) (ps1 := _) e1
  rw [e1] at g1
  refine ⟨_, _, _, e1, ?_⟩
  obtain ⟨_, g2, _⟩ := g1
  simp only at g2 z1 ⊢
  have e2 := putF_all o (prt o es (pieL (hp S.data.toList ++ (T.extract 0 k).data.toList.drop (min (S.size - q) k))) (hp S.data.toList ++ (T.extract 0 k).data.toList.drop (min (S.size - q) k))).1 _ _ (q + k) (T.extract k T.size) (min (max S.size (q + k) - (q + k)) (T.size - k)) g2 (by omega) (by omega) (by rw [s2, z1.2.2.2, s1])
  rw [e2, ← h, putF_all o es S ps q T (min (S.size - q) T.size) hst h1 h2 rfl]
  have hj : (T.extract 0 k).data.toList.drop (min (S.size - q) k) ++ (T.extract k T.size).data.toList.drop (min (max S.size (q + k) - (q + k)) (T.size - k)) = T.data.toList.drop (min (S.size - q) T.size) := by
    rw [ext0k, ext_from]
    by_cases hc : k ≤ S.size - q
    · rw [List.drop_of_length_le (by rw [List.length_take, lenL]; omega), List.nil_append, List.drop_drop]
      congr 1
      omega
    · rw [show min (max S.size (q + k) - (q + k)) (T.size - k) = 0 by omega, List.drop_zero, show min (S.size - q) k = S.size - q by omega, show min (S.size - q) T.size = S.size - q by omega]
      conv => rhs; rw [← List.take_append_drop k T.data.toList]
      rw [List.drop_append_of_le_length (by rw [List.length_take, lenL]; omega)]
  generalize (T.extract 0 k).data.toList.drop (min (S.size - q) k) = b1 at *
  generalize (T.extract k T.size).data.toList.drop (min (max S.size (q + k) - (q + k)) (T.size - k)) = b2 at *
  have hS1 : S1 = mkB (S.data.toList ++ (b1 ++ b2)) := by
    rw [hj]
    have := putF_all o es S ps q T (min (S.size - q) T.size) hst h1 h2 rfl
    rw [h] at this
    simp only [Prod.mk.injEq] at this
    exact this.2.1
  have hokS : okB (S.data.toList ++ (b1 ++ b2)) = true := by
    have g3 := (putF_ok o q T hg hst hT).2.1
    rw [h] at g3
    have := (stB_parts.1 g3).1
    simp only at this
    rw [hS1, mkB_list] at this
    exact this
  obtain ⟨_, _, _, hokQ⟩ := pie_split _ _ hokS
  rw [← List.append_assoc] at hokQ
  obtain ⟨q1, q2, q3, _⟩ := pie_split _ _ hokQ
  rw [← hj, mkB_list]
  have hh : hp (S.data.toList ++ b1) = hp (hp S.data.toList ++ b1) := hp_hp _ _
  have ht := prt_text o es (pieL (Tx.hp S.data.toList ++ b1)) (Tx.hp S.data.toList ++ b1) b2 (by rw [q2, bd_len]; exact Nat.sub_le _ _)
  rw [hh, ← List.append_assoc (Tx.hp S.data.toList), q1, prt_app, q3, ht]
  simp only [List.append_assoc]
end Go.Proofs.YtdggchcapjidjaaGreatDoor.St

/- Packets: plain facts on their texts: words without blanks, and that two packets have two texts. -/
import Derived.Test.YtnjggammbebpkaaGreatDoorPkU
namespace Go.Proofs.YtnjggammbebpkaaGreatDoor.Pk
open Go.RowKit Go.Shelf Go.Proofs.YtnjggammbebpkaaGreatDoor.Kit
open Go.Proofs.YtnjggammbebpkaaGreatDoor.EndW (sideZ)
open Go.Proofs.YtnjggammbebpkaaGreatDoor.Text (txt txtL txt_list fig fig_inj side_bd txtL_inj)
open Go.Proofs.YtnjggammbebpkaaGreatDoor.Itoa (decS decS_size)
open Go.Proofs.YtnjggammbebpkaaGreatDoor.Tx (okB byteB)

theorem cut_one {l1 l2 r1 r2 : List UInt8} (h1 : (32 : UInt8) ∉ l1) (h2 : (32 : UInt8) ∉ l2) (h : l1 ++ 32 :: r1 = l2 ++ 32 :: r2) : l1 = l2 ∧ r1 = r2 := by
  induction l1 generalizing l2 with
  | nil =>
    cases l2 with
    | nil => simp at h; exact ⟨rfl, h⟩
    | cons c l2 =>
      simp at h
      exact absurd (by simp [← h.1]) h2
  | cons c l1 ih =>
    cases l2 with
    | nil =>
      simp at h
      exact absurd (by simp [h.1]) h1
    | cons d l2 =>
      simp only [List.cons_append, List.cons.injEq] at h
      have := ih (fun q => h1 (List.mem_cons_of_mem _ q)) (fun q => h2 (List.mem_cons_of_mem _ q)) h.2
      exact ⟨by rw [h.1, this.1], this.2⟩

theorem fig_ne (n : Int) (h0 : 0 ≤ n) (h1 : n ≤ 9) : (32 : UInt8) ≠ fig n := by
  have : n = 0 ∨ n = 1 ∨ n = 2 ∨ n = 3 ∨ n = 4 ∨ n = 5 ∨ n = 6 ∨ n = 7 ∨ n = 8 ∨ n = 9 := by omega
  rcases this with rfl | rfl | rfl | rfl | rfl | rfl | rfl | rfl | rfl | rfl <;> decide
theorem nb_word (k : Int) : (32 : UInt8) ∉ (wordS k).data.toList := by
  unfold wordS; split
  · decide
  · split <;> decide
theorem nb_txt (a b : Int) (h : (sideZ a b != 0) = true) : (32 : UInt8) ∉ (txt a b).data.toList := by
  have h0 : sideZ a b ≠ 0 := by simpa using h
  have hb := side_bd a b h0
  rw [← ByteArray.toList_eq, txt_list a b h0]
  unfold txtL
  split
  · simp only [List.mem_cons, List.not_mem_nil, or_false, not_or]
    exact ⟨fig_ne _ (by omega) (by omega), by decide, fig_ne _ (by omega) (by omega)⟩
  · simp only [List.mem_cons, List.not_mem_nil, or_false, not_or]
    exact ⟨fig_ne _ (by omega) (by omega), by decide, fig_ne _ (by omega) (by omega), fig_ne _ (by omega) (by omega)⟩
theorem dec_list (n : Int) : (decS n).data.toList = if n < 10 then [fig n] else [fig (n / 10), fig (n % 10)] := by
  unfold decS
  split <;> rfl
theorem nb_dec (n : Int) (h0 : 0 ≤ n) (h1 : n ≤ 99) : (32 : UInt8) ∉ (decS n).data.toList := by
  rw [dec_list]
  split
  · simp only [List.mem_cons, List.not_mem_nil, or_false]
    exact fig_ne _ (by omega) (by omega)
  · simp only [List.mem_cons, List.not_mem_nil, or_false, not_or]
    exact ⟨fig_ne _ (by omega) (by omega), fig_ne _ (by omega) (by omega)⟩
theorem nb_ok (t : ByteArray) (h : okB t.data.toList = true) : (32 : UInt8) ∉ t.data.toList := by
  intro hm
  have := (Tx.ok_parts _ h).2 32 hm
  revert this; decide
theorem dec_inj (m n : Int) (h0 : 0 ≤ m) (h1 : m ≤ 99) (g0 : 0 ≤ n) (g1 : n ≤ 99) (h : (decS m).data.toList = (decS n).data.toList) : m = n := by
  rw [dec_list, dec_list] at h
  split at h <;> split at h
  · simp only [List.cons.injEq, and_true] at h
    exact fig_inj _ _ (by omega) (by omega) (by omega) (by omega) h
  · simp at h
  · simp at h
  · simp only [List.cons.injEq, and_true] at h
    have e1 := fig_inj _ _ (by omega) (by omega) (by omega) (by omega) h.1
    have e2 := fig_inj _ _ (by omega) (by omega) (by omega) (by omega) h.2
    omega
theorem txt_inj (a b c d : Int) (h : (sideZ a b != 0) = true) (g : (sideZ c d != 0) = true) (e : (txt a b).data.toList = (txt c d).data.toList) : a = c ∧ b = d := by
  have h0 : sideZ a b ≠ 0 := by simpa using h
  have g0 : sideZ c d ≠ 0 := by simpa using g
  rw [← ByteArray.toList_eq, ← ByteArray.toList_eq, txt_list a b h0, txt_list c d g0] at e
  exact txtL_inj a b c d h0 g0 e

/-- packets in form whose texts are one are one -/
theorem pkt_inj {k a b c d n k2 a2 b2 c2 d2 n2 : Int} {t t2 : ByteArray} (h : pktB k a b c d n t = true) (g : pktB k2 a2 b2 c2 d2 n2 t2 = true) (e : pktL k a b c d n t = pktL k2 a2 b2 c2 d2 n2 t2) :
    k = k2 ∧ a = a2 ∧ b = b2 ∧ c = c2 ∧ d = d2 ∧ n = n2 ∧ t = t2 := by
  obtain ⟨h1, h2, h3, h4, h5⟩ := pkt_parts h
  obtain ⟨g1, g2, g3, g4, g5⟩ := pkt_parts g
  unfold pktL at e
  obtain ⟨e1, q1⟩ := cut_one (nb_word k) (nb_word k2) e
  obtain ⟨e2, q2⟩ := cut_one (nb_txt a b h1) (nb_txt a2 b2 g1) q1
  obtain ⟨e3, q3⟩ := cut_one (nb_txt c d h2) (nb_txt c2 d2 g2) q2
  clear e q1 q2
  obtain ⟨rfl, rfl⟩ := txt_inj _ _ _ _ h1 g1 e2
  obtain ⟨rfl, rfl⟩ := txt_inj _ _ _ _ h2 g2 e3
  rcases h5 with ⟨rfl, he, ho⟩ | ⟨rfl, rfl⟩
  · rcases g5 with ⟨rfl, ge, go⟩ | ⟨rfl, rfl⟩
    · rw [if_pos rfl, if_pos rfl] at q3
      obtain ⟨e4, e5⟩ := cut_one (nb_dec n h3 h4) (nb_dec n2 g3 g4) q3
      obtain rfl := dec_inj _ _ h3 h4 g3 g4 e4
      have : t = t2 := by
        obtain ⟨⟨l⟩⟩ := t
        obtain ⟨⟨l2⟩⟩ := t2
        have e6 : l = l2 := e5
        rw [e6]
      exact ⟨rfl, rfl, rfl, rfl, rfl, rfl, this⟩
    · exact absurd e1 (by decide)
  · rcases g5 with ⟨rfl, ge, go⟩ | ⟨rfl, rfl⟩
    · exact absurd e1 (by decide)
    · rw [if_neg (by decide), List.append_nil, List.append_nil] at q3
      obtain rfl := dec_inj _ _ h3 h4 g3 g4 q3
      exact ⟨rfl, rfl, rfl, rfl, rfl, rfl, rfl⟩

theorem mkS_list (l : List UInt8) : (⟨l.toArray⟩ : ByteArray).toList = l := by rw [ByteArray.toList_eq]
theorem pktS_list {k a b c d n : Int} {t : ByteArray} (h : pktB k a b c d n t = true) : (pktS k a b c d n t).toList = pktL k a b c d n t := by
  unfold pktS; rw [if_pos h]; exact mkS_list _
theorem pktL_ne (k a b c d n : Int) (t : ByteArray) : (pktL k a b c d n t).isEmpty = false := by
  unfold pktL
  cases (wordS k).data.toList <;> rfl
theorem pktS_emp (k a b c d n : Int) (t : ByteArray) : (pktS k a b c d n t).toList.isEmpty = !pktB k a b c d n t := by
  cases h : pktB k a b c d n t
  · unfold pktS; rw [h]; exact emp_nil
  · rw [pktS_list h]; exact pktL_ne _ _ _ _ _ _ _
theorem pktS_size (k a b c d n : Int) (t : ByteArray) : (pktS k a b c d n t).size ≤ 58 := by
  cases h : pktB k a b c d n t
  · unfold pktS; rw [h]; exact Nat.zero_le _
  · have hl := pktL_len k a b c d n t
    have ht : t.size ≤ 40 := by
      rcases (pkt_parts h).2.2.2.2 with ⟨_, _, ho⟩ | ⟨_, rfl⟩
      · exact ok_forty ho
      · exact Nat.zero_le _
    have : (pktS k a b c d n t).size = (pktL k a b c d n t).length := by
      unfold pktS; rw [if_pos h]; rfl
    omega

theorem pktText_is (k a b c d n : Int) (t S : ByteArray) (h : pktS k a b c d n t = S) (w : World) :
    Calls Tryz.prog 7 #[pktV k a b c d n t] w fun e w' => e = .returned (.string S) ∧ Below w.heap.size w w' := by
  subst h; exact pktText k a b c d n t w
theorem spktText_is (k a b c d n : Int) (t S : ByteArray) (ht : t.size ≤ maxLen) (h : pktS k a b c d n t = S) (w : World) :
    Calls Tryz.prog 8 #[pktV k a b c d n t] w fun e w' => e = .returned (.string S) ∧ Below w.heap.size w w' := by
  subst h; exact spktText k a b c d n t ht w
end Go.Proofs.YtnjggammbebpkaaGreatDoor.Pk

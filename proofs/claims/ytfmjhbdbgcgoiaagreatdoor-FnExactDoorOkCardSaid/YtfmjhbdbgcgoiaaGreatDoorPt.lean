/- Parts in memory: how they read. The chain of parts. -/
import Derived.Test.YtfmjhbdbgcgoiaaGreatDoorStB
import Derived.Test.YtfmjhbdbgcgoiaaGreatDoorIt5
namespace Go.Proofs.YtfmjhbdbgcgoiaaGreatDoor.St
open Go.RowKit Go.Shelf Go.Proofs.YtfmjhbdbgcgoiaaGreatDoor.Kit Go.Proofs.YtfmjhbdbgcgoiaaGreatDoor.Tx Go.Proofs.YtfmjhbdbgcgoiaaGreatDoor.Nm Go.Proofs.YtfmjhbdbgcgoiaaGreatDoor.App Go.Proofs.YtfmjhbdbgcgoiaaGreatDoor.It4
set_option linter.unusedSimpArgs false
set_option linter.unusedVariables false

/-- parts, cell by cell -/
def cellsT (m : List (Int × ByteArray)) : List Value := m.flatMap fun p => [.int .i64 p.1, .string p.2]
theorem cellsT_cons (q : Int × ByteArray) (m : List (Int × ByteArray)) : cellsT (q :: m) = .int .i64 q.1 :: .string q.2 :: cellsT m := by simp [cellsT]
theorem cellsT_snoc (m : List (Int × ByteArray)) (p : Int × ByteArray) : cellsT (m ++ [p]) = cellsT m ++ [.int .i64 p.1, .string p.2] := by simp [cellsT]
theorem cellsT_len (m : List (Int × ByteArray)) : (cellsT m).length = m.length * 2 := by
  induction m with
  | nil => rfl
  | cons p m ih => rw [cellsT_cons]; simp only [List.length_cons]; omega
theorem infoT : (Tryz.prog.info? 88).map (fun i => (i.zero, i.size, i.bytes)) = some (some (.agg #[.int .i64 0, .string ByteArray.empty]), 2, 24) := by kernel_rfl
/-- the two cells of a part -/
def At2 (W : World) (g o : Nat) (p : Int × ByteArray) : Prop := W.cell? ⟨g, o, none⟩ = some (.int .i64 p.1) ∧ W.cell? ⟨g, o + 1, none⟩ = some (.string p.2)
theorem At2.same {W W' : World} {g o : Nat} {p : Int × ByteArray} (h : At2 W g o p) (k : W'.heap[g]? = W.heap[g]?) : At2 W' g o p := by
  have e : ∀ j, W'.cell? ⟨g, j, none⟩ = W.cell? ⟨g, j, none⟩ := fun j => World.cell?_of_block k
  exact ⟨(e _).trans h.1, (e _).trans h.2⟩
theorem At2.below {W W' : World} {g o : Nat} {p : Int × ByteArray} (h : At2 W g o p) (k : Below W.heap.size W W') : At2 W' g o p := h.same (k.block g (blk h.1))
/-- a slice that reads as parts -/
def IsT (W : World) (v : Value) (m : List (Int × ByteArray)) : Prop :=
  ∃ a cap, v = .slice a m.length cap ∧ m.length ≤ cap ∧ cap ≤ maxLen ∧ (m = [] ∨ ∃ g o, a = some ⟨g, o, none⟩ ∧ ∀ (i : Nat) (p : Int × ByteArray), m[i]? = some p → At2 W g (o + i * 2) p)
theorem IsT.below {W W' : World} {v : Value} {m : List (Int × ByteArray)} (h : IsT W v m) (k : Below W.heap.size W W') : IsT W' v m := by
  obtain ⟨a, cap, h1, h2, h3, h4⟩ := h
  refine ⟨a, cap, h1, h2, h3, ?_⟩
  rcases h4 with r | ⟨g, o, rfl, hc⟩
  · exact .inl r
  · exact .inr ⟨g, o, rfl, fun i p hp => (hc i p hp).below k⟩
theorem cellsT_at (m : List (Int × ByteArray)) (i : Nat) (p : Int × ByteArray) (h : m[i]? = some p) : (cellsT m)[i * 2]? = some (.int .i64 p.1) ∧ (cellsT m)[i * 2 + 1]? = some (.string p.2) := by
  induction m generalizing i with
  | nil => simp at h
  | cons q m ih =>
    cases i with
    | zero => simp at h; subst h; rw [cellsT_cons]; simp
    | succ i =>
      simp at h
      have := ih i h
      rw [cellsT_cons]
      have s : ∀ j, ((.int .i64 q.1 : Value) :: .string q.2 :: cellsT m)[j + 2]? = (cellsT m)[j]? := fun j => rfl
      rw [show (i + 1) * 2 = i * 2 + 2 by omega, show i * 2 + 2 + 1 = i * 2 + 1 + 2 by omega, s, s]
      exact this
theorem isT_of_row {W : World} {b : Nat} {e : TypeId} {v : Value} {m : List (Int × ByteArray)} (h : W.ownsRow b e 2 v m.length (cellsT m)) : IsT W v m := by
  rcases h.2 with ⟨rfl, h0⟩ | ⟨g, cap, cur, rfl, hb, hg, hnc, hcm, hcs, htake⟩
  · have : m = [] := List.length_eq_zero_iff.1 h0
    subst this
    exact ⟨none, 0, rfl, Nat.le_refl _, Nat.zero_le _, .inl rfl⟩
  · refine ⟨_, cap, rfl, hnc, hcm, .inr ⟨g, 0, rfl, fun i p hp => ?_⟩⟩
    have hi : i < m.length := (List.getElem?_eq_some_iff.1 hp).1
    have hat := cellsT_at m i p hp
    have key : ∀ (j : Nat) (u : Value), j < m.length * 2 → (cellsT m)[j]? = some u → W.cell? ⟨g, j, none⟩ = some u := by
      intro j u hj hu
      rw [← htake, List.getElem?_take_of_lt hj, Array.getElem?_toList] at hu
      simp [World.cell?, hg, hu]
    rw [Nat.zero_add]
    exact ⟨key _ _ (by omega) hat.1, key _ _ (by omega) hat.2⟩

/-- how long parts are, as they came, as a chain counts it -/
def szW (ps : List (Int × ByteArray)) : Int := ps.foldl (fun a p => wrap64 (a + p.1)) 0
/-- as what parts went on -/
def txW (ps : List (Int × ByteArray)) : ByteArray := ps.foldl (fun a p => a ++ p.2) ByteArray.empty
theorem szW_snoc (ps : List (Int × ByteArray)) (p : Int × ByteArray) : szW (ps ++ [p]) = wrap64 (szW ps + p.1) := by simp [szW]
theorem txW_snoc (ps : List (Int × ByteArray)) (p : Int × ByteArray) : txW (ps ++ [p]) = txW ps ++ p.2 := by simp [txW]
/-- the address of a link's block -/
def ad (b : Nat) : Addr := ⟨b, 0, none⟩
/-- a chain of parts, its links in the blocks bs -/
structure ChainAt (W : World) (C : Nat) (bs : List Nat) (ps : List (Int × ByteArray)) : Prop where
  blk : W.heap[C]? = some (chO (bs.head?.map ad) (bs.getLast?.map ad) (ps.length : Nat) (szW ps) (txW ps))
  len : bs.length = ps.length
  lnk : ∀ (i : Nat) (p : Int × ByteArray) (b : Nat), ps[i]? = some p → bs[i]? = some b → W.heap[b]? = some (lkO p (bs[i + 1]?.map ad))
  off : ∀ b ∈ bs, b ≠ C
  nd : bs.Nodup
theorem ChainAt.same {W W' : World} {C : Nat} {bs : List Nat} {ps : List (Int × ByteArray)} (h : ChainAt W C bs ps) (k : ∀ b, b = C ∨ b ∈ bs → W'.heap[b]? = W.heap[b]?) : ChainAt W' C bs ps :=
  ⟨(k C (.inl rfl)).trans h.blk, h.len, fun i p b hp hb => (k b (.inr (List.mem_of_getElem? hb))).trans (h.lnk i p b hp hb), h.off, h.nd⟩
theorem ChainAt.lt {W : World} {C : Nat} {bs : List Nat} {ps : List (Int × ByteArray)} (h : ChainAt W C bs ps) : ∀ b, b = C ∨ b ∈ bs → ∃ cs t, W.heap[b]? = some (.cells cs t (0, 0)) ∧ (b = C ∨ t = 205) := by
  rintro b (rfl | hb)
  · exact ⟨_, _, h.blk, .inl rfl⟩
  · obtain ⟨i, hi, e⟩ := List.getElem_of_mem hb
    have hb' : bs[i]? = some b := by rw [List.getElem?_eq_getElem hi, e]
    have hl := h.len
    have hp : ps[i]? = some (ps[i]'(by omega)) := List.getElem?_eq_getElem (by omega)
    exact ⟨_, _, h.lnk i _ b hp hb', .inr rfl⟩
theorem ChainAt.mem {W : World} {C : Nat} {bs : List Nat} {ps : List (Int × ByteArray)} (h : ChainAt W C bs ps) (b : Nat) (hb : b = C ∨ b ∈ bs) : b < W.heap.size := by
  obtain ⟨cs, t, e, _⟩ := h.lt b hb
  exact (Array.getElem?_eq_some_iff.1 e).1
theorem ChainAt.below {W W' : World} {C : Nat} {bs : List Nat} {ps : List (Int × ByteArray)} (h : ChainAt W C bs ps) (k : Below W.heap.size W W') : ChainAt W' C bs ps :=
  h.same fun b hb => k.block b (h.mem b hb)

/-- what adding a part leaves -/
structure Added (base : Nat) (W W' : World) (C : Nat) (bs : List Nat) (ps : List (Int × ByteArray)) (p : Int × ByteArray) : Prop where
  chain : ChainAt W' C (bs ++ [W.heap.size + 1]) (ps ++ [p])
  size : W'.heap.size = W.heap.size + 2
  os : W'.os = W.os
  tape : W'.tape = W.tape
  output : W'.output = W.output
  same : ∀ k, k < W.heap.size → k ≠ C → k ∉ bs → W'.heap[k]? = W.heap[k]?

theorem add_any (base C : Nat) (bs : List Nat) (ps : List (Int × ByteArray)) (p : Int × ByteArray) (w : World) (h : ChainAt w C bs ps) (hm : ps.length ≤ 900) (ht : (txW ps).size ≤ 100000) (hT : p.2.size ≤ 100000) :
    Calls Tryz.prog 138 #[.pointer (some ⟨C, 0, none⟩), ptV p] w fun e w' => (∃ v, e = .returned v) ∧ Added base w w' C bs ps p := by
  have hb0 := h.blk
  have hlC := h.mem C (.inl rfl)
  cases hbs : bs.reverse with
  | nil =>
    obtain rfl : bs = [] := by simpa using hbs
    have hp0 : ps = [] := List.length_eq_zero_iff.1 h.len.symm
    subst hp0
    refine (add_first C ((0 : Nat) : Int) (szW []) (txW []) p w hb0 (by omega) ht hT).mono ?_
    rintro e w' ⟨he, q1, q2, q3, q4, q5, q6, q7⟩
    refine ⟨he, ⟨⟨?_, rfl, ?_, ?_, by simp⟩, q3, q4, q5, q6, fun k hk hne _ => q7 k hk hne⟩⟩
    · rw [q1, List.nil_append, List.nil_append, ← List.nil_append [p], szW_snoc, txW_snoc]; rfl
    · intro i q b hq hb
      cases i with
      | zero => simp at hq hb; subst hq hb; exact q2
      | succ i => simp at hq
    · intro b hb; simp at hb; omega
  | cons B r =>
    have hbs' : bs = r.reverse ++ [B] := by
      have := congrArg List.reverse hbs
      simpa using this
    have hlen := h.len
    have hpn : ps ≠ [] := by
      rintro rfl
      rw [hbs'] at hlen; simp at hlen
    obtain ⟨qs, q, hqs⟩ : ∃ qs q, ps = qs ++ [q] := ⟨ps.dropLast, ps.getLast hpn, (List.dropLast_concat_getLast hpn).symm⟩
    have hr : r.length = qs.length := by
      rw [hbs', hqs] at hlen; simpa using hlen
    have hlb : bs.length = r.length + 1 := by rw [hbs']; simp
    have hBl : bs[r.length]? = some B := by rw [hbs']; simp
    have hql : ps[r.length]? = some q := by rw [hqs, hr]; simp
    have hB := h.lnk r.length q B hql hBl
    rw [show bs[r.length + 1]? = none by rw [hbs']; simp] at hB
    have hBC : B ≠ C := h.off B (by rw [hbs']; simp)
    have hlast : bs.getLast? = some B := by rw [hbs']; simp
    obtain ⟨f0, hf0⟩ : ∃ f0, bs.head? = some f0 := by
      cases hh : bs with
      | nil => rw [hh] at hbs'; simp at hbs'
      | cons a t => exact ⟨a, rfl⟩
    rw [hlast, hf0] at hb0
    refine (add_next C B (ps.length : Nat) (szW ps) (txW ps) p q (ad f0) w hb0 hB hBC (by omega) ht hT).mono ?_
    rintro e w' ⟨he, q1, q2, q2b, q3, q4, q5, q6, q7⟩
    have hfresh : w.heap.size + 1 ∉ bs := fun hx => by have := h.mem _ (.inr hx); omega
    refine ⟨he, ⟨⟨?_, by simp [hlen], ?_, ?_, ?_⟩, q3, q4, q5, q6, fun k hk hne hnb => q7 k hk hne fun e => hnb (by rw [e, hbs']; simp)⟩⟩
    · rw [q1, szW_snoc, txW_snoc, List.length_append]
      have e1 : (bs ++ [w.heap.size + 1]).head? = some f0 := by rw [List.head?_append, hf0]; rfl
      have e2 : (bs ++ [w.heap.size + 1]).getLast? = some (w.heap.size + 1) := by simp
      rw [e1, e2]; rfl
    · intro i p' b hp hb
      by_cases hi : i < r.length
      · have hpi : ps[i]? = some p' := by rwa [List.getElem?_append_left (by omega)] at hp
        have hbi : bs[i]? = some b := by rwa [List.getElem?_append_left (by omega)] at hb
        have hnx : (bs ++ [w.heap.size + 1])[i + 1]? = bs[i + 1]? := List.getElem?_append_left (by rw [hbs']; simp; omega)
        rw [hnx]
        have hbB : b ≠ B := by
          rintro rfl
          have := (List.getElem?_inj (i := i) (by omega) h.nd).1 (hbi.trans hBl.symm)
          omega
        exact (q7 b (h.mem b (.inr (List.mem_of_getElem? hbi))) (h.off b (List.mem_of_getElem? hbi)) hbB).trans (h.lnk i p' b hpi hbi)
      · by_cases hi2 : i = r.length
        · subst hi2
          have hpi : q = p' := by
            rw [List.getElem?_append_left (by rw [hqs]; simp; omega), hql] at hp
            exact Option.some.inj hp
          have hbi : B = b := by
            rw [List.getElem?_append_left (by rw [hbs']; simp), hBl] at hb
            exact Option.some.inj hb
          subst hpi hbi
          rw [show (bs ++ [w.heap.size + 1])[r.length + 1]? = some (w.heap.size + 1) by rw [hbs']; simp]
          exact q2b
        · have hi3 : i = ps.length := by
            have := (List.getElem?_eq_some_iff.1 hp).1
            simp at this; omega
          subst hi3
          have hpi : p = p' := by
            rw [List.getElem?_append_right (Nat.le_refl _)] at hp
            simpa using hp
          have hbi : w.heap.size + 1 = b := by
            rw [← hlen, List.getElem?_append_right (Nat.le_refl _)] at hb
            simpa using hb
          subst hpi hbi
          rw [List.getElem?_eq_none (by simp; omega)]
          exact q2
    · intro b hb
      rcases List.mem_append.1 hb with hb | hb
      · exact h.off b hb
      · simp at hb; omega
    · exact List.nodup_append.2 ⟨h.nd, by simp, fun a ha b hb => by simp at hb; rintro rfl; exact hfresh (hb ▸ ha)⟩
/-- what may turn while parts are added -/
def Xc (base C : Nat) (b : Nat) (t : TypeId) : Prop := b = C ∨ (base ≤ b ∧ t = 205)
theorem Added.kq {base : Nat} {W W' : World} {C : Nat} {bs : List Nat} {ps : List (Int × ByteArray)} {p : Int × ByteArray} (h : Added base W W' C bs ps p) (hc : ChainAt W C bs ps) (hb : ∀ b ∈ bs, base ≤ b) : Kq (Xc base C) W W' := by
  have z := h.size
  refine ⟨by omega, fun b cs t f e => ?_, fun b cs t f e hX => ?_⟩
  · by_cases hk : b = C ∨ b ∈ bs
    · obtain ⟨cs1, t1, e1, _⟩ := hc.lt b hk
      rw [e1] at e; cases e
      rcases hk with rfl | hk
      · have := hc.blk; rw [e1] at this; cases this
        exact ⟨_, _, h.chain.blk⟩
      · obtain ⟨i, hi, eb⟩ := List.getElem_of_mem hk
        have hl := hc.len
        have hb' : bs[i]? = some b := by rw [List.getElem?_eq_getElem hi, eb]
        have hp' : ps[i]? = some (ps[i]'(by omega)) := List.getElem?_eq_getElem (by omega)
        have := hc.lnk i _ b hp' hb'; rw [e1] at this; cases this
        exact ⟨_, _, h.chain.lnk i _ b (by rw [List.getElem?_append_left (by omega)]; exact hp') (by rw [List.getElem?_append_left hi]; exact hb')⟩
    · exact ⟨cs, f, (h.same b (Array.getElem?_eq_some_iff.1 e).1 (fun q => hk (.inl q)) (fun q => hk (.inr q))).trans e⟩
  · refine (h.same b (Array.getElem?_eq_some_iff.1 e).1 (fun q => hX (.inl q)) fun q => hX ?_).trans e
    obtain ⟨cs1, t1, e1, rfl | ht⟩ := hc.lt b (.inr q)
    · exact .inl rfl
    · rw [e1] at e; cases e
      exact .inr ⟨hb b q, ht⟩
theorem Added.keeps {base B : Nat} {W W' : World} {C : Nat} {bs : List Nat} {ps : List (Int × ByteArray)} {p : Int × ByteArray} (h : Added base W W' C bs ps p) (hc : ChainAt W C bs ps) : KeepsFrom B W W' := by
  have z := h.size
  refine ⟨by omega, fun k o _ ho hcel => ?_⟩
  have hk : ¬ (k = C ∨ k ∈ bs) := fun q => by
    obtain ⟨cs1, t1, e1, _⟩ := hc.lt k q
    rw [e1] at ho; cases ho; cases hcel
  exact (h.same k (Array.getElem?_eq_some_iff.1 ho).1 (fun q => hk (.inl q)) (fun q => hk (.inr q))).trans ho
theorem Added.below {base : Nat} {W W' : World} {C : Nat} {bs : List Nat} {ps : List (Int × ByteArray)} {p : Int × ByteArray} (h : Added base W W' C bs ps p) (hbase : base ≤ W.heap.size) (hC : base ≤ C) (hb : ∀ b ∈ bs, base ≤ b) : Below base W W' := by
  have z := h.size
  exact ⟨h.os, h.tape, h.output, by omega, fun k hk => h.same k (by omega) (by omega) fun q => by have := hb k q; omega⟩
end Go.Proofs.YtfmjhbdbgcgoiaaGreatDoor.St

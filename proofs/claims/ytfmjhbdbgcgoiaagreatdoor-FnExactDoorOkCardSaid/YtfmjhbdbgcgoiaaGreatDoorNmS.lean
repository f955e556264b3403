/- Walks: which end a text names at its beginning, by the model. -/
import Derived.Test.YtfmjhbdbgcgoiaaGreatDoorNm2
import Derived.Test.YtfmjhbdbgcgoiaaGreatDoorSRds
namespace Go.Proofs.YtfmjhbdbgcgoiaaGreatDoor.Nm
open Go.RowKit Go.Proofs.YtfmjhbdbgcgoiaaGreatDoor.Kit Go.Proofs.YtfmjhbdbgcgoiaaGreatDoor.Tx
open Go.Proofs.YtfmjhbdbgcgoiaaGreatDoor.EndW (sideZ endV)
open Go.Proofs.YtfmjhbdbgcgoiaaGreatDoor.Text (txtL)
open Go.Proofs.YtfmjhbdbgcgoiaaGreatDoor.Read (sread_any)

theorem isN_cut (L : List UInt8) (n : Nat) (e : Int × Int) (hs : sideZ e.1 e.2 ≠ 0) (h2 : 2 ≤ n) (hn : n ≤ L.length) (h0 : L[0]? = some 64) (h1 : L[n - 1]? = some 59) (ht : (L.drop 1).take (n - 2) = txtL e.1 e.2) :
    IsN L e ∧ (nmL e).length = n := by
  obtain ⟨m, rfl⟩ : ∃ m, n = m + 2 := ⟨n - 2, by omega⟩
  simp only [Nat.add_sub_cancel] at ht
  cases L with
  | nil => simp at hn
  | cons x r =>
    simp at h0 hn
    subst h0
    simp only [List.drop_succ_cons, List.drop_zero] at ht
    have h1' : r[m]? = some 59 := by simpa using h1
    have hlt : m < r.length := by omega
    have hd : r.drop m = 59 :: r.drop (m + 1) := by
      rw [List.drop_eq_getElem_cons hlt]
      rw [List.getElem?_eq_getElem hlt] at h1'
      rw [Option.some.inj h1']
    have hlen : (txtL e.1 e.2).length = m := by rw [← ht, List.length_take]; omega
    refine ⟨⟨hs, r.drop (m + 1), ?_⟩, by simp [nmL, hlen]⟩
    show (64 :: (txtL e.1 e.2 ++ [59])) ++ _ = 64 :: r
    rw [← ht, List.cons_append, List.append_assoc, List.singleton_append, ← hd, List.take_append_drop]

theorem isN_parts (L : List UInt8) (e : Int × Int) (h : IsN L e) : (nmL e).length ≤ L.length ∧ L[0]? = some 64 ∧ L[(nmL e).length - 1]? = some 59 ∧ (L.drop 1).take ((nmL e).length - 2) = txtL e.1 e.2 := by
  obtain ⟨t, ht⟩ := h.2
  refine ⟨h.2.length_le, ?_, ?_, ?_⟩
  · rw [← ht]; rfl
  · rw [← ht, List.getElem?_append_left (by have := nm_pos e; omega)]
    simp [nmL]
  · rw [← ht]
    have : (nmL e).length - 2 = (txtL e.1 e.2).length := by simp [nmL]
    rw [this]
    show (txtL e.1 e.2 ++ [59] ++ t).take _ = _
    rw [List.append_assoc, List.take_left' rfl]

/-- what the model's search for a name says -/
def Nms (l : List UInt8) (x y : Int) (k : Nat) : Prop := (nameO l = some (x, y) ∧ k = (nmL (x, y)).length) ∨ (k = 0 ∧ x = 0 ∧ y = 0 ∧ nameO l = none)

/-- two cells of a block, written one behind the other -/
theorem set2 (w : World) (b : Nat) (v0 v1 u0 u1 : Value) (h0 : w.cell? ⟨b, 0, none⟩ = some u0) (h1 : w.cell? ⟨b, 1, none⟩ = some u1) :
    (w.setCell ⟨b, 0, none⟩ v0).cell? ⟨b, 0, none⟩ = some v0 ∧ ((w.setCell ⟨b, 0, none⟩ v0).setCell ⟨b, 1, none⟩ v1).cell? ⟨b, 1, none⟩ = some v1 := by
  have ne : (⟨b, 0, none⟩ : Addr) ≠ ⟨b, 1, none⟩ := by simp
  refine ⟨World.cell?_setCell_same' _ _ _ (by rw [h0]; rfl), World.cell?_setCell_same' _ _ _ ?_⟩
  have : (w.setCell ⟨b, 0, none⟩ v0).cell? ⟨b, 1, none⟩ = w.cell? ⟨b, 1, none⟩ := by
    first | exact World.cell?_setCell_other _ _ _ ne | exact World.cell?_setCell_other _ _ _ _ ne | exact World.cell?_setCell_other _ _ ne
  rw [this, h1]; rfl

set_option maxHeartbeats 4000000 in
theorem sname_any (s : ByteArray) (hsz : s.size ≤ maxLen) (w : World) :
    Calls Tryz.prog 115 #[.string s] w fun e w' => ∃ (x y : Int) (k : Nat), e = .returned (.tuple #[endV x y, .int .i64 (k : Nat)]) ∧ Below w.heap.size w w' ∧ Nms s.data.toList x y k := by
  have hs := lenL s
  unfold maxLen at hsz
  go_enter Tryz.func115, Tryz.ntmps115
  go_wp2
  go_loopw [4] (fun i wr => ∃ n : Nat, 5 ≤ n ∧ n ≤ 7 ∧ i = .int .i64 n ∧ (∀ e, IsN s.data.toList e → n ≤ (nmL e).length) ∧ Below w.heap.size w wr ∧ wr.cell? ⟨w.heap.size, 0, none⟩ = some (.int .i64 0) ∧ wr.cell? ⟨w.heap.size, 1, none⟩ = some (.int .i64 0) ∧ wr.frozen? ⟨w.heap.size, 0, none⟩ = false ∧ wr.frozen? ⟨w.heap.size, 1, none⟩ = false) (fun i wr => 7 - (intOf i).toNat)
  case atStart =>
    refine ⟨5, Nat.le_refl _, by omega, rfl, fun e he => ?_, (Below.refl _ _).alloc (Nat.le_refl _) _, by simp, by simp, by simp, by simp⟩
    rw [nm_len e he.1]; split <;> omega
  case round =>
    obtain ⟨n, hn5, hn7, rfl, hle, hbel, c0, c1, f0, f1⟩ := hrel
    have hblk : w.heap.size < wr.heap.size := blk c0
    by_cases hn : n ≤ 6 ∧ n ≤ s.size
    · have g6 : (n : Int) ≤ 6 := by omega
      have gl : (n : Int) ≤ (s.size : Int) := by omega
      have i0 : 0 < s.size := by omega
      have in1 : n - 1 < s.size := by omega
      have e1 : ((n : Int) - 1) = ((n - 1 : Nat) : Int) := by omega
      have b0 : s.data.toList[0]? = some (s.data[0]'i0) := by rw [List.getElem?_eq_getElem (by rw [hs]; exact i0)]; rfl
      have b1 : s.data.toList[n - 1]? = some (s.data[n - 1]'in1) := by rw [List.getElem?_eq_getElem (by rw [hs]; exact in1)]; rfl
      have hx : (s.extract 1 (n - 1)).data.toList = (s.data.toList.drop 1).take (n - 2) := by rw [ext_to]; congr 1
      have key : ∀ e, IsN s.data.toList e → (nmL e).length = n → (s.data[0]'i0) = 64 ∧ (s.data[n - 1]'in1) = 59 ∧ (s.extract 1 (n - 1)).toList = txtL e.1 e.2 := by
        intro e he hl
        obtain ⟨_, q0, q1, q2⟩ := isN_parts _ e he
        rw [hl] at q1 q2
        rw [b0] at q0
        rw [b1] at q1
        exact ⟨Option.some.inj q0, Option.some.inj q1, by rw [ByteArray.toList_eq, hx]; exact q2⟩
      have step : (∀ e, IsN s.data.toList e → (nmL e).length = n → False) → ∀ e, IsN s.data.toList e → n + 1 ≤ (nmL e).length := by
        intro h e he
        have := hle e he
        rcases Nat.lt_or_ge n (nmL e).length with g | g
        · exact g
        · exact (h e he (by omega)).elim
      by_cases a0 : ((s[0]'i0).toNat : Int) = 64
      · cases a1 : (((s[n - 1]'in1).toNat : Int) == 59)
        · have hno : ∀ e, IsN s.data.toList e → (nmL e).length = n → False := fun e he hl => by
            have h9 : (s[n - 1]'in1) = 59 := (key e he hl).2.1
            rw [h9] at a1; cases a1
          go_wp2
          go_roundw
          case rel => exact ⟨n + 1, by omega, by omega, by go_num, step hno, hbel, c0, c1, f0, f1⟩
          case measure => simp [intOf]; omega
        · have q0 : s.data.toList[0]? = some 64 := by
            rw [b0]
            have : (s[0]'i0) = 64 := UInt8.toNat_inj.1 (by have h4 : (64 : UInt8).toNat = 64 := rfl
                                                           omega)
            exact congrArg some this
          have q1 : s.data.toList[n - 1]? = some 59 := by
            rw [b1]
            have : (s[n - 1]'in1) = 59 := UInt8.toNat_inj.1 (by have h4 : (59 : UInt8).toNat = 59 := rfl
                                                                have := eq_of_beq a1
                                                                omega)
            exact congrArg some this
          go_wp2_with fail
          refine (sread_any _ _).mono ?_
          rintro e w3 ⟨x, y, t, rfl, k3, ht⟩
          have z3 := k3.size
          have c3 := keepc k3 w.heap.size hblk
          have f3 := keepf k3 w.heap.size hblk
          have hbel3 := hbel.trans (k3.mono hbel.size)
          have c30 := (c3 0).trans c0
          have c31 := (c3 1).trans c1
          have f30 := (f3 0).trans f0
          have f31 := (f3 1).trans f1
          clear k3 c3 f3
          have hlt3 : w.heap.size < w3.heap.size := by omega
          rcases ht with ⟨rfl, hsd, htx⟩ | ⟨rfl, rfl, rfl, htx⟩
          · have hyes := isN_cut s.data.toList n (x, y) hsd (by omega) (by omega) q0 q1 (by rw [← hx, ← ByteArray.toList_eq]; exact htx)
            go_wp2
            refine bodyPost_ret (v := .tuple #[endV x y, .int .i64 (n : Nat)]) ?_ rfl ?_
            · obtain ⟨q0, q1⟩ := set2 w3 w.heap.size (.int .i64 x) (.int .i64 y) _ _ c30 c31
              have a0 : ∀ (W : World) (o : Obj) (j : Nat), w.heap.size < W.heap.size → (W.alloc o).cell? ⟨w.heap.size, j, none⟩ = W.cell? ⟨w.heap.size, j, none⟩ := fun W o j h => ((Below.refl W.heap.size W).alloc (Nat.le_refl _) o).cell (p := ⟨w.heap.size, j, none⟩) h
              simp [results, Tryz.results115, go_sem, a0, hlt3, q0, q1]
            · exact ⟨x, y, n, rfl, ((hbel3.setCell (Nat.le_refl _) _).setCell (Nat.le_refl _) _).alloc (by simp; omega) _, .inl ⟨(nameO_some _ _).2 hyes.1, hyes.2.symm⟩⟩
          · have hno : ∀ e, IsN s.data.toList e → (nmL e).length = n → False := fun e he hl => htx e.1 e.2 he.1 (key e he hl).2.2
            go_wp2
            go_roundw
            case rel =>
              have bb : Below w3.heap.size w3 (w3.alloc (.cells #[.int .i64 0, .int .i64 0] 40)) := (Below.refl _ _).alloc (Nat.le_refl _) _
              have a0 := fun j => bb.cell (p := ⟨w.heap.size, j, none⟩) hlt3
              have a1 := fun j => bb.frozen (p := ⟨w.heap.size, j, none⟩) hlt3
              exact ⟨n + 1, by omega, by omega, by go_num, step hno, hbel3.alloc (by omega) _, (a0 0).trans c30, (a0 1).trans c31, (a1 0).trans f30, (a1 1).trans f31⟩
            case measure => simp [intOf]; omega
      · have hno : ∀ e, IsN s.data.toList e → (nmL e).length = n → False := fun e he hl => by
          have h9 : (s[0]'i0) = 64 := (key e he hl).1
          rw [h9] at a0; exact a0 rfl
        go_wp2
        go_roundw
        case rel => exact ⟨n + 1, by omega, by omega, by go_num, step hno, hbel, c0, c1, f0, f1⟩
        case measure => simp [intOf]; omega
    · have hno : nameO s.data.toList = none := by
        refine (nameO_none _).2 fun e he => ?_
        have h1 := hle e he
        have h2 := (isN_parts _ e he).1
        have h3 := nm_len e he.1
        rw [hs] at h2
        split at h3 <;> omega
      go_wp2
      all_goals first | (exfalso; omega) | skip
      all_goals
        refine bodyPost_ret (v := .tuple #[endV 0 0, .int .i64 0]) ?_ rfl ?_
        · obtain ⟨q0, q1⟩ := set2 wr w.heap.size (.int .i64 0) (.int .i64 0) _ _ c0 c1
          simp [results, Tryz.results115, go_sem, q0, q1]
        · exact ⟨0, 0, 0, rfl, (hbel.setCell (Nat.le_refl _) _).setCell (Nat.le_refl _) _, .inr ⟨rfl, rfl, rfl, hno⟩⟩
end Go.Proofs.YtfmjhbdbgcgoiaaGreatDoor.Nm

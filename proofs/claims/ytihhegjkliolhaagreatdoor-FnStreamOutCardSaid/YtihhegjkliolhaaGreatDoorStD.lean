/- Walks: the parts of a chain are listed, and gone across; the functions on streams that ask. -/
import Derived.Test.YtihhegjkliolhaaGreatDoorStC
import Derived.Test.YtihhegjkliolhaaGreatDoorPcs
import Derived.RangeFuncBox
namespace Go.Proofs.YtihhegjkliolhaaGreatDoor.St
open Go.RowKit Go.Shelf Go.Proofs.YtihhegjkliolhaaGreatDoor.Kit Go.Proofs.YtihhegjkliolhaaGreatDoor.Tx Go.Proofs.YtihhegjkliolhaaGreatDoor.Nm Go.Proofs.YtihhegjkliolhaaGreatDoor.App
open Go.Proofs.YtihhegjkliolhaaGreatDoor.Pcs (two_at)
open Go.Proofs.YtihhegjkliolhaaGreatDoor.Read (Errs)
set_option linter.unusedSimpArgs false
set_option linter.unusedVariables false

/-- the chain of a stream, in all cases -/
theorem read_any (s : ByteArray) (v : Value) (ps : List (Int × ByteArray)) (w : World) (hT : IsT w v ps) (herr : Errs w) :
    Calls Tryz.prog 34 #[.agg #[.string s, v]] w fun e W' => Below w.heap.size w W' ∧
      ((stB s ps = false ∧ e = .returned (.tuple #[chV none none 0 0 ByteArray.empty, .bool false])) ∨
       (stB s ps = true ∧ ∃ C bs, ChainAt W' C bs ps ∧ w.heap.size ≤ C ∧ (∀ b ∈ bs, w.heap.size ≤ b) ∧ e = .returned (.tuple #[chV (bs.head?.map ad) (bs.getLast?.map ad) (ps.length : Nat) (szW ps) (txW ps), .bool true]))) := by
  cases hok : okB s.data.toList
  · refine (callsIn_wide.1 (chain_no 5 s v w hok)).mono ?_
    rintro e W' ⟨h1, h2⟩
    exact ⟨h2, .inl ⟨stB_ok hok, h1⟩⟩
  · exact callsIn_wide.1 (chain_in 5 (Nat.le_refl _) s v ps w hok hT herr)

/-- a chain's own block is written anew elsewhere -/
theorem ChainAt.move {W W' : World} {C C' : Nat} {bs : List Nat} {ps : List (Int × ByteArray)} (h : ChainAt W C bs ps) (hC : W'.heap[C']? = some (chO (bs.head?.map ad) (bs.getLast?.map ad) (ps.length : Nat) (szW ps) (txW ps))) (hb : ∀ b ∈ bs, W'.heap[b]? = W.heap[b]?) (ho : ∀ b ∈ bs, b ≠ C') : ChainAt W' C' bs ps :=
  ⟨hC, h.len, fun i p b hp hbi => (hb b (List.mem_of_getElem? hbi)).trans (h.lnk i p b hp hbi), ho, h.nd⟩
theorem ChainAt.at {W : World} {C : Nat} {bs : List Nat} {ps : List (Int × ByteArray)} (h : ChainAt W C bs ps) (k : Nat) (p : Int × ByteArray) (hp : ps[k]? = some p) : ∃ b, bs[k]? = some b ∧ W.heap[b]? = some (lkO p (bs[k + 1]?.map ad)) := by
  have hk := (List.getElem?_eq_some_iff.1 hp).1
  have hb : bs[k]? = some (bs[k]'(by rw [h.len]; exact hk)) := List.getElem?_eq_getElem _
  exact ⟨_, hb, h.lnk k p _ hp hb⟩
theorem ChainAt.end {W : World} {C : Nat} {bs : List Nat} {ps : List (Int × ByteArray)} (h : ChainAt W C bs ps) (k : Nat) (hk : ps.length ≤ k) : bs[k]? = none := List.getElem?_eq_none (by rw [h.len]; exact hk)
theorem takeT_snoc {ps : List (Int × ByteArray)} {k : Nat} {p : Int × ByteArray} (h : ps[k]? = some p) : ps.take (k + 1) = ps.take k ++ [p] := by rw [List.take_add_one, h]; rfl
/-- how long a slice is -/
def lenV : Value → Nat
  | .slice _ n _ => n
  | _ => 0
theorem grown_keep {wr w2 : World} {base b : Nat} {e : TypeId} {sz n : Nat} {v : Value} {xs : List Value} {o : Obj} (hg : (wr.alloc o).grownBy w2 v.ownBlock) (hrow : wr.ownsRow base e sz v n xs) (hb : b < base) (hl : b < wr.heap.size) : w2.heap[b]? = wr.heap[b]? := by
  refine (hg.block b (by simp; omega) fun q => ?_).trans (Below.heap_alloc _ _ _ (by omega))
  have := (hrow.lt b q.symm).1
  omega
theorem head0 (bs : List Nat) : bs.head? = bs[0]? := by cases bs <;> rfl

set_option maxRecDepth 8000 in
set_option maxHeartbeats 4000000 in
theorem list_any (W : World) (C : Nat) (bs : List Nat) (ps : List (Int × ByteArray)) (h : ChainAt W C bs ps) (hl : ps.length ≤ 900) :
    Calls Tryz.prog 37 #[.pointer (some ⟨C, 0, none⟩)] W fun r W' => ∃ v, r = .returned v ∧ W'.ownsRow W.heap.size 45 2 v ps.length (cellsT ps) ∧ Below W.heap.size W W' := by
  obtain ⟨i0, hi, hz0, hz1, hz2⟩ := info_parts infoT
  have hC0 : W.cell? ⟨C, 0, none⟩ = some (.pointer (bs[0]?.map ad)) := by rw [← head0]; simp [World.cell?, h.blk, chO]
  go_enter Tryz.func37, Tryz.ntmps37
  go_wp2
  go_loopw [3, 4] (fun o i wr => ∃ k : Nat, k ≤ ps.length ∧ i = .pointer (bs[k]?.map ad) ∧ wr.ownsRow W.heap.size 45 2 o k (cellsT (ps.take k)) ∧ Below W.heap.size W wr ∧ lenV o = k) (fun o i wr => ps.length - lenV o)
  case atStart => exact ⟨0, Nat.zero_le _, rfl, World.ownsRow_nil _ _ _ _, Below.refl _ _, rfl⟩
  case round =>
    obtain ⟨k, hk, rfl, hrow, hb, hlv⟩ := hrel
    by_cases hkl : k < ps.length
    · have hp : ps[k]? = some ps[k] := List.getElem?_eq_getElem hkl
      generalize ps[k] = p at hp
      obtain ⟨b, hbk, hlk0⟩ := h.at k p hp
      have hlt : b < W.heap.size := (Array.getElem?_eq_some_iff.1 hlk0).1
      have hlk := (hb.block b hlt).trans hlk0
      have hltr : b < wr.heap.size := Nat.lt_of_lt_of_le hlt hb.size
      have c0 : wr.cell? ⟨b, 0, none⟩ = some (.int .i64 p.1) := by simp [World.cell?, hlk, lkO]
      have c1 : wr.cell? ⟨b, 1, none⟩ = some (.string p.2) := by simp [World.cell?, hlk, lkO]
      have c2 : wr.cell? ⟨b, 2, none⟩ = some (.pointer (bs[k + 1]?.map ad)) := by simp [World.cell?, hlk, lkO]
      have HS := (show Hid (ps.take (k + 1) = ps.take k ++ [p]) from takeT_snoc hp)
      have hbs := hb.size
      rw [hbk]
      simp only [Option.map_some, ad]
      clear hlk hlk0 hp hC0
      go_wp2_with (at_builtin; (refine wpList_append_own_at _ rfl _ _ 24 rfl W.heap.size 45 i0 (.agg #[.int .i64 0, .string ByteArray.empty]) 2 24 Tryz.underlying24 hi hz0 hz1 hz2 rfl (by decide) _ _ _ rfl (hrow.alloc _) ⟨wr.heap.size, 0, none⟩ 1 1 [.int .i64 p.1, .string p.2] rfl rfl (two_at _ _ _ _ _ rfl) (by simp [Value.oneCell']) (by unfold maxLen; omega) (by omega) (by simp; omega) ?_; intro v' w2 hown' hgrow _ _; obtain ⟨g', cap', rfl⟩ := ownsRow_succ hown'; have d2 : w2.cell? ⟨b, 2, none⟩ = some (.pointer (bs[k + 1]?.map ad)) := (World.cell?_of_block (grown_keep hgrow hrow hlt hltr)).trans c2))
      go_roundw
      case rel =>
        refine ⟨k + 1, by omega, rfl, ?_, ?_, rfl⟩
        · rw [HS.out, cellsT_snoc]; exact hown'
        · exact ⟨hgrow.os.trans hb.os, hgrow.tape.trans hb.tape, hgrow.output.trans hb.output, by have := hgrow.size; have := hb.size; simp at *; omega, fun x hx => (grown_keep hgrow hrow hx (Nat.lt_of_lt_of_le hx hb.size)).trans (hb.block x hx)⟩
      case measure => first | (simp only [lenV] at hlv ⊢; omega) | (simp [lenV, hlv]; omega)
    · have hkn : k = ps.length := by omega
      rw [h.end k (by omega)]
      simp only [Option.map_none]
      have e2 : ps.take k = ps := List.take_of_length_le (by omega)
      rw [e2] at hrow
      subst hkn
      go_wp2
      go_ret
      exact ⟨_, rfl, hrow, hb⟩

/-- how long parts are, there, that are whole within so many bytes here -/
def acr (h t : (Int × ByteArray) → Int) : List (Int × ByteArray) → Int → Int
  | [], _ => 0
  | p :: ps, n => if h p ≤ n then t p + acr h t ps (n - h p) else 0
def inZ (p : Int × ByteArray) : Int := p.1
def outZ (p : Int × ByteArray) : Int := (p.2.size : Nat)
/-- parts as an ok stream has them -/
def Small (ps : List (Int × ByteArray)) : Prop := ps.length ≤ 40 ∧ ∀ p ∈ ps, (1 ≤ p.1 ∧ p.1 ≤ 6) ∧ 1 ≤ p.2.size ∧ p.2.size ≤ 6
def sideH : Bool → (Int × ByteArray) → Int
  | true => inZ
  | false => outZ
theorem side_small {ps : List (Int × ByteArray)} (h : Small ps) (d : Bool) (p : Int × ByteArray) (hp : p ∈ ps) : 1 ≤ sideH d p ∧ sideH d p ≤ 6 := by
  obtain ⟨h1, h2, h3⟩ := h.2 p hp
  cases d
  · show 1 ≤ ((p.2.size : Nat) : Int) ∧ ((p.2.size : Nat) : Int) ≤ 6; omega
  · exact h1

end Go.Proofs.YtihhegjkliolhaaGreatDoor.St

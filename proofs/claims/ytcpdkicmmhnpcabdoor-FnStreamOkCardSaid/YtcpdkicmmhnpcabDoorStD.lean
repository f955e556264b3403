/- Walks: the parts of a chain are listed, and gone across; the functions on streams that ask. -/
import Derived.Test.YtcpdkicmmhnpcabDoorStC
import Derived.Test.YtcpdkicmmhnpcabDoorPcs
import Derived.RangeFuncBox
namespace Go.Proofs.YtcpdkicmmhnpcabDoor.St
open Go.RowKit Go.Shelf Go.Proofs.YtcpdkicmmhnpcabDoor.Kit Go.Proofs.YtcpdkicmmhnpcabDoor.Tx Go.Proofs.YtcpdkicmmhnpcabDoor.Nm Go.Proofs.YtcpdkicmmhnpcabDoor.App
open Go.Proofs.YtcpdkicmmhnpcabDoor.Pcs (two_at)
open Go.Proofs.YtcpdkicmmhnpcabDoor.Read (Errs)
set_option linter.unusedSimpArgs false
set_option linter.unusedVariables false

/-- the chain of a stream, in all cases -/
theorem read_any (s : ByteArray) (v : Value) (ps : List (Int × ByteArray)) (w : World) (hT : IsT w v ps) (herr : Errs w) :
    Calls Tryd.prog 10 #[.agg #[.string s, v]] w fun e W' => Below w.heap.size w W' ∧
      ((stB s ps = false ∧ e = .returned (.tuple #[chV none none 0 0 ByteArray.empty, .bool false])) ∨
       (stB s ps = true ∧ ∃ C bs, ChainAt W' C bs ps ∧ w.heap.size ≤ C ∧ (∀ b ∈ bs, w.heap.size ≤ b) ∧ e = .returned (.tuple #[chV (bs.head?.map ad) (bs.getLast?.map ad) (ps.length : Nat) (szW ps) (txW ps), .bool true]))) := by
  cases hok : okB s.data.toList
  · refine (callsIn_wide.1 (chain_no 5 s v w hok)).mono ?_
    rintro e W' ⟨h1, h2⟩
    exact ⟨h2, .inl ⟨stB_ok hok, h1⟩⟩
  · exact callsIn_wide.1 (chain_in 5 (Nat.le_refl _) s v ps w hok hT herr)

/-- a chain's own block is written anew elsewhere -/
theorem ChainAt.move {W W' : World} {C C' : Nat} {bs : List Nat} {ps : List (Int × ByteArray)} (h : ChainAt W C bs ps) (hC : W'.heap[C']? = some (chO (bs.head?.map ad) (bs.getLast?.map ad) (ps.length : Nat) (szW ps) (txW ps))) (hb : ∀ b ∈ bs, W'.heap[b]? = W.heap[b]?) (ho : ∀ b ∈ bs, b ≠ C') : ChainAt W' C' bs ps :=
  ⟨hC, h.len, fun i p b hp hbi => (hb b (List.mem_of_getElem? hbi)).trans (h.lnk i p b hp hbi), ho, h.nd⟩
theorem ChainAt.at {W : World} {C : Nat} {bs : List Nat} {ps : List (Int × ByteArray)} (h : ChainAt W C bs ps) (k : Nat) (p : Int × ByteArray) (hp : ps[k]? = some p) : ∃ b, bs[k]? = some b ∧ W.heap[b]? = some (lkO p (bs[k + 1]?.map ad)) := by
  have hk := (List.getElem?_eq_some_iff.1 hp).1
  have hb : bs[k]? = some (bs[k]'(by rw [h.len]; exact hk)) := List.getElem?_eq_getElem _
  exact ⟨_, hb, h.lnk k p _ hp hb⟩
theorem ChainAt.end {W : World} {C : Nat} {bs : List Nat} {ps : List (Int × ByteArray)} (h : ChainAt W C bs ps) (k : Nat) (hk : ps.length ≤ k) : bs[k]? = none := List.getElem?_eq_none (by rw [h.len]; exact hk)
theorem takeT_snoc {ps : List (Int × ByteArray)} {k : Nat} {p : Int × ByteArray} (h : ps[k]? = some p) : ps.take (k + 1) = ps.take k ++ [p] := by rw [List.take_add_one, h]; rfl
/-- how long a slice is -/
def lenV : Value → Nat
  | .slice _ n _ => n
  | _ => 0
theorem grown_keep {wr w2 : World} {base b : Nat} {e : TypeId} {sz n : Nat} {v : Value} {xs : List Value} {o : Obj} (hg : (wr.alloc o).grownBy w2 v.ownBlock) (hrow : wr.ownsRow base e sz v n xs) (hb : b < base) (hl : b < wr.heap.size) : w2.heap[b]? = wr.heap[b]? := by
  refine (hg.block b (by simp; omega) fun q => ?_).trans (Below.heap_alloc _ _ _ (by omega))
  have := (hrow.lt b q.symm).1
  omega
theorem head0 (bs : List Nat) : bs.head? = bs[0]? := by cases bs <;> rfl


/-- how long parts are, there, that are whole within so many bytes here -/
def acr (h t : (Int × ByteArray) → Int) : List (Int × ByteArray) → Int → Int
  | [], _ => 0
  | p :: ps, n => if h p ≤ n then t p + acr h t ps (n - h p) else 0
def inZ (p : Int × ByteArray) : Int := p.1
def outZ (p : Int × ByteArray) : Int := (p.2.size : Nat)
/-- parts as an ok stream has them -/
def Small (ps : List (Int × ByteArray)) : Prop := ps.length ≤ 40 ∧ ∀ p ∈ ps, (1 ≤ p.1 ∧ p.1 ≤ 6) ∧ 1 ≤ p.2.size ∧ p.2.size ≤ 6
def sideH : Bool → (Int × ByteArray) → Int
  | true => inZ
  | false => outZ
theorem side_small {ps : List (Int × ByteArray)} (h : Small ps) (d : Bool) (p : Int × ByteArray) (hp : p ∈ ps) : 1 ≤ sideH d p ∧ sideH d p ≤ 6 := by
  obtain ⟨h1, h2, h3⟩ := h.2 p hp
  cases d
  · show 1 ≤ ((p.2.size : Nat) : Int) ∧ ((p.2.size : Nat) : Int) ≤ 6; omega
  · exact h1

end Go.Proofs.YtcpdkicmmhnpcabDoor.St

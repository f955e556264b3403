/- A relation on worlds: all blocks but one are as they were. And a row of bytes. No program is named here. -/
import Derived.WalkKit
import Derived.ProofKit
import Derived.Below
import Derived.OpenShut
import Derived.Deep.Draws
import Derived.Laws.Bits64
namespace Go.Proofs.YtfmjhbdbgcgoiaaGreatDoor.Kit
open Go.RowKit

/-- all blocks but b are as they were, and none has come or gone -/
structure But (b : Nat) (w w' : World) : Prop where
  os : w'.os = w.os
  tape : w'.tape = w.tape
  output : w'.output = w.output
  size : w'.heap.size = w.heap.size
  block : ∀ k, k ≠ b → w'.heap[k]? = w.heap[k]?

theorem But.refl (b : Nat) (w : World) : But b w w := ⟨rfl, rfl, rfl, rfl, fun _ _ => rfl⟩
theorem But.trans {b : Nat} {x y z : World} (h : But b x y) (k : But b y z) : But b x z :=
  ⟨k.os.trans h.os, k.tape.trans h.tape, k.output.trans h.output, k.size.trans h.size, fun i hi => (k.block i hi).trans (h.block i hi)⟩
theorem But.drew {b : Nat} {x w : World} (h : But b x w) : But b x w.drew := ⟨h.os, h.tape, h.output, h.size, h.block⟩
theorem But.drewN {b : Nat} {x w : World} (n : Nat) (h : But b x w) : But b x (w.drewN n) := ⟨h.os, h.tape, h.output, h.size, h.block⟩
theorem But.setCell {b : Nat} {x w : World} (h : But b x w) {p : Addr} (hp : p.block = b) (u : Value) : But b x (w.setCell p u) :=
  h.trans ⟨rfl, rfl, rfl, by simp [World.setCell], fun k hk => Below.heap_setCell _ _ _ _ (by omega)⟩
theorem But.cell {b : Nat} {w w' : World} (h : But b w w') {p : Addr} (hp : p.block ≠ b) : w'.cell? p = w.cell? p := World.cell?_of_block (w := w) (h.block p.block hp)
theorem But.frozen {b : Nat} {w w' : World} (h : But b w w') {p : Addr} (hp : p.block ≠ b) : w'.frozen? p = w.frozen? p := World.frozen?_of_block (w := w) (h.block p.block hp)
theorem But.below {b B : Nat} {w w' : World} (h : But b w w') (hB : B ≤ b) : Below B w w' :=
  ⟨h.os, h.tape, h.output, by rw [h.size]; exact Nat.le_refl _, fun k hk => h.block k (by omega)⟩

theorem blk {w : World} {p : Addr} {u : Value} (h : w.cell? p = some u) : p.block < w.heap.size := World.block_lt_of_cell? _ _ h

theorem cell_set {w : World} {p q : Addr} {u : Value} (h : p.block ≠ q.block) : (w.setCell p u).cell? q = w.cell? q := by
  have e : p ≠ q := fun e => h (by rw [e])
  first | exact World.cell?_setCell_other _ _ _ e | exact World.cell?_setCell_other _ _ _ _ e | exact World.cell?_setCell_other _ _ e

theorem xor_nonneg (x y : Int) (hx : 0 ≤ x) (hx2 : x < 4611686018427387904) (hy : 0 ≤ y) (hy2 : y < 4611686018427387904) : 0 ≤ bits .xor .i64 x y := by
  obtain ⟨a, rfl⟩ := Int.eq_ofNat_of_zero_le hx
  obtain ⟨b, rfl⟩ := Int.eq_ofNat_of_zero_le hy
  have hl : a ^^^ b < 2 ^ 62 := Nat.xor_lt_two_pow (by omega) (by omega)
  have h1 : (BitVec.ofInt 64 (a : Int)).toNat = a := by
    rw [BitVec.ofInt_natCast, BitVec.toNat_ofNat]; exact Nat.mod_eq_of_lt (by omega)
  have h2 : (BitVec.ofInt 64 (b : Int)).toNat = b := by
    rw [BitVec.ofInt_natCast, BitVec.toNat_ofNat]; exact Nat.mod_eq_of_lt (by omega)
  show 0 ≤ IntKind.i64.wrap ((BitVec.ofInt 64 (a : Int) ^^^ BitVec.ofInt 64 (b : Int)).toNat : Int)
  rw [BitVec.toNat_xor, h1, h2]
  generalize a ^^^ b = c at *
  simp [IntKind.wrap, IntKind.bits, IntKind.signed]
  omega

theorem mix_rem (x y n : Int) (hx : 0 ≤ x) (hx2 : x < 4611686018427387904) (hy : 0 ≤ y) (hy2 : y < 4611686018427387904) (hn : 1 ≤ n) : 0 ≤ (bits .xor .i64 x y).tmod n ∧ (bits .xor .i64 x y).tmod n < n :=
  ⟨Int.tmod_nonneg _ (xor_nonneg x y hx hx2 hy hy2), Int.tmod_lt_of_pos _ (by omega)⟩

/-- a row of bytes that lies outside block b -/
def Row (b : Nat) (w : World) (a : Option Addr) (len : Nat) (z : Nat → Int) : Prop :=
  len = 0 ∨ ∃ xb xo, a = some ⟨xb, xo, none⟩ ∧ xb ≠ b ∧ ∀ i, i < len → w.cell? ⟨xb, xo + i, none⟩ = some (.int .u8 (z i))

theorem Row.but {b : Nat} {w w' : World} {a : Option Addr} {len : Nat} {z : Nat → Int} (h : Row b w a len z) (k : But b w w') : Row b w' a len z := by
  rcases h with h | ⟨xb, xo, rfl, hx, hc⟩
  · exact .inl h
  · exact .inr ⟨xb, xo, rfl, hx, fun i hi => by rw [k.cell hx]; exact hc i hi⟩

/-- a reader of a code: its bytes, and how many were read -/
structure Rd (w : World) (b : Nat) (a : Option Addr) (len cap : Nat) (z : Nat → Int) (p : Nat) : Prop where
  c0 : w.cell? ⟨b, 0, none⟩ = some (.slice a len cap)
  c1 : w.cell? ⟨b, 1, none⟩ = some (.int .i64 p)
  f1 : w.frozen? ⟨b, 1, none⟩ = false
  row : Row b w a len z
  small : len ≤ 2000
  val : ∀ i, 0 ≤ z i ∧ z i ≤ 255

/-- what becomes of a reader where other blocks turn -/
theorem Rd.keep {w w' : World} {b : Nat} {a : Option Addr} {len cap : Nat} {z : Nat → Int} {p : Nat} (h : Rd w b a len cap z p)
    (k : ∀ q : Addr, q.block < w.heap.size → w'.cell? q = w.cell? q) (f : ∀ q : Addr, q.block < w.heap.size → w'.frozen? q = w.frozen? q) : Rd w' b a len cap z p := by
  have hb : b < w.heap.size := blk h.c0
  refine ⟨by rw [k _ hb]; exact h.c0, by rw [k _ hb]; exact h.c1, by rw [f _ hb]; exact h.f1, ?_, h.small, h.val⟩
  rcases h.row with r | ⟨xb, xo, rfl, hx, hc⟩
  · exact .inl r
  · exact .inr ⟨xb, xo, rfl, hx, fun i hi => by rw [k _ (blk (hc i hi))]; exact hc i hi⟩

/-- a reader behind a pick -/
theorem Rd.next {w w' : World} {b : Nat} {a : Option Addr} {len cap : Nat} {z : Nat → Int} {p nq : Nat} (h : Rd w b a len cap z p)
    (e : w' = (w.setCell ⟨b, 1, none⟩ (.int .i64 ((p : Int) + 1))).drewN nq) : Rd w' b a len cap z (p + 1) ∧ But b w w' := by
  have k : But b w w' := by rw [e]; exact (But.setCell (p := ⟨b, 1, none⟩) (But.refl b w) rfl _).drewN _
  refine ⟨⟨?_, ?_, ?_, h.row.but k, h.small, h.val⟩, k⟩
  · rw [e]; simp only [World.cell?_drewN]
    have ne : (⟨b, 1, none⟩ : Addr) ≠ ⟨b, 0, none⟩ := by simp
    first | (rw [World.cell?_setCell_other _ _ _ ne]; exact h.c0) | (rw [World.cell?_setCell_other _ _ _ _ ne]; exact h.c0) | (rw [World.cell?_setCell_other _ _ ne]; exact h.c0)
  · rw [e]; simp only [World.cell?_drewN]
    first | exact World.cell?_setCell_same _ _ _ h.c1 | exact World.cell?_setCell_same _ _ h.c1 | exact World.cell?_setCell_same _ h.c1
  · rw [e]; simpa using h.f1

theorem Rd.below {w w' : World} {b : Nat} {a : Option Addr} {len cap : Nat} {z : Nat → Int} {p : Nat} (h : Rd w b a len cap z p)
    (k : Below w.heap.size w w') : Rd w' b a len cap z p := h.keep (fun _ hq => k.cell hq) (fun _ hq => k.frozen hq)

/-- a code that came in: its bytes -/
structure CodeIn (w : World) (a : Option Addr) (len cap : Nat) (z : Nat → Int) : Prop where
  row : len = 0 ∨ ∃ xb xo, a = some ⟨xb, xo, none⟩ ∧ len ≤ cap ∧ ∀ i, i < len → w.cell? ⟨xb, xo + i, none⟩ = some (.int .u8 (z i))
  val : ∀ i, 0 ≤ z i ∧ z i ≤ 255

theorem CodeIn.below {w w' : World} {a : Option Addr} {len cap : Nat} {z : Nat → Int} (h : CodeIn w a len cap z) (k : Below w.heap.size w w') : CodeIn w' a len cap z := by
  refine ⟨?_, h.val⟩
  rcases h.row with r | ⟨xb, xo, rfl, hx, hc⟩
  · exact .inl r
  · exact .inr ⟨xb, xo, rfl, hx, fun i hi => by rw [k.cell (blk (hc i hi))]; exact hc i hi⟩

/-- old blocks but b are as they were -/
structure Aside (b : Nat) (w w' : World) : Prop where
  os : w'.os = w.os
  tape : w'.tape = w.tape
  output : w'.output = w.output
  size : w.heap.size ≤ w'.heap.size
  block : ∀ k, k < w.heap.size → k ≠ b → w'.heap[k]? = w.heap[k]?
theorem Aside.refl (b : Nat) (w : World) : Aside b w w := ⟨rfl, rfl, rfl, Nat.le_refl _, fun _ _ _ => rfl⟩
theorem Aside.trans {b : Nat} {x y z : World} (h : Aside b x y) (k : Aside b y z) : Aside b x z :=
  ⟨k.os.trans h.os, k.tape.trans h.tape, k.output.trans h.output, Nat.le_trans h.size k.size, fun i hi hb => (k.block i (Nat.lt_of_lt_of_le hi h.size) hb).trans (h.block i hi hb)⟩
theorem Aside.ofBut {b : Nat} {w w' : World} (h : But b w w') : Aside b w w' := ⟨h.os, h.tape, h.output, by rw [h.size]; exact Nat.le_refl _, fun k _ hb => h.block k hb⟩
theorem Aside.ofBelow {b : Nat} {w w' : World} (h : Below w.heap.size w w') : Aside b w w' := ⟨h.os, h.tape, h.output, h.size, fun k hk _ => h.block k hk⟩
theorem Aside.alloc {b : Nat} {x w : World} (h : Aside b x w) (o : Obj) : Aside b x (w.alloc o) := h.trans (Aside.ofBelow ((Below.refl _ _).alloc (Nat.le_refl _) o))
theorem Aside.but {b : Nat} {x y z : World} (h : Aside b x y) (k : But b y z) : Aside b x z := h.trans (Aside.ofBut k)
theorem Aside.setNew {b : Nat} {x w : World} (h : Aside b x w) {p : Addr} (hp : x.heap.size ≤ p.block) (u : Value) : Aside b x (w.setCell p u) :=
  ⟨h.os, h.tape, h.output, by simpa [World.setCell] using h.size, fun k hk hb => by rw [Below.heap_setCell _ _ _ _ (by omega)]; exact h.block k hk hb⟩
theorem Aside.cell {b : Nat} {w w' : World} (h : Aside b w w') {p : Addr} (hl : p.block < w.heap.size) (hp : p.block ≠ b) : w'.cell? p = w.cell? p := World.cell?_of_block (w := w) (h.block p.block hl hp)
theorem Aside.frozen {b : Nat} {w w' : World} (h : Aside b w w') {p : Addr} (hl : p.block < w.heap.size) (hp : p.block ≠ b) : w'.frozen? p = w.frozen? p := World.frozen?_of_block (w := w) (h.block p.block hl hp)
theorem Aside.below {b B : Nat} {w w' : World} (h : Aside b w w') (hb : B ≤ b) (hB : B ≤ w.heap.size) : Below B w w' := ⟨h.os, h.tape, h.output, h.size, fun k hk => h.block k (by omega) (by omega)⟩

/-- a reader stays where a block is written that came behind it -/
theorem Rd.setNew {w w2 : World} {b : Nat} {a : Option Addr} {len cap : Nat} {z : Nat → Int} {p p' : Nat} (h : Rd w b a len cap z p) (s : Aside b w w2) (r : Rd w2 b a len cap z p')
    (q : Addr) (u : Value) (hq : w.heap.size ≤ q.block) : Rd (w2.setCell q u) b a len cap z p' := by
  have hb : b < w.heap.size := blk h.c0
  refine ⟨by rw [cell_set (by simp; omega)]; exact r.c0, by rw [cell_set (by simp; omega)]; exact r.c1, by simpa using r.f1, ?_, r.small, r.val⟩
  rcases h.row with e | ⟨xb, xo, rfl, hx, hc⟩
  · exact .inl e
  · refine .inr ⟨xb, xo, rfl, hx, fun i hi => ?_⟩
    have hl : xb < w.heap.size := blk (hc i hi)
    rw [cell_set (by simp; omega), s.cell hl hx]; exact hc i hi

theorem keepc {W w1 : World} (k : Below W.heap.size W w1) (b : Nat) (h : b < W.heap.size) : ∀ j, w1.cell? ⟨b, j, none⟩ = W.cell? ⟨b, j, none⟩ := fun j => k.cell (p := ⟨b, j, none⟩) h
theorem keepf {W w1 : World} (k : Below W.heap.size W w1) (b : Nat) (h : b < W.heap.size) : ∀ j, w1.frozen? ⟨b, j, none⟩ = W.frozen? ⟨b, j, none⟩ := fun j => k.frozen (p := ⟨b, j, none⟩) h

theorem bcell {W w1 : World} (hb : Below W.heap.size W w1) : (∀ b o, b < W.heap.size → w1.cell? ⟨b, o, none⟩ = W.cell? ⟨b, o, none⟩) ∧ (∀ b o, b < W.heap.size → w1.frozen? ⟨b, o, none⟩ = W.frozen? ⟨b, o, none⟩) :=
  ⟨fun b o h => hb.cell (p := ⟨b, o, none⟩) h, fun b o h => hb.frozen (p := ⟨b, o, none⟩) h⟩

theorem codeIn_nil (w : World) (cap : Nat) : CodeIn w none 0 cap (fun _ => 0) := ⟨.inl rfl, fun _ => ⟨by omega, by omega⟩⟩

theorem codeIn_row {w : World} {x : Addr} {len cap : Nat} {zs : List Int} (hl : len ≤ cap) (hz : zs.length = cap)
    (hcell : ∀ i, i < zs.length → w.cell? (x.add i) = some (.int .u8 (zs.getD i 0))) (hwz : ∀ n ∈ zs, (Lit.int .u8 n).wf = true) :
    CodeIn w (some x) len cap (fun i => zs.getD i 0) := by
  refine ⟨?_, ?_⟩
  · by_cases h0 : len = 0
    · exact .inl h0
    · obtain ⟨b, off, spot⟩ := x
      have hc := hcell 0 (by omega)
      have hspot : spot = none := by simpa [Addr.add] using World.cell?_spot hc
      subst hspot
      refine .inr ⟨b, off, rfl, hl, fun i hi => ?_⟩
      have hci := hcell i (by omega)
      have ea : (⟨b, off, none⟩ : Addr).add i = ⟨b, off + i, none⟩ := by
        by_cases hi0 : i = 0
        · subst hi0; simp [Addr.add]
        · simp [Addr.add, hi0]
      rw [ea] at hci; exact hci
  · intro i
    have := range_u8 hwz i
    simpa [List.getD_eq_getElem?_getD] using this

end Go.Proofs.YtfmjhbdbgcgoiaaGreatDoor.Kit

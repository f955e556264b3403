/- Walks: TextPieces of the program. -/
import Derived.Test.YtfmjhbdbgcgoiaaGreatDoorIt
namespace Go.Proofs.YtfmjhbdbgcgoiaaGreatDoor.Pcs
open Go.RowKit Go.Shelf Go.Proofs.YtfmjhbdbgcgoiaaGreatDoor.Kit Go.Proofs.YtfmjhbdbgcgoiaaGreatDoor.Tx Go.Proofs.YtfmjhbdbgcgoiaaGreatDoor.Nm Go.Proofs.YtfmjhbdbgcgoiaaGreatDoor.App Go.Proofs.YtfmjhbdbgcgoiaaGreatDoor.It
open Go.Proofs.YtfmjhbdbgcgoiaaGreatDoor.Read (Errs ErrCell)
attribute [local go_sem] Oper.semAt_some
set_option linter.unusedSimpArgs false

/-- pieces, cell by cell -/
def cellsP (ps : List Pc) : List Value := ps.flatMap fun p => [.int .i64 (p.sz : Nat), .bool p.nm, .int .i64 p.ad, .int .i64 p.po]
theorem cellsP_snoc (ps : List Pc) (p : Pc) : cellsP (ps ++ [p]) = cellsP ps ++ [.int .i64 (p.sz : Nat), .bool p.nm, .int .i64 p.ad, .int .i64 p.po] := by simp [cellsP]

theorem infoP : (Tryz.prog.info? 90).map (fun i => (i.zero, i.size, i.bytes)) = some (some (.agg #[.int .i64 0, .bool false, .int .i64 0, .int .i64 0]), 4, 32) := by kernel_rfl

/-- four cells of a new block, its number said -/
theorem four_at (W : World) (t : TypeId) (a b c d : Value) (n : Nat) (hn : W.heap.size = n) : ∀ j u, [a, b, c, d][j]? = some u → (W.alloc (.cells #[a, b, c, d] t)).cell? ((⟨n, 0, none⟩ : Addr).add j) = some u := by
  subst hn; exact App.cell_four_new W t a b c d
/-- two cells of a new block, its number said -/
theorem two_at (W : World) (t : TypeId) (a b : Value) (n : Nat) (hn : W.heap.size = n) : ∀ j u, [a, b][j]? = some u → (W.alloc (.cells #[a, b] t)).cell? ((⟨n, 0, none⟩ : Addr).add j) = some u := by
  subst hn; exact App.cell_two_new W t a b

theorem errs_lt {w : World} (h : Errs w) : 1 < w.heap.size ∧ 2 < w.heap.size := by
  obtain ⟨⟨_, c1, _⟩, ⟨_, c2, _⟩⟩ := h
  exact ⟨blk c1, blk c2⟩

end Go.Proofs.YtfmjhbdbgcgoiaaGreatDoor.Pcs

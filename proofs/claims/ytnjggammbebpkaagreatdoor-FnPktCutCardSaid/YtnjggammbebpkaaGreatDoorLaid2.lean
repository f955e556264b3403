/- What the listed variables give the walks on packets: the library's two error variables hold something, the program's own an error. -/
import Derived.Test.YtnjggammbebpkaaGreatDoorLaid
import Derived.Test.YtnjggammbebpkaaGreatDoorPkQ
namespace Go.Proofs.YtnjggammbebpkaaGreatDoor.PkR
open Go.RowKit Go.ChangeShapes Go.Proofs.YtnjggammbebpkaaGreatDoor.Kit Go.Proofs.YtnjggammbebpkaaGreatDoor.Read

theorem g_no : Tryz.prog.globalNamed "loop.example/ostiary/impl.errNoPkt" = some 0 := by kernel_rfl
theorem t_no : (Tryz.prog.globals[0]?).map (·.type) = some 42 := by kernel_rfl

theorem glob_of_laid {w : World} (h : laidMetH Tryz.prog [("math/bits.deBruijn32tab", Rows.laid_math_bits_deBruijn32tab), ("math/bits.deBruijn64tab", Rows.laid_math_bits_deBruijn64tab), ("internal/strconv.uint64pow10", Rows.laid_internal_strconv_uint64pow10), ("unicode/utf8.acceptRanges", Rows.laid_unicode_utf8_acceptRanges), ("strconv.ErrRange", Rows.laid_strconv_ErrRange), ("strconv.ErrSyntax", Rows.laid_strconv_ErrSyntax), ("loop.example/ostiary/impl.errNoPkt", Rows.laid_loop_example_ostiary_impl_errNoPkt), ("unicode/utf8.first", Rows.laid_unicode_utf8_first)] w) : ∃ p, Glob w p := by
  rw [MakeChecks.laidMetH_plain _ _ _ (by kernel_rfl)] at h
  have h2 := h.tail.tail.tail.tail
  obtain ⟨a0, s0, hv0, _, _, _⟩ := laid_sentinel h2 g_ran t_ran Tryz.underlying42 row_err Tryz.underlying141 Tryz.underlying143 rfl rfl Tryz.underlying9 (by kernel_rfl) (by kernel_rfl)
  obtain ⟨a1, s1, hv1, _, _, _⟩ := laid_sentinel h2.tail g_syn t_syn Tryz.underlying42 row_err Tryz.underlying141 Tryz.underlying143 rfl rfl Tryz.underlying9 (by kernel_rfl) (by kernel_rfl)
  obtain ⟨a2, s2, hv2, _, _, _⟩ := laid_sentinel h2.tail.tail g_no t_no Tryz.underlying42 row_err Tryz.underlying141 Tryz.underlying143 rfl rfl Tryz.underlying9 (by kernel_rfl) (by kernel_rfl)
  exact ⟨a2, ⟨⟨_, by simpa using World.var?_cell g_syn hv1 0, .inr ⟨_, _, rfl⟩⟩, ⟨_, by simpa using World.var?_cell g_ran hv0 0, .inr ⟨_, _, rfl⟩⟩⟩, by simpa using World.var?_cell g_no hv2 0⟩
end Go.Proofs.YtnjggammbebpkaaGreatDoor.PkR

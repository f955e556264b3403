/- What the listed variables give the walks: the library's two error variables hold something. -/
import Derived.Test.YtfmjhbdbgcgoiaaGreatDoorRead
import Derived.Stop.LaidErr
import Derived.LaidMore
import Derived.Stop.Joined
namespace Go.Proofs.YtfmjhbdbgcgoiaaGreatDoor.Read
open Go.RowKit Go.ChangeShapes Go.Proofs.YtfmjhbdbgcgoiaaGreatDoor.Kit

theorem star : "*" ++ "errors.errorString" = "*errors.errorString" := by decide
theorem row_err (u : TypeId) (h : Tryz.prog.typeName? 3 u = some "*errors.errorString") : u = 257 :=
  typeName_ptr_named (nm := "errors.errorString") (by rw [star]; kernel_rfl) (by kernel_rfl) (by decide) u (by rw [star]; exact h)
theorem g_syn : Tryz.prog.globalNamed "strconv.ErrSyntax" = some 1 := by kernel_rfl
theorem g_ran : Tryz.prog.globalNamed "strconv.ErrRange" = some 2 := by kernel_rfl
theorem t_syn : (Tryz.prog.globals[1]?).map (·.type) = some 224 := by kernel_rfl
theorem t_ran : (Tryz.prog.globals[2]?).map (·.type) = some 224 := by kernel_rfl

theorem errs_of_laid {w : World} (h : laidMetH Tryz.prog [("math/bits.deBruijn32tab", Rows.laid_math_bits_deBruijn32tab), ("math/bits.deBruijn64tab", Rows.laid_math_bits_deBruijn64tab), ("internal/strconv.uint64pow10", Rows.laid_internal_strconv_uint64pow10), ("strconv.ErrRange", Rows.laid_strconv_ErrRange), ("strconv.ErrSyntax", Rows.laid_strconv_ErrSyntax)] w) : Errs w := by
  rw [MakeChecks.laidMetH_plain _ _ _ (by kernel_rfl)] at h
  have h2 := h.tail.tail.tail
  obtain ⟨a0, s0, hv0, _, _, _⟩ := laid_sentinel h2 g_ran t_ran Tryz.underlying224 row_err Tryz.underlying257 Tryz.underlying259 rfl rfl Tryz.underlying9 (by kernel_rfl) (by kernel_rfl)
  obtain ⟨a1, s1, hv1, _, _, _⟩ := laid_sentinel h2.tail g_syn t_syn Tryz.underlying224 row_err Tryz.underlying257 Tryz.underlying259 rfl rfl Tryz.underlying9 (by kernel_rfl) (by kernel_rfl)
  refine ⟨⟨_, by simpa using World.var?_cell g_syn hv1 0, .inr ⟨_, _, rfl⟩⟩, ⟨_, by simpa using World.var?_cell g_ran hv0 0, .inr ⟨_, _, rfl⟩⟩⟩
end Go.Proofs.YtfmjhbdbgcgoiaaGreatDoor.Read

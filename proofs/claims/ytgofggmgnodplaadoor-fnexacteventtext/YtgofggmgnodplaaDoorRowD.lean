/- What the rows over the library's tables give a walk: errors.errorType, and the table of powers. -/
import Derived.Test.YtgofggmgnodplaaDoorRowC
import Derived.Test.YtgofggmgnodplaaDoorP0
import Derived.Stop.LaidErr
import Derived.Lib.LaidTab
namespace Go.Proofs.YtgofggmgnodplaaDoor
open Go.ChangeShapes Go.WideShapes Go.RowKit
theorem tPow : (Tryd.prog.globals[1]?).map (·.type) = some 159 := by kernel_rfl
set_option maxRecDepth 100000 in
theorem laid4 {W : World} (h : laidMetH Tryd.prog [("math/bits.deBruijn32tab", Rows.laid_math_bits_deBruijn32tab), ("math/bits.deBruijn64tab", Rows.laid_math_bits_deBruijn64tab), ("internal/strconv.uint64pow10", Rows.laid_internal_strconv_uint64pow10), ("errors.errorType", Rows.laid_errors_errorType)] W) : Gd W ∧ Tb W := by
  have h' : laidMet Tryd.prog [("math/bits.deBruijn32tab", Rows.laid_math_bits_deBruijn32tab), ("math/bits.deBruijn64tab", Rows.laid_math_bits_deBruijn64tab), ("internal/strconv.uint64pow10", Rows.laid_internal_strconv_uint64pow10)] W ∧ handlesMet Tryd.prog [("errors.errorType", Rows.laid_errors_errorType)] W := h
  refine ⟨gd_of_laid (show laidMetH Tryd.prog [("errors.errorType", Rows.laid_errors_errorType)] W from ⟨laidMet_nil _ _, h'.2⟩), ?_⟩
  have h3 : laidMet Tryd.prog [("internal/strconv.uint64pow10", Rows.laid_internal_strconv_uint64pow10)] W := h'.1.tail.tail
  exact Lib.tabIs_of_head (rest := []) gPow tPow Tryd.underlying159 Tryd.underlying132 (by kernel_rfl) (by kernel_rfl) h3
end Go.Proofs.YtgofggmgnodplaaDoor

/- What the rows over the library's tables give a walk: errors.errorType, and the table of powers. -/
import Derived.Test.YtdfokjjkhabneaaGreatDoorRowC
import Derived.Test.YtdfokjjkhabneaaGreatDoorP1
import Derived.Stop.LaidErr
import Derived.Lib.LaidTab
namespace Go.Proofs.YtdfokjjkhabneaaGreatDoor
open Go.ChangeShapes Go.WideShapes Go.RowKit
theorem tPow : (Tryz.prog.globals[2]?).map (·.type) = some 192 := by kernel_rfl
set_option maxRecDepth 100000 in
theorem laid4 {W : World} (h : laidMetH Tryz.prog [("math/bits.deBruijn32tab", Rows.laid_math_bits_deBruijn32tab), ("math/bits.deBruijn64tab", Rows.laid_math_bits_deBruijn64tab), ("internal/strconv.uint64pow10", Rows.laid_internal_strconv_uint64pow10), ("errors.errorType", Rows.laid_errors_errorType)] W) : Gd W ∧ Tb W := by
  have h' : laidMet Tryz.prog [("math/bits.deBruijn32tab", Rows.laid_math_bits_deBruijn32tab), ("math/bits.deBruijn64tab", Rows.laid_math_bits_deBruijn64tab), ("internal/strconv.uint64pow10", Rows.laid_internal_strconv_uint64pow10)] W ∧ handlesMet Tryz.prog [("errors.errorType", Rows.laid_errors_errorType)] W := h
  refine ⟨gd_of_laid (show laidMetH Tryz.prog [("errors.errorType", Rows.laid_errors_errorType)] W from ⟨laidMet_nil _ _, h'.2⟩), ?_⟩
  have h3 : laidMet Tryz.prog [("internal/strconv.uint64pow10", Rows.laid_internal_strconv_uint64pow10)] W := h'.1.tail.tail
  exact Lib.tabIs_of_head (rest := []) gPow tPow Tryz.underlying192 Tryz.underlying160 (by kernel_rfl) (by kernel_rfl) h3
end Go.Proofs.YtdfokjjkhabneaaGreatDoor

/- What a row over the library's three tables gives a walk: the table of powers. -/
import Derived.Test.YtbjcfkelgnehaaaDoorRowC
import Derived.Test.YtbjcfkelgnehaaaDoorP0
import Derived.Stop.LaidErr
import Derived.Lib.LaidTab
namespace Go.Proofs.YtbjcfkelgnehaaaDoor
open Go.ChangeShapes Go.WideShapes Go.RowKit
theorem tPow3 : (Tryd.prog.globals[1]?).map (·.type) = some 128 := by kernel_rfl
set_option maxRecDepth 100000 in
theorem laid3 {W : World} (h : laidMetH Tryd.prog [("math/bits.deBruijn32tab", Rows.laid_math_bits_deBruijn32tab), ("math/bits.deBruijn64tab", Rows.laid_math_bits_deBruijn64tab), ("internal/strconv.uint64pow10", Rows.laid_internal_strconv_uint64pow10)] W) : Tb W := by
  have h' : laidMet Tryd.prog [("math/bits.deBruijn32tab", Rows.laid_math_bits_deBruijn32tab), ("math/bits.deBruijn64tab", Rows.laid_math_bits_deBruijn64tab), ("internal/strconv.uint64pow10", Rows.laid_internal_strconv_uint64pow10)] W := h
  have h3 : laidMet Tryd.prog [("internal/strconv.uint64pow10", Rows.laid_internal_strconv_uint64pow10)] W := h'.tail.tail
  exact Lib.tabIs_of_head (rest := []) gPow tPow3 Tryd.underlying128 Tryd.underlying121 (by kernel_rfl) (by kernel_rfl) h3
end Go.Proofs.YtbjcfkelgnehaaaDoor

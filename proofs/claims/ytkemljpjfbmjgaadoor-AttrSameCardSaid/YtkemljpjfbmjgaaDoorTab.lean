/-
  The list of package variables that a row names gives the library's table of powers of ten.
-/
import Derived.Test.YtkemljpjfbmjgaaDoorRows
import Derived.Test.YtkemljpjfbmjgaaDoorBalD
import Derived.Stop.LaidErr
import Derived.LaidMore
namespace Go.Proofs.YtkemljpjfbmjgaaDoor.Bl
open Go.RowKit

theorem tab_type : (Tryd.prog.globals[0]?).map (·.type) = some 127 := by kernel_rfl
theorem cells54 : Tryd.prog.cellsOf 67 = 1 := by kernel_rfl
theorem cells77 : Tryd.prog.cellsOf 127 = 20 := by kernel_rfl
theorem tab_of {W : World} (h : laidMetH Tryd.prog [("math/bits.deBruijn32tab", Rows.laid_math_bits_deBruijn32tab), ("math/bits.deBruijn64tab", Rows.laid_math_bits_deBruijn64tab), ("internal/strconv.uint64pow10", Rows.laid_internal_strconv_uint64pow10)] W) : Tab W := by
  have h' : laidMet Tryd.prog [("math/bits.deBruijn32tab", Rows.laid_math_bits_deBruijn32tab), ("math/bits.deBruijn64tab", Rows.laid_math_bits_deBruijn64tab), ("internal/strconv.uint64pow10", Rows.laid_internal_strconv_uint64pow10)] W := h
  exact Lib.tabIs_of_head (rest := []) tab_at tab_type Tryd.underlying127 Tryd.underlying67 cells54 cells77 h'.tail.tail
end Go.Proofs.YtkemljpjfbmjgaaDoor.Bl

/- Texts: a copy of one, and rows of them. -/
import Derived.Test.YtabbicfakkehpaaDoorBy1
import Derived.Lib.BufferWrite
import Derived.Lib.UnsafeStr
import Derived.Laws.BytesArg
namespace Go.Proofs.YtabbicfakkehpaaDoor
open Go.RowKit
set_option linter.unusedVariables false
theorem info_byte' : (Tryd.prog.info? 5).map (·.size) = some 1 := by kernel_rfl
theorem cells_byte : Tryd.prog.cellsOf 5 = 1 := by kernel_rfl
theorem ba_empty {s : ByteArray} (h : s.size = 0) : s = ⟨#[]⟩ := ByteArray.ext (Array.eq_empty_of_size_eq_zero h)
end Go.Proofs.YtabbicfakkehpaaDoor

/- Two walks that are the same are not two by '!='. -/
import Derived.Test.YtejajlloipkkhaaJ0Z
import Derived.Laws.StructEq
namespace Go.Proofs.Ytejajlloipkkhaa
open Go.RowKit
set_option linter.unusedVariables false
theorem eqW_run (y0 y1 y2 y3 y4 y5 y6 : Int) (w : World) : (Op.equalIn 10000 32 (.agg #[.int .i64 y0, .int .i64 y1, .int .i64 y2, .int .i64 y3, .int .i64 y4, .int .i64 y5, .int .i64 y6]) (.agg #[.int .i64 y0, .int .i64 y1, .int .i64 y2, .int .i64 y3, .int .i64 y4, .int .i64 y5, .int .i64 y6])).run Try.prog w = .ok true w := by
  have hS : Try.prog.underlying 32 = some (.struct (Try.prog.fieldsOf 32)) := by kernel_rfl
  rw [show (10000 : Nat) = 9999 + 1 from rfl, run_equalIn_struct w 9999 32 _ _ hS (by kernel_rfl)]
  simp only [Program.fieldsOf, Try.underlying32]
  have u3 := Try.underlying3
  go_simp
theorem neqW_run (y0 y1 y2 y3 y4 y5 y6 : Int) (w : World) : (binOp .neq 32 (.agg #[.int .i64 y0, .int .i64 y1, .int .i64 y2, .int .i64 y3, .int .i64 y4, .int .i64 y5, .int .i64 y6]) (.agg #[.int .i64 y0, .int .i64 y1, .int .i64 y2, .int .i64 y3, .int .i64 y4, .int .i64 y5, .int .i64 y6])).run Try.prog w = .ok (.bool false) w := by
  rw [run_neq_struct, eqW_run]
  rfl
end Go.Proofs.Ytejajlloipkkhaa

/- Bytes: numbers of two bytes. -/
import Derived.Test.YtabbicfakkehpaaF7
namespace Go.Proofs.Ytabbicfakkehpaa
open Go.RowKit
set_option linter.unusedVariables false
def tw (x : Int) : List Int := [x / 256, x % 256]
theorem two_any (x : Int) (w : World) (h1 : 0 ≤ x) (h2 : x ≤ 65535) :
    Calls Try.prog 71 #[.int .i64 x] w fun e w' => e = .returned (.slice (some ⟨w.heap.size, 0, none⟩) 2 2) ∧ w' = w.alloc (.cells #[.int .u8 (x / 256), .int .u8 (x % 256)] 5) := by
  go_enter Try.func71, Try.ntmps71
  go_wp2
  trace_state
  go_ret
  exact ⟨rfl, rfl⟩
end Go.Proofs.Ytabbicfakkehpaa

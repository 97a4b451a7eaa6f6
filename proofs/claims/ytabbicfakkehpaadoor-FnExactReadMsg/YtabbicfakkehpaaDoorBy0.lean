/- Bytes: numbers of two bytes. -/
import Derived.Test.YtabbicfakkehpaaDoorF7
namespace Go.Proofs.YtabbicfakkehpaaDoor
open Go.RowKit
set_option linter.unusedVariables false
def tw (x : Int) : List Int := [x / 256, x % 256]
end Go.Proofs.YtabbicfakkehpaaDoor

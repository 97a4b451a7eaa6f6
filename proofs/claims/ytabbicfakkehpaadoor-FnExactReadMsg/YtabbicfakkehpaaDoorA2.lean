/- The contracts of the functions on arcs, in the program and in its specification. -/
import Derived.Test.YtabbicfakkehpaaDoorA1
namespace Go.Proofs.YtabbicfakkehpaaDoor
open Go.RowKit
set_option linter.unusedVariables false

end Go.Proofs.YtabbicfakkehpaaDoor

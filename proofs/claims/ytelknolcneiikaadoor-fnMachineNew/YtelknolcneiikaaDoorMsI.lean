/- laws.eqMachine -/
import Derived.Test.YtelknolcneiikaaDoorMsL
namespace Go.Proofs.YtelknolcneiikaaDoor
open Go.RowKit
set_option linter.unusedVariables false
set_option linter.unusedSimpArgs false

end Go.Proofs.YtelknolcneiikaaDoor

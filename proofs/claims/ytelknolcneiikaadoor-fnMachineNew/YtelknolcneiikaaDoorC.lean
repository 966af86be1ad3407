/- eqInt64S of two equal ones; spec.IdsOk; impl.bitsOf, impl.IdsOk -/
import Derived.Test.YtelknolcneiikaaDoorB
import Derived.Deep.QuietTactic
import Derived.BigQuiet
namespace Go.Proofs.YtelknolcneiikaaDoor
open Go.RowKit

end Go.Proofs.YtelknolcneiikaaDoor

/- spec.IdsOk -/
import Derived.Test.YtelknolcneiikaaDoorC
namespace Go.Proofs.YtelknolcneiikaaDoor
open Go.RowKit

end Go.Proofs.YtelknolcneiikaaDoor

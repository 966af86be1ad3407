/- spec.IdsOk -/
import Derived.Test.YtacgfeddbcoigaaC
namespace Go.Proofs.Ytacgfeddbcoigaa
open Go.RowKit

end Go.Proofs.Ytacgfeddbcoigaa

/- eqInt64S of two equal ones; spec.IdsOk; impl.bitsOf, impl.IdsOk -/
import Derived.Test.YtplnfddleaoimaaB
import Derived.Deep.QuietTactic
import Derived.BigQuiet
namespace Go.Proofs.Ytplnfddleaoimaa
open Go.RowKit

end Go.Proofs.Ytplnfddleaoimaa

/- eqInt64S of two equal ones; spec.IdsOk; impl.bitsOf, impl.IdsOk -/
import Derived.Test.YtofnkbpkjgapbaaB
import Derived.Deep.QuietTactic
import Derived.BigQuiet
namespace Go.Proofs.Ytofnkbpkjgapbaa
open Go.RowKit

end Go.Proofs.Ytofnkbpkjgapbaa

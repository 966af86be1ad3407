/- eqInt64S of two equal ones; spec.IdsOk; impl.bitsOf, impl.IdsOk -/
import Derived.Test.YtokekgfompbdiaaDoorB
import Derived.Deep.QuietTactic
import Derived.BigQuiet
namespace Go.Proofs.YtokekgfompbdiaaDoor
open Go.RowKit

end Go.Proofs.YtokekgfompbdiaaDoor

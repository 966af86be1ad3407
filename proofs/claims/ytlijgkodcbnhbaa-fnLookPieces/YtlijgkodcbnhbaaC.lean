/- eqInt64S of two equal ones; spec.IdsOk; impl.bitsOf, impl.IdsOk -/
import Derived.Test.YtlijgkodcbnhbaaB
import Derived.Deep.QuietTactic
import Derived.BigQuiet
namespace Go.Proofs.Ytlijgkodcbnhbaa
open Go.RowKit

end Go.Proofs.Ytlijgkodcbnhbaa

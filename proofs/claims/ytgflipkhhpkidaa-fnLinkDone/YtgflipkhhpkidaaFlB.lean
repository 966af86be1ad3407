/- szFlit, toFlit, eqFlit -/
import Derived.Test.YtgflipkhhpkidaaFlA
import Derived.Deep.RegionWith
import Derived.Deep.QuietTactic
import Derived.BigQuiet
namespace Go.Proofs.Ytgflipkhhpkidaa
open Go.RowKit
set_option linter.unusedVariables false
set_option linter.unusedSimpArgs false

end Go.Proofs.Ytgflipkhhpkidaa

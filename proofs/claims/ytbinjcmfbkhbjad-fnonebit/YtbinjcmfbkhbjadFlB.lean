/- szFlit, toFlit, eqFlit -/
import Derived.Test.YtbinjcmfbkhbjadFlA
import Derived.Deep.RegionWith
import Derived.Deep.QuietTactic
import Derived.BigQuiet
namespace Go.Proofs.Ytbinjcmfbkhbjad
open Go.RowKit
set_option linter.unusedVariables false
set_option linter.unusedSimpArgs false

end Go.Proofs.Ytbinjcmfbkhbjad

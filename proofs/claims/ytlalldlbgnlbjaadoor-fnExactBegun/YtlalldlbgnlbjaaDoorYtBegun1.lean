/- MsgC -/
import Derived.Test.YtlalldlbgnlbjaaDoorYtBegun0
/- impl's three tests of a message against a row of the table; toMsg -/
namespace Go.Proofs.YtlalldlbgnlbjaaDoor
open Go.RowKit

end Go.Proofs.YtlalldlbgnlbjaaDoor

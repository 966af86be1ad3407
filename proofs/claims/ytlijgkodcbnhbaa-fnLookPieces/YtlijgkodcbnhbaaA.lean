/- the cell of an int64 -/
import Derived.Test.YtlijgkodcbnhbaaChecked
import Derived.Test.YtlijgkodcbnhbaaView
import Derived.WalkKit
import Derived.WalkSpells
import Derived.WalkLawsBesides
namespace Go.Proofs.Ytlijgkodcbnhbaa
open Go.RowKit

theorem Try.info2 : (Try.prog.info? 2).map (fun i => (i.zero, i.size, i.bytes)) = some (some (.int .i64 0), 1, 8) := by kernel_rfl

end Go.Proofs.Ytlijgkodcbnhbaa

/- the cell of an int64 -/
import Derived.Test.YtokekgfompbdiaaDoorChecked
import Derived.Test.YtokekgfompbdiaaDoorView
import Derived.WalkKit
import Derived.WalkSpells
import Derived.WalkLawsBesides
namespace Go.Proofs.YtokekgfompbdiaaDoor
open Go.RowKit

theorem Tryd.info2 : (Tryd.prog.info? 2).map (fun i => (i.zero, i.size, i.bytes)) = some (some (.int .i64 0), 1, 8) := by kernel_rfl

end Go.Proofs.YtokekgfompbdiaaDoor

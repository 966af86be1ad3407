/- the cell of an int64 -/
import Derived.Test.YtcocobmanlmjdaaChecked
import Derived.Test.YtcocobmanlmjdaaView
import Derived.WalkKit
import Derived.WalkSpells
import Derived.WalkLawsBesides
namespace Go.Proofs.Ytcocobmanlmjdaa
open Go.RowKit

theorem Try.info2 : (Try.prog.info? 2).map (fun i => (i.zero, i.size, i.bytes)) = some (some (.int .i64 0), 1, 8) := by kernel_rfl

end Go.Proofs.Ytcocobmanlmjdaa

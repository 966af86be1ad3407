/- SlA -/
import Derived.Test.YtlalldlbgnlbjaaDoorYtBegun1
import Derived.WalkKit
import Derived.WalkSpells
import Derived.WalkLawsBesides
import Derived.Deep.Light
/- slots: the small tests; SlotOk of both sides by one Bool function; toSlot, eqSlot -/
namespace Go.Proofs.YtlalldlbgnlbjaaDoor
open Go.RowKit

theorem inB_iff {n a b : Int} : inB n a b = true ↔ a ≤ n ∧ n ≤ b := by simp [inB]

theorem keepc {w w' : World} (hb : Below w.heap.size w w') {a : Addr} {u : Value} (h : w.cell? a = some u) : w'.cell? a = some u := by
  rw [hb.cell (World.block_lt_of_cell? w a h)]; exact h

end Go.Proofs.YtlalldlbgnlbjaaDoor

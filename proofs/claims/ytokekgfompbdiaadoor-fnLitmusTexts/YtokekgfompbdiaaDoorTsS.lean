/- buffers, the small things: isBelow, buffersOk, a store copied and compared -/
import Derived.Test.YtokekgfompbdiaaDoorC
import Derived.Test.YtokekgfompbdiaaDoorChA
import Derived.Test.YtokekgfompbdiaaDoorRwA
import Derived.Test.YtokekgfompbdiaaDoorChecked
import Derived.WalkSmall
namespace Go.Proofs.YtokekgfompbdiaaDoor
open Go.RowKit
set_option linter.unusedVariables false
set_option linter.unusedSimpArgs false

theorem ret_b {a b : Bool} (h : a = b) : Ending.returned (.bool a) = .returned (.bool b) := by rw [h]
/-- from lo on, below hi -/
def inB (n lo hi : Int) : Bool := decide (lo ≤ n ∧ n < hi)

set_option maxHeartbeats 1000000 in
theorem isBelow_any (n c : Int) (w : World) : Calls Tryd.prog 55 #[.int .i64 n, .int .i64 c] w fun e w' => e = .returned (.bool (inB n 0 c)) ∧ w' = w := by
  by_cases h0 : 0 ≤ n
  · by_cases h1 : n < c
    · have HO : Hid (true = inB n 0 c) := hide (by simp [inB, h0, h1])
      go_enter Tryd.func55, Tryd.ntmps55
      go_wp2
      go_ret
      exact ⟨ret_b HO.out, rfl⟩
    · have HO : Hid (false = inB n 0 c) := hide (by simp [inB, h1])
      go_enter Tryd.func55, Tryd.ntmps55
      go_wp2
      go_ret
      exact ⟨ret_b HO.out, rfl⟩
  · have HO : Hid (false = inB n 0 c) := hide (by simp [inB, h0])
    go_enter Tryd.func55, Tryd.ntmps55
    go_wp2
    go_ret
    exact ⟨ret_b HO.out, rfl⟩

end Go.Proofs.YtokekgfompbdiaaDoor

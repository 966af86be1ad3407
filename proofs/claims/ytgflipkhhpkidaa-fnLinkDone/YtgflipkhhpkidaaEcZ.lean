/- what is returned; l1In -/
import Derived.Test.YtgflipkhhpkidaaView
import Derived.Test.YtgflipkhhpkidaaChecked
import Derived.Test.YtgflipkhhpkidaaEcM
namespace Go.Proofs.Ytgflipkhhpkidaa
open Go.RowKit

theorem ret_i {a b : Int} (h : a = b) : Ending.returned (.int .i64 a) = .returned (.int .i64 b) := by rw [h]
theorem ret_b {a b : Bool} (h : a = b) : Ending.returned (.bool a) = .returned (.bool b) := by rw [h]
theorem ret_ii {a b c d : Int} (h : a = b) (k : c = d) : Ending.returned (.tuple #[.int .i64 a, .int .i64 c]) = .returned (.tuple #[.int .i64 b, .int .i64 d]) := by rw [h, k]
theorem ret_ib {a b : Int} {c d : Bool} (h : a = b) (k : c = d) : Ending.returned (.tuple #[.int .i64 a, .bool c]) = .returned (.tuple #[.int .i64 b, .bool d]) := by rw [h, k]

def inR (n hi : Int) : Bool := decide (0 ≤ n ∧ n ≤ hi)
theorem inR_yes {n hi : Int} (h0 : 0 ≤ n) (h : n ≤ hi) : inR n hi = true := by simp [inR, h0, h]
theorem inR_no {n hi : Int} (h : ¬ (0 ≤ n ∧ n ≤ hi)) : inR n hi = false := by simp only [inR]; exact decide_eq_false h

set_option maxHeartbeats 400000 in
theorem l1In_any (n hi : Int) (w : World) : Calls Try.prog 32 #[.int .i64 n, .int .i64 0, .int .i64 hi] w fun e w' => e = .returned (.bool (inR n hi)) ∧ w' = w := by
  by_cases h0 : 0 ≤ n
  · by_cases h1 : n ≤ hi
    · have HH := hide (inR_yes h0 h1)
      go_enter Try.func32, Try.ntmps32
      go_wp2
      go_ret
      exact ⟨ret_b HH.out.symm, rfl⟩
    · have HH := hide (inR_no (n := n) (hi := hi) (by omega))
      go_enter Try.func32, Try.ntmps32
      go_wp2
      go_ret
      exact ⟨ret_b HH.out.symm, rfl⟩
  · have HH := hide (inR_no (n := n) (hi := hi) (by omega))
    go_enter Try.func32, Try.ntmps32
    go_wp2
    go_ret
    exact ⟨ret_b HH.out.symm, rfl⟩

end Go.Proofs.Ytgflipkhhpkidaa

/- szFlit, toFlit, eqFlit -/
import Derived.Test.YtbinjcmfbkhbjacFlA
import Derived.Deep.RegionWith
import Derived.Deep.QuietTactic
import Derived.BigQuiet
namespace Go.Proofs.Ytbinjcmfbkhbjac
open Go.RowKit
set_option linter.unusedVariables false
set_option linter.unusedSimpArgs false

set_option maxHeartbeats 1000000 in
theorem szFlit_any (k s : Int) (b : ByteArray) (w : World) (hb : b.size ≤ 9223372036854775807) : Calls Try.prog 11 #[.agg #[.int .i64 k, .int .i64 s, .string b], .int .i64 1048576] w fun e w' => e = .returned (.int .i64 (if 1048576 < (b.size : Int) then -1 else 1048576 - (b.size : Int))) ∧ Below w.heap.size w w' := by
  have HB := hide ((Below.refl _ w).alloc (Nat.le_refl _) (.cells #[.int .i64 k, .int .i64 s, .string b] 25))
  by_cases h : 1048576 < (b.size : Int)
  · rw [if_pos h]
    go_enter Try.func11, Try.ntmps11
    go_wp2
    go_ret
    exact ⟨rfl, HB.out⟩
  · rw [if_neg h]
    go_enter Try.func11, Try.ntmps11
    go_wp2
    go_ret
    exact ⟨rfl, HB.out⟩

set_option maxHeartbeats 1000000 in
theorem toFlit_any (k s : Int) (b : ByteArray) (w : World) : Calls Try.prog 13 #[.agg #[.int .i64 k, .int .i64 s, .string b]] w fun e w' => e = .returned (.agg #[.int .i64 k, .int .i64 s, .string b]) ∧ Below w.heap.size w w' := by
  go_enter Try.func13, Try.ntmps13
  go_wp2
  refine bodyPost_ret (v := .agg #[.int .i64 k, .int .i64 s, .string b]) (by simp [results, Try.results13, go_sem]) rfl ⟨rfl, ?_⟩
  exact (((Below.refl _ _).alloc (Nat.le_refl _) _).alloc (by simp) _).alloc (by simp; omega) _

set_option maxHeartbeats 1000000 in
theorem eqFlit_same (k s : Int) (b : ByteArray) (w : World) : Calls Try.prog 19 #[.agg #[.int .i64 k, .int .i64 s, .string b], .agg #[.int .i64 k, .int .i64 s, .string b]] w fun e w' => e = .returned (.bool true) ∧ Below w.heap.size w w' := by
  go_enter Try.func19, Try.ntmps19
  go_wp2
  go_ret
  exact ⟨rfl, ((Below.refl _ _).alloc (Nat.le_refl _) _).alloc (by simp) _⟩
end Go.Proofs.Ytbinjcmfbkhbjac

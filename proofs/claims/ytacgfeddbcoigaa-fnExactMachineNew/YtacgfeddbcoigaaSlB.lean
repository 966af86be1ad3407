/- slots: spec.SlotOk, toSlot, eqSlot -/
import Derived.Test.YtacgfeddbcoigaaSlA
namespace Go.Proofs.Ytacgfeddbcoigaa
open Go.RowKit


theorem spec_no {st d wt v : Int} (h : slB st d wt v = true) : inB st 0 3 = true ∧ inB d 0 1000000 = true ∧ inB wt 0 2 = true ∧ inB v 0 1000000 = true := by
  obtain ⟨h0, hc⟩ := slB_cases h
  simp only [inB_iff]
  omega

set_option maxHeartbeats 1000000 in
theorem eqSlot_same (st d wt v : Int) (w : World) : Calls Try.prog 29 #[.agg #[.int .i64 st, .int .i64 d, .int .i64 wt, .int .i64 v], .agg #[.int .i64 st, .int .i64 d, .int .i64 wt, .int .i64 v]] w fun e w' => e = .returned (.bool true) ∧ Below w.heap.size w w' := by
  go_enter Try.func29, Try.ntmps29
  go_wp2
  go_ret
  exact ⟨rfl, ((Below.refl _ _).alloc (Nat.le_refl _) _).alloc (by simp) _⟩

end Go.Proofs.Ytacgfeddbcoigaa

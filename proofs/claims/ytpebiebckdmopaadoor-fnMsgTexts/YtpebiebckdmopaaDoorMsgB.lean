/- spec.MsgOk -/
import Derived.Test.YtpebiebckdmopaaDoorMsgA
namespace Go.Proofs.YtpebiebckdmopaaDoor
open Go.RowKit

set_option maxHeartbeats 4000000 in
theorem specOk_any (k f t l wt d : Int) (w : World) :
    Calls Tryd.prog 19 #[.agg #[.int .i64 k, .int .i64 f, .int .i64 t, .int .i64 l, .int .i64 wt, .int .i64 d]] w fun e w' => e = .returned (.bool (okB k f t l wt d)) ∧ Below w.heap.size w w' := by
  by_cases hk : 1 ≤ k ∧ k ≤ 9
  · obtain ⟨h1, h9⟩ := hk
    have hin : inB k 1 9 = true := inB_yes h1 h9
    rcases Bool.eq_false_or_eq_true (homeB k) with hh | hh
    all_goals
      go_enter Tryd.func19, Tryd.ntmps19
      go_wp2_with (first | (go_at_call 41; refine (in_any _ _ _ _).mono ?_; rintro e w' ⟨rfl, rfl⟩) | (go_at_call 31; refine (l2Core_any _ _ h1 h9).mono ?_; rintro e w' ⟨rfl, rfl⟩) | (go_at_call 22; refine (l2Wants_any _ _ h1 h9).mono ?_; rintro e w' ⟨rfl, rfl⟩) | (go_at_call 23; refine (l2Holds_any _ _ h1 h9).mono ?_; rintro e w' ⟨rfl, rfl⟩))
      all_goals go_ret
      all_goals refine ⟨ret_bool ?_, (Below.refl _ _).alloc (Nat.le_refl _) _⟩
      all_goals go_light
      all_goals simp_all [okB, endsB, wantOkB, dataOkB, eqB]
  · have hin : inB k 1 9 = false := inB_no hk
    clear hk
    have HR : Hid (okB k f t l wt d = false) := hide (by unfold okB; rw [hin]; rfl)
    go_enter Tryd.func19, Tryd.ntmps19
    go_wp2_with (go_at_call 41; refine (in_any _ _ _ _).mono ?_; rintro e w' ⟨rfl, rfl⟩)
    go_ret
    exact ⟨ret_bool HR.out.symm, (Below.refl _ _).alloc (Nat.le_refl _) _⟩

end Go.Proofs.YtpebiebckdmopaaDoor

/- LqF -/
import Derived.Test.YtlalldlbgnlbjaaGreatDoorYomeGot30
import Derived.Deep.RegionHeld3
/- szInt64S, szReqS, szLine -/
namespace Go.Proofs.YtlalldlbgnlbjaaGreatDoor
open Go.RowKit
set_option linter.unusedVariables false
set_option linter.unusedSimpArgs false

set_option maxHeartbeats 400000 in
theorem szI_no (sa : Option Addr) (sn sc : Nat) (left : Int) (w : World) (h0 : 0 ≤ left) (hm : left ≤ 1048576) (hL : (sn : Int) ≤ 9223372036854775807) (h : left < sn) :
    Calls Tryz.prog 22 #[.slice sa sn sc, .int .i64 left] w fun e w' => e = .returned (.int .i64 (-1)) ∧ w' = w := by
  have hw : wrap64 (left - (sn : Int)) = left - sn := Go.IntWalk.wrap64_in _ (by omega)
  have hd : decide (left - (sn : Int) < 0) = true := by simp; omega
  go_enter Tryz.func22, Tryz.ntmps22
  go_wp2
  go_ret
  exact ⟨rfl, rfl⟩
set_option maxHeartbeats 400000 in
theorem szI_yes (sa : Option Addr) (sn sc : Nat) (left : Int) (w : World) (h0 : 0 ≤ left) (hm : left ≤ 1048576) (h : (sn : Int) ≤ left) :
    Calls Tryz.prog 22 #[.slice sa sn sc, .int .i64 left] w fun e w' => e = .returned (.int .i64 (left - sn)) ∧ w' = w := by
  have hw : wrap64 (left - (sn : Int)) = left - sn := Go.IntWalk.wrap64_in _ (by omega)
  have hd : decide (left - (sn : Int) < 0) = false := by simp; omega
  go_enter Tryz.func22, Tryz.ntmps22
  go_wp2
  go_ret
  exact ⟨rfl, rfl⟩
set_option maxHeartbeats 400000 in
theorem szR_no (sa : Option Addr) (sn sc : Nat) (left : Int) (w : World) (h0 : 0 ≤ left) (hm : left ≤ 1048576) (hL : (sn : Int) ≤ 9223372036854775807) (h : left < sn) :
    Calls Tryz.prog 23 #[.slice sa sn sc, .int .i64 left] w fun e w' => e = .returned (.int .i64 (-1)) ∧ w' = w := by
  have hw : wrap64 (left - (sn : Int)) = left - sn := Go.IntWalk.wrap64_in _ (by omega)
  have hd : decide (left - (sn : Int) < 0) = true := by simp; omega
  go_enter Tryz.func23, Tryz.ntmps23
  go_wp2
  go_ret
  exact ⟨rfl, rfl⟩
set_option maxHeartbeats 400000 in
theorem szR_yes (sa : Option Addr) (sn sc : Nat) (left : Int) (w : World) (h0 : 0 ≤ left) (hm : left ≤ 1048576) (h : (sn : Int) ≤ left) :
    Calls Tryz.prog 23 #[.slice sa sn sc, .int .i64 left] w fun e w' => e = .returned (.int .i64 (left - sn)) ∧ w' = w := by
  have hw : wrap64 (left - (sn : Int)) = left - sn := Go.IntWalk.wrap64_in _ (by omega)
  have hd : decide (left - (sn : Int) < 0) = false := by simp; omega
  go_enter Tryz.func23, Tryz.ntmps23
  go_wp2
  go_ret
  exact ⟨rfl, rfl⟩

/-- what szLine answers: below 0 where there is too much -/
theorem szLine_any (mem ow : Int) (sa : Option Addr) (sn sc : Nat) (bu wt ac : Int) (qa : Option Addr) (qn qc : Nat) (w : World) (hS : (sn : Int) ≤ 9223372036854775807) (hQ : (qn : Int) ≤ 9223372036854775807) :
    Calls Tryz.prog 5 #[.agg (ln7 mem ow (.slice sa sn sc) bu wt ac (.slice qa qn qc)), .int .i64 1048576] w fun e w' => Below w.heap.size w w' ∧ (e = .returned (.int .i64 (-1)) ∨ ∃ r : Int, e = .returned (.int .i64 r) ∧ 0 ≤ r ∧ sn ≤ 1048576 ∧ qn ≤ 1048576) := by
  have lb := lb_box w mem ow (.slice sa sn sc) bu wt ac (.slice qa qn qc) 25
  by_cases h1 : (1048576 : Int) < sn
  · go_enter Tryz.func5, Tryz.ntmps5
    go_wp2_with fail
    refine (szI_no sa sn sc _ _ (by decide) (by decide) hS h1).mono ?_
    rintro e w1 ⟨rfl, rfl⟩
    go_wp2
    go_ret
    exact ⟨lb.1, .inl rfl⟩
  · have hd1 : decide ((1048576 : Int) - sn < 0) = false := by simp; omega
    by_cases h2 : (1048576 : Int) - sn < qn
    · go_enter Tryz.func5, Tryz.ntmps5
      go_wp2_with fail
      refine (szI_yes sa sn sc _ _ (by decide) (by decide) (by omega)).mono ?_
      rintro e w1 ⟨rfl, rfl⟩
      go_wp2_with fail
      refine (szR_no qa qn qc _ _ (by omega) (by omega) hQ h2).mono ?_
      rintro e w1 ⟨rfl, rfl⟩
      go_wp2
      go_ret
      exact ⟨lb.1, .inl rfl⟩
    · have hd2 : decide ((1048576 : Int) - sn - qn < 0) = false := by simp; omega
      go_enter Tryz.func5, Tryz.ntmps5
      go_wp2_with fail
      refine (szI_yes sa sn sc _ _ (by decide) (by decide) (by omega)).mono ?_
      rintro e w1 ⟨rfl, rfl⟩
      go_wp2_with fail
      refine (szR_yes qa qn qc _ _ (by omega) (by omega) (by omega)).mono ?_
      rintro e w1 ⟨rfl, rfl⟩
      go_wp2
      go_ret
      exact ⟨lb.1, .inr ⟨_, rfl, by omega, by omega, by omega⟩⟩

end Go.Proofs.YtlalldlbgnlbjaaGreatDoor

/- l7Pow -/
import Derived.Test.YtbinjcmfbkhbjacEcZ
namespace Go.Proofs.Ytbinjcmfbkhbjac
open Go.RowKit

theorem pow_lt20 (k : Nat) (h : k < 20) : 2 ^ k < 1048576 := Nat.pow_lt_pow_of_lt (m := 20) (by decide) h

set_option maxHeartbeats 1000000 in
theorem l7Pow_any (b : Nat) (w : World) (hb : b < 20) : Calls Try.prog 37 #[.int .i64 b] w fun e w' => e = .returned (.int .i64 ((2 ^ b : Nat) : Int)) ∧ w' = w := by
  have HW := hide (fun k => pow_lt20 k)
  go_enter Try.func37, Try.ntmps37
  go_wp2
  go_loop [3, 4] (fun s i => ∃ (k p : Nat), k ≤ b ∧ i = .int .i64 k ∧ s = .int .i64 p ∧ p < 1048576 ∧ Hid (p = 2 ^ k)) (fun _ i => b - (intOf i).toNat)
  case atStart => exact ⟨0, 1, by omega, rfl, rfl, by omega, hide rfl⟩
  case round =>
    obtain ⟨k, p, hk, rfl, rfl, hp, HP⟩ := hrel
    by_cases hlt : k < b
    · go_wp2
      go_round
      case rel =>
        have e2 : 2 * p = 2 ^ (k + 1) := by rw [HP.out, Nat.pow_succ]; omega
        refine ⟨k + 1, 2 * p, by omega, by go_num, by go_num, ?_, hide e2⟩
        rw [e2]; exact HW.out (k + 1) (by omega)
      case measure => simp [intOf]; omega
    · have e : k = b := by omega
      subst e
      go_wp2
      go_ret
      exact ⟨ret_i (congrArg Nat.cast HP.out), rfl⟩

end Go.Proofs.Ytbinjcmfbkhbjac

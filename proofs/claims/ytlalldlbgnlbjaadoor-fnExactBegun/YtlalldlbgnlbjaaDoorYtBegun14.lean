/- C -/
import Derived.Test.YtlalldlbgnlbjaaDoorYtBegun13
import Derived.Deep.QuietTactic
import Derived.BigQuiet
/- eqInt64S of two equal ones; spec.IdsOk; impl.bitsOf, impl.IdsOk -/
namespace Go.Proofs.YtlalldlbgnlbjaaDoor
open Go.RowKit

set_option maxHeartbeats 400000 in
theorem eq_same (a b : Value) (zs : List Int) (w : World) (ha : Sl w a zs) (hb : Sl w b zs) (hl : zs.length ≤ 1048576) :
    Calls Tryd.prog 37 #[a, b] w fun e w' => e = .returned (.bool true) ∧ Below w.heap.size w w' := by
  obtain ⟨ad, cap, rfl, ha⟩ := ha
  obtain ⟨bd, cbp, rfl, hb⟩ := hb
  obtain ⟨n, hn⟩ : ∃ n, zs.length = n := ⟨_, rfl⟩
  rw [hn] at ha hb hl ⊢
  clear hn
  go_enter Tryd.func37, Tryd.ntmps37
  go_wp2
  go_loopw [5] (fun i wr => ∃ k : Nat, k ≤ n ∧ i = .int .i64 k ∧ Below w.heap.size w wr) (fun i _ => n - (intOf i).toNat)
  case atStart => exact ⟨0, Nat.zero_le _, rfl, Below.refl _ _⟩
  case round =>
    obtain ⟨k, hk, rfl, hbk⟩ := hrel
    by_cases hlt : k < n
    · obtain ⟨p, off, rfl, hc⟩ := ha (by omega)
      obtain ⟨q, off', rfl, hd⟩ := hb (by omega)
      have hck : wr.cell? ⟨p, off + k, none⟩ = some (.int .i64 (zs.getD k 0)) := Below.keep hbk _ _ (hc k hlt)
      have hdk : wr.cell? ⟨q, off' + k, none⟩ = some (.int .i64 (zs.getD k 0)) := Below.keep hbk _ _ (hd k hlt)
      generalize zs.getD k 0 = z at hck hdk
      clear hc hd ha hb
      go_wp2
      go_quiet (fail)
      all_goals go_wp2
      all_goals go_roundw
      case rel => exact ⟨k + 1, by omega, by go_num, below_drewN hbk _⟩
      case measure => simp [intOf]; omega
    · go_wp2
      go_ret
      exact ⟨rfl, hbk⟩

end Go.Proofs.YtlalldlbgnlbjaaDoor

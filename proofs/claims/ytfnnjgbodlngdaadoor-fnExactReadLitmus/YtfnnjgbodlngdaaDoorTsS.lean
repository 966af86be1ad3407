/- buffers, the small things: isBelow, buffersOk, a store copied and compared -/
import Derived.Test.YtfnnjgbodlngdaaDoorC
import Derived.Test.YtfnnjgbodlngdaaDoorChA
import Derived.Test.YtfnnjgbodlngdaaDoorRwA
import Derived.Test.YtfnnjgbodlngdaaDoorChecked
import Derived.WalkSmall
namespace Go.Proofs.YtfnnjgbodlngdaaDoor
open Go.RowKit
set_option linter.unusedVariables false
set_option linter.unusedSimpArgs false

theorem ret_b {a b : Bool} (h : a = b) : Ending.returned (.bool a) = .returned (.bool b) := by rw [h]
/-- from lo on, below hi -/
def inB (n lo hi : Int) : Bool := decide (lo ≤ n ∧ n < hi)

set_option maxHeartbeats 1000000 in
theorem isBelow_any (n c : Int) (w : World) : Calls Tryd.prog 80 #[.int .i64 n, .int .i64 c] w fun e w' => e = .returned (.bool (inB n 0 c)) ∧ w' = w := by
  by_cases h0 : 0 ≤ n
  · by_cases h1 : n < c
    · have HO : Hid (true = inB n 0 c) := hide (by simp [inB, h0, h1])
      go_enter Tryd.func80, Tryd.ntmps80
      go_wp2
      go_ret
      exact ⟨ret_b HO.out, rfl⟩
    · have HO : Hid (false = inB n 0 c) := hide (by simp [inB, h1])
      go_enter Tryd.func80, Tryd.ntmps80
      go_wp2
      go_ret
      exact ⟨ret_b HO.out, rfl⟩
  · have HO : Hid (false = inB n 0 c) := hide (by simp [inB, h0])
    go_enter Tryd.func80, Tryd.ntmps80
    go_wp2
    go_ret
    exact ⟨ret_b HO.out, rfl⟩

set_option maxHeartbeats 1000000 in
theorem buffersOk_any (n : Int) (w : World) : Calls Tryd.prog 61 #[.int .i64 n] w fun e w' => e = .returned (.bool (inB n 1 4)) ∧ w' = w := by
  by_cases h0 : 1 ≤ n
  · by_cases h1 : n ≤ 3
    · have HO : Hid (true = inB n 1 4) := hide (by simp [inB, h0]; omega)
      go_enter Tryd.func61, Tryd.ntmps61
      go_wp2
      go_ret
      exact ⟨ret_b HO.out, rfl⟩
    · have HO : Hid (false = inB n 1 4) := hide (by simp [inB]; omega)
      go_enter Tryd.func61, Tryd.ntmps61
      go_wp2
      go_ret
      exact ⟨ret_b HO.out, rfl⟩
  · have HO : Hid (false = inB n 1 4) := hide (by simp [inB]; omega)
    go_enter Tryd.func61, Tryd.ntmps61
    go_wp2
    go_ret
    exact ⟨ret_b HO.out, rfl⟩

set_option maxHeartbeats 1000000 in
theorem toStore_any (u a : Int) (w : World) : Calls Tryd.prog 79 #[.agg #[.int .i64 u, .int .i64 a]] w fun e w' => e = .returned (.agg #[.int .i64 u, .int .i64 a]) ∧ Below w.heap.size w w' := by
  go_enter Tryd.func79, Tryd.ntmps79
  go_wp2
  refine bodyPost_ret (v := .agg #[.int .i64 u, .int .i64 a]) (by simp [results, Tryd.results79, go_sem]) rfl ⟨rfl, ?_⟩
  repeat' (first | exact Below.refl _ _ | refine Below.setCell ?_ (by simp <;> omega) _ | refine Below.alloc ?_ (by simp <;> omega) _)

set_option maxHeartbeats 1000000 in
theorem eqStore_same (u a : Int) (w : World) : Calls Tryd.prog 82 #[.agg #[.int .i64 u, .int .i64 a], .agg #[.int .i64 u, .int .i64 a]] w fun e w' => e = .returned (.bool true) ∧ Below w.heap.size w w' := by
  go_enter Tryd.func82, Tryd.ntmps82
  go_wp2
  go_ret
  exact ⟨rfl, ((Below.refl _ _).alloc (Nat.le_refl _) _).alloc (by simp) _⟩

/-- so many digits, each below ten -/
def digB (zs : List Int) (c : Nat) : Bool := decide (zs.length = c) && decide (∀ j, j < zs.length → inB (zs.getD j 0) 0 10 = true)
set_option maxHeartbeats 1000000 in
theorem digitsOk_any (v : Value) (zs : List Int) (c : Nat) (w : World) (hz : Sl w v zs) (hc : c ≤ 3) :
    Calls Tryd.prog 63 #[v, .int .i64 c] w fun e w' => e = .returned (.bool (digB zs c)) ∧ w' = w := by
  obtain ⟨az, cz, rfl, hzz⟩ := hz
  by_cases hl : zs.length = c
  case neg =>
    have HO : Hid (false = digB zs c) := hide (by simp [digB, hl])
    have hne : ¬ (zs.length : Int) = (c : Int) := by omega
    clear hzz
    go_enter Tryd.func63, Tryd.ntmps63
    go_wp2
    go_ret
    exact ⟨ret_b HO.out, rfl⟩
  obtain ⟨z, hzf⟩ : ∃ z : Nat → Int, z = fun j => zs.getD j 0 := ⟨_, rfl⟩
  have HD : Hid (digB zs c = decide (∀ j, j < c → inB (z j) 0 10 = true)) := hide (by subst hzf; simp [digB, hl])
  rw [hl] at hzz
  rw [hl]
  have hcz : 0 < c → ∃ b off, az = some ⟨b, off, none⟩ ∧ ∀ j, j < c → w.cell? ⟨b, off + j, none⟩ = some (.int .i64 (z j)) := fun h => by subst hzf; exact hzz h
  clear hzz hl hzf
  go_enter Tryd.func63, Tryd.ntmps63
  go_wp2
  go_loopw [13] (fun i wr => ∃ k : Nat, k ≤ c ∧ i = .int .i64 k ∧ wr = w ∧ Hid (∀ j, j < k → inB (z j) 0 10 = true)) (fun i _ => c - (intOf i).toNat)
  case atStart => exact ⟨0, Nat.zero_le _, rfl, rfl, hide (fun j hj => by omega)⟩
  case round =>
    obtain ⟨k, hk, rfl, rfl, HA⟩ := hrel
    by_cases hlt : k < c
    · obtain ⟨bz, oz, rfl, hcc⟩ := hcz (by omega)
      have hck := hcc k hlt
      have hA := fun w => isBelow_any (z k) 10 w
      cases hx : inB (z k) 0 10
      · have HO : Hid (false = digB zs c) := hide (by rw [HD.out, decide_eq_false]; intro hh; rw [hh k hlt] at hx; cases hx)
        rw [hx] at hA
        clear hx hcc hcz
        generalize z k = zk at hck hA
        go_wp2_with fail
        refine (hA _).mono ?_
        rintro e w2 ⟨rfl, rfl⟩
        go_wp2
        go_ret
        exact ⟨ret_b HO.out, rfl⟩
      · have HA2 : Hid (∀ j, j < k + 1 → inB (z j) 0 10 = true) := hide (fun j hj => by
          by_cases e : j = k
          · rw [e]; exact hx
          · exact HA.out j (by omega))
        rw [hx] at hA
        clear hx hcc hcz HA
        generalize z k = zk at hck hA
        go_wp2_with fail
        refine (hA _).mono ?_
        rintro e w2 ⟨rfl, rfl⟩
        go_wp2
        go_roundw
        case rel => exact ⟨k + 1, by omega, by go_num, by first | rfl | trivial, HA2⟩
        case measure => simp [intOf]; omega
    · have e : k = c := by omega
      subst e
      have HO : Hid (true = digB zs k) := hide (by rw [HD.out, decide_eq_true HA.out])
      clear hcz
      go_wp2
      go_ret
      exact ⟨ret_b HO.out, rfl⟩

end Go.Proofs.YtfnnjgbodlngdaaDoor

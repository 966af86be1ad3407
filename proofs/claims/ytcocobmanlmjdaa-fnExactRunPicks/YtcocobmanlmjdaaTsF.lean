/- spec.TsoOk -/
import Derived.Test.YtcocobmanlmjdaaTsE
namespace Go.Proofs.Ytcocobmanlmjdaa
open Go.RowKit
set_option linter.unusedVariables false
set_option linter.unusedSimpArgs false

set_option maxHeartbeats 1000000 in
theorem l1InB (n lo hi : Int) (w : World) : Calls Try.prog 20 #[.int .i64 n, .int .i64 lo, .int .i64 hi] w fun e w' => e = .returned (.bool (inB n lo (hi + 1))) ∧ w' = w := by
  by_cases h0 : lo ≤ n
  · by_cases h1 : n ≤ hi
    · have HO : Hid (true = inB n lo (hi + 1)) := hide (by simp [inB, h0]; omega)
      go_enter Try.func20, Try.ntmps20
      go_wp2
      go_ret
      exact ⟨ret_b HO.out, rfl⟩
    · have HO : Hid (false = inB n lo (hi + 1)) := hide (by simp [inB]; omega)
      go_enter Try.func20, Try.ntmps20
      go_wp2
      go_ret
      exact ⟨ret_b HO.out, rfl⟩
  · have HO : Hid (false = inB n lo (hi + 1)) := hide (by simp [inB]; omega)
    go_enter Try.func20, Try.ntmps20
    go_wp2
    go_ret
    exact ⟨ret_b HO.out, rfl⟩

theorem digB_no {zs : List Int} {c k : Nat} (hl : zs.length = c) (hk : k < c) (h : inB (zs.getD k 0) 0 10 = false) : digB zs c = false := by
  rw [digB, all_no (p := fun j => inB (zs.getD j 0) 0 10) (n := zs.length) (by omega) h, Bool.and_false]
theorem digB_yes {zs : List Int} {c : Nat} (hl : zs.length = c) (h : ∀ j, j < c → inB (zs.getD j 0) 0 10 = true) : digB zs c = true := by
  rw [digB, decide_eq_true hl, decide_eq_true (fun j hj => h j (by omega))]; rfl
theorem stB_no {n k : Nat} {f : Nat → Nat → Int} (hk : k < n) (h : (inB (f k 0) 0 3 && inB (f k 1) 0 10) = false) : stB n f = false := by
  rw [stB, all_no (p := fun j => inB (f j 0) 0 3 && inB (f j 1) 0 10) hk h, Bool.and_false]
theorem stB_yes {n : Nat} {f : Nat → Nat → Int} (hn : n ≤ 4) (h : ∀ j, j < n → (inB (f j 0) 0 3 && inB (f j 1) 0 10) = true) : stB n f = true := by
  rw [stB, decide_eq_true hn, decide_eq_true h]; rfl

end Go.Proofs.Ytcocobmanlmjdaa

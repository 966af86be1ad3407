/- spec: l1In, l9Bit, l9Set -/
import Derived.Test.YtlijgkodcbnhbaaPlA
import Derived.Deep.RegionHeld3
namespace Go.Proofs.Ytlijgkodcbnhbaa
open Go.RowKit

set_option maxHeartbeats 400000 in
theorem l1In_any (n hi : Int) (w : World) : Calls Try.prog 18 #[.int .i64 n, .int .i64 0, .int .i64 hi] w fun e w' => e = .returned (.bool (inR n hi)) ∧ w' = w := by
  by_cases h0 : 0 ≤ n
  · by_cases h1 : n ≤ hi
    · have HH := hide (inR_yes h0 h1)
      go_enter Try.func18, Try.ntmps18
      go_wp2
      go_ret
      exact ⟨ret_b HH.out.symm, rfl⟩
    · have HH := hide (inR_no (n := n) (hi := hi) (by omega))
      go_enter Try.func18, Try.ntmps18
      go_wp2
      go_ret
      exact ⟨ret_b HH.out.symm, rfl⟩
  · have HH := hide (inR_no (n := n) (hi := hi) (by omega))
    go_enter Try.func18, Try.ntmps18
    go_wp2
    go_ret
    exact ⟨ret_b HH.out.symm, rfl⟩

theorem wr {z : Int} (h0 : -100 ≤ z) (h1 : z ≤ 100) : IntKind.i64.wrap z = z := Go.IntWalk.i64_in z (by omega)

theorem three (k : Nat) (h : k < 3) : k = 0 ∨ k = 1 ∨ k = 2 := by omega

set_option maxHeartbeats 400000 in
theorem l9Bit_any (b k : Nat) (w : World) (hb : b < 8) (hk : k < 3) : Calls Try.prog 38 #[.int .i64 b, .int .i64 k] w fun e w' => e = .returned (.int .i64 ((b / 2 ^ k % 2 : Nat) : Int)) ∧ Below w.heap.size w w' := by
  rcases three k hk with rfl | rfl | rfl
  all_goals go_enter Try.func38, Try.ntmps38
  all_goals go_wp2
  all_goals go_ret
  all_goals refine ⟨ret_i ?_, (Below.refl _ _).alloc (Nat.le_refl _) _⟩
  all_goals omega

theorem lit_kept {W w2 : World} (hb : Below (W.alloc (.cells #[.int .i64 1, .int .i64 2, .int .i64 4] 2)).drew.heap.size (W.alloc (.cells #[.int .i64 1, .int .i64 2, .int .i64 4] 2)).drew w2) :
    w2.cell? ⟨W.heap.size, 0, none⟩ = some (.int .i64 1) ∧ w2.cell? ⟨W.heap.size, 1, none⟩ = some (.int .i64 2) ∧ w2.cell? ⟨W.heap.size, 2, none⟩ = some (.int .i64 4) := by
  have h : w2.heap[W.heap.size]? = some (.cells #[.int .i64 1, .int .i64 2, .int .i64 4] 2 (0, 0)) := (hb.block W.heap.size (by simp)).trans (heap_alloc_new _ _)
  exact ⟨cell_of_row _ _ 0 _ _ _ h, cell_of_row _ _ 1 _ _ _ h, cell_of_row _ _ 2 _ _ _ h⟩

set_option maxHeartbeats 1000000 in
theorem l9Set_any (b k t : Nat) (w : World) (hb : b < 8) (hk : k < 3) (ht : t < 2) : Calls Try.prog 39 #[.int .i64 b, .int .i64 k, .int .i64 t] w fun e w' => e = .returned (.int .i64 (Plru.wb b k t : Nat)) ∧ Below w.heap.size w w' := by
  have hl := fun w => l9Bit_any b k w hb hk
  have hx : b / 2 ^ k % 2 < 2 := Nat.mod_lt _ (by decide)
  have HW : Hid ((Plru.wb b k t : Int) = b + (t - (b / 2 ^ k % 2 : Nat)) * 2 ^ k) := hide (by
    have h : ∀ (b : Fin 8) (k : Fin 3) (t : Fin 2), (Plru.wb b k t : Int) = b + (t - (b / 2 ^ (k : Nat) % 2 : Nat)) * 2 ^ (k : Nat) := by decide +kernel
    exact h ⟨b, hb⟩ ⟨k, hk⟩ ⟨t, ht⟩)
  generalize b / 2 ^ k % 2 = x at hl hx HW
  rcases three k hk with rfl | rfl | rfl
  all_goals go_enter Try.func39, Try.ntmps39
  all_goals go_wp2
  all_goals go_region_with (go_at_call 38; refine (hl _).mono ?_; rintro e w2 ⟨rfl, hb2⟩; (first | (have hq := lit_kept hb2; obtain ⟨q0, q1, q2⟩ := hq) | skip))
  all_goals go_wp2
  all_goals go_ret
  all_goals refine ⟨ret_i ?_, ?_⟩
  any_goals (rw [HW.out, wr (z := (t : Int) - x) (by omega) (by omega)])
  any_goals (rw [wr (z := (t : Int) - x) (by omega) (by omega)])
  any_goals (rw [wr (z := ((t : Int) - x) * 2) (by omega) (by omega)])
  any_goals (rw [wr (z := ((t : Int) - x) * 4) (by omega) (by omega)])
  any_goals (rw [wr (by omega) (by omega)]; omega)
  all_goals have hbX : Below w.heap.size w w2 := (show Below w.heap.size w _ by (repeat' (first | exact Below.refl _ _ | refine Below.drew ?_ | refine Below.alloc ?_ (by simp) _))).trans (hb2.mono (by simp))
  all_goals first | exact hbX | exact hbX.alloc hbX.size _

end Go.Proofs.Ytlijgkodcbnhbaa

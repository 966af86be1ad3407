/- impl: isPlru, isWay, bitAt, withBit, placeOfHalf, PlruTouched, PlruVictim -/
import Derived.Test.YtlijgkodcbnhbaaView
import Derived.Test.YtlijgkodcbnhbaaChecked
import Derived.BigQuiet
import Derived.WalkSmall
namespace Go.Proofs.Ytlijgkodcbnhbaa
open Go.RowKit

theorem ret_i {a b : Int} (h : a = b) : Ending.returned (.int .i64 a) = .returned (.int .i64 b) := by rw [h]
theorem ret_b {a b : Bool} (h : a = b) : Ending.returned (.bool a) = .returned (.bool b) := by rw [h]

def inR (n hi : Int) : Bool := decide (0 ≤ n ∧ n ≤ hi)
theorem inR_yes {n hi : Int} (h0 : 0 ≤ n) (h : n ≤ hi) : inR n hi = true := by simp [inR, h0, h]
theorem inR_no {n hi : Int} (h : ¬ (0 ≤ n ∧ n ≤ hi)) : inR n hi = false := by simp only [inR]; exact decide_eq_false h

namespace Plru
def wb (n p t : Nat) : Nat := n - (n / 2 ^ p % 2) * 2 ^ p + t * 2 ^ p
def touch (b k : Nat) : Nat := wb (wb b 0 (1 - k / 2)) (1 + k / 2) (1 - k % 2)
def victim (b : Nat) : Nat := 2 * (b % 2) + b / 2 ^ (1 + b % 2) % 2
theorem wb_lt : ∀ (n : Fin 8) (p : Fin 3) (t : Fin 2), wb n p t < 8 := by decide +kernel
theorem touch_lt : ∀ (b : Fin 8) (k : Fin 4), touch b k < 8 := by decide +kernel
theorem victim_lt : ∀ (b : Fin 8), victim b < 4 := by decide +kernel
end Plru

set_option maxHeartbeats 400000 in
theorem isPlru_any (n : Int) (w : World) : Calls Try.prog 35 #[.int .i64 n] w fun e w' => e = .returned (.bool (inR n 7)) ∧ w' = w := by
  by_cases h0 : 0 ≤ n
  · by_cases h1 : n ≤ 7
    · have HH := hide (inR_yes h0 h1)
      go_enter Try.func35, Try.ntmps35
      go_wp2
      go_ret
      exact ⟨ret_b HH.out.symm, rfl⟩
    · have HH := hide (inR_no (n := n) (hi := 7) (by omega))
      go_enter Try.func35, Try.ntmps35
      go_wp2
      go_ret
      exact ⟨ret_b HH.out.symm, rfl⟩
  · have HH := hide (inR_no (n := n) (hi := 7) (by omega))
    go_enter Try.func35, Try.ntmps35
    go_wp2
    go_ret
    exact ⟨ret_b HH.out.symm, rfl⟩

set_option maxHeartbeats 400000 in
theorem isWay_any (n : Int) (w : World) : Calls Try.prog 43 #[.int .i64 n] w fun e w' => e = .returned (.bool (inR n 3)) ∧ w' = w := by
  by_cases h0 : 0 ≤ n
  · have HH : Hid (decide (n < 4) = inR n 3) := hide (by
      by_cases h1 : n ≤ 3
      · rw [inR_yes h0 h1]; exact decide_eq_true (by omega)
      · rw [inR_no (by omega)]; exact decide_eq_false (by omega))
    go_enter Try.func43, Try.ntmps43
    go_wp2
    go_ret
    exact ⟨ret_b HH.out, rfl⟩
  · have HH := hide (inR_no (n := n) (hi := 3) (by omega))
    go_enter Try.func43, Try.ntmps43
    go_wp2
    go_ret
    exact ⟨ret_b HH.out.symm, rfl⟩

set_option maxHeartbeats 400000 in
theorem bitAt_any (n k : Nat) (w : World) (hn : n < 8) (hk : k < 3) : Calls Try.prog 46 #[.int .i64 n, .int .i64 k] w fun e w' => e = .returned (.int .i64 ((n / 2 ^ k % 2 : Nat) : Int)) ∧ w' = w := by
  go_enter Try.func46, Try.ntmps46
  go_wp2
  go_ret
  refine ⟨ret_i ?_, rfl⟩
  have h : ∀ (n : Fin 8) (k : Fin 3), bits .and .i64 ((n : Int) / 2 ^ (k : Nat)) 1 = ((n / 2 ^ (k : Nat) % 2 : Nat) : Int) := by decide +kernel
  exact h ⟨n, hn⟩ ⟨k, hk⟩

set_option maxHeartbeats 400000 in
theorem withBit_any (n p t : Nat) (w : World) (hn : n < 8) (hp : p < 3) (ht : t < 2) : Calls Try.prog 44 #[.int .i64 n, .int .i64 p, .int .i64 t] w fun e w' => e = .returned (.int .i64 (Plru.wb n p t : Nat)) ∧ Below w.heap.size w w' := by
  go_enter Try.func44, Try.ntmps44
  go_wp2
  go_quiet (fail)
  all_goals go_wp2
  go_ret
  refine ⟨ret_i ?_, below_drewN (Below.refl _ _) _⟩
  have h : ∀ (n : Fin 8) (p : Fin 3) (t : Fin 2), bits BinOp.or IntKind.i64 (bits BinOp.andNot IntKind.i64 (n : Int) (wrap64 (2 ^ (p : Nat)))) (wrap64 ((t : Int) * 2 ^ (p : Nat))) = (Plru.wb n p t : Nat) := by decide +kernel
  exact h ⟨n, hn⟩ ⟨p, hp⟩ ⟨t, ht⟩

set_option maxHeartbeats 400000 in
theorem place_any (k : Nat) (w : World) (hk : k < 2) : Calls Try.prog 45 #[.int .i64 k] w fun e w' => e = .returned (.int .i64 ((1 + k : Nat) : Int)) ∧ w' = w := by
  go_enter Try.func45, Try.ntmps45
  go_wp2
  go_ret
  exact ⟨ret_i (by omega), rfl⟩

theorem half_cases (k : Nat) (h : k < 4) : k = 0 ∨ k = 1 ∨ k = 2 ∨ k = 3 := by omega
theorem bits_cases (b : Nat) (h : b < 8) : b = 0 ∨ b = 1 ∨ b = 2 ∨ b = 3 ∨ b = 4 ∨ b = 5 ∨ b = 6 ∨ b = 7 := by omega

set_option maxHeartbeats 1000000 in
theorem touched_any (b k : Nat) (w : World) (hb : b < 8) (hk : k < 4) : Calls Try.prog 37 #[.int .i64 b, .int .i64 k] w fun e w' => e = .returned (.int .i64 (Plru.touch b k : Nat)) ∧ Below w.heap.size w w' := by
  have h1 := fun w => isPlru_any (b : Int) w
  rw [inR_yes (by omega) (by omega)] at h1
  have h2 := fun w => isWay_any (k : Int) w
  rw [inR_yes (by omega) (by omega)] at h2
  have h3 := fun w => withBit_any b 0 (1 - k / 2) w hb (by omega) (by omega)
  have hx := Plru.wb_lt ⟨b, hb⟩ ⟨0, by omega⟩ ⟨1 - k / 2, by omega⟩
  simp only [] at hx
  have h4 := fun w => withBit_any (Plru.wb b 0 (1 - k / 2)) (1 + k / 2) (1 - k % 2) w hx (by omega) (by omega)
  have HT : Hid (Plru.touch b k = Plru.wb (Plru.wb b 0 (1 - k / 2)) (1 + k / 2) (1 - k % 2)) := hide rfl
  generalize Plru.wb b 0 (1 - k / 2) = x at h3 h4 hx HT
  generalize Plru.wb x (1 + k / 2) (1 - k % 2) = y at h4 HT
  rw [HT.out]
  clear hx HT
  have h5 := fun w => place_any (k / 2) w (by omega)
  rcases half_cases k hk with rfl | rfl | rfl | rfl
  all_goals go_enter Try.func37, Try.ntmps37
  all_goals go_wp2_with (first | (go_at_call 35; refine (h1 _).mono ?_; rintro e w' ⟨rfl, rfl⟩) | (go_at_call 43; refine (h2 _).mono ?_; rintro e w' ⟨rfl, rfl⟩) | fail)
  all_goals refine (h3 _).mono ?_
  all_goals rintro e w1 ⟨rfl, hb1⟩
  all_goals go_wp2_with fail
  all_goals refine (h5 _).mono ?_
  all_goals rintro e w2 ⟨rfl, rfl⟩
  all_goals go_wp2_with fail
  all_goals refine (h4 _).mono ?_
  all_goals rintro e w3 ⟨rfl, hb3⟩
  all_goals go_wp2
  all_goals go_ret
  all_goals exact ⟨rfl, hb1.trans (hb3.mono hb1.size)⟩

set_option maxHeartbeats 1000000 in
theorem touched_none (b k : Int) (w : World) (h : ¬ (0 ≤ b ∧ b ≤ 7 ∧ 0 ≤ k ∧ k ≤ 3)) : Calls Try.prog 37 #[.int .i64 b, .int .i64 k] w fun e w' => e = .returned (.int .i64 (-1)) ∧ Below w.heap.size w w' := by
  have h1 := fun w => isPlru_any b w
  have h2 := fun w => isWay_any k w
  by_cases hb : 0 ≤ b ∧ b ≤ 7
  · rw [inR_yes hb.1 hb.2] at h1
    rw [inR_no (by omega)] at h2
    clear h hb
    go_enter Try.func37, Try.ntmps37
    go_wp2_with (first | (go_at_call 35; refine (h1 _).mono ?_; rintro e w' ⟨rfl, rfl⟩) | (go_at_call 43; refine (h2 _).mono ?_; rintro e w' ⟨rfl, rfl⟩))
    go_ret
    exact ⟨rfl, Below.refl _ _⟩
  · rw [inR_no hb] at h1
    clear h hb
    go_enter Try.func37, Try.ntmps37
    go_wp2_with (first | (go_at_call 35; refine (h1 _).mono ?_; rintro e w' ⟨rfl, rfl⟩))
    go_ret
    exact ⟨rfl, Below.refl _ _⟩

set_option maxHeartbeats 1000000 in
theorem victim_any (b : Nat) (w : World) (hb : b < 8) : Calls Try.prog 42 #[.int .i64 b] w fun e w' => e = .returned (.int .i64 (Plru.victim b : Nat)) ∧ w' = w := by
  have h1 := fun w => isPlru_any (b : Int) w
  rw [inR_yes (by omega) (by omega)] at h1
  have h2 := fun w => bitAt_any b 0 w hb (by omega)
  have h3 := fun w => bitAt_any b (1 + b % 2) w hb (by omega)
  have h4 := fun w => place_any (b % 2) w (by omega)
  have e0 : b / 2 ^ 0 % 2 = b % 2 := by simp
  rw [e0] at h2
  have HV : Hid (Plru.victim b = 2 * (b % 2) + b / 2 ^ (1 + b % 2) % 2) := hide rfl
  have hx : b / 2 ^ (1 + b % 2) % 2 < 2 := Nat.mod_lt _ (by decide)
  have hy : b % 2 < 2 := Nat.mod_lt _ (by decide)
  generalize b / 2 ^ (1 + b % 2) % 2 = x at h3 HV hx
  generalize b % 2 = y at h2 h3 h4 HV hy
  rw [HV.out]
  clear HV e0
  go_enter Try.func42, Try.ntmps42
  go_wp2_with (first | (go_at_call 35; refine (h1 _).mono ?_; rintro e w' ⟨rfl, rfl⟩) | fail)
  refine (h2 _).mono ?_
  rintro e w1 ⟨rfl, rfl⟩
  go_wp2_with fail
  refine (h4 _).mono ?_
  rintro e w2 ⟨rfl, rfl⟩
  go_wp2_with fail
  refine (h3 _).mono ?_
  rintro e w3 ⟨rfl, rfl⟩
  go_wp2
  go_ret
  exact ⟨ret_i (by omega), rfl⟩

set_option maxHeartbeats 1000000 in
theorem victim_none (b : Int) (w : World) (h : ¬ (0 ≤ b ∧ b ≤ 7)) : Calls Try.prog 42 #[.int .i64 b] w fun e w' => e = .returned (.int .i64 (-1)) ∧ w' = w := by
  have h1 := fun w => isPlru_any b w
  rw [inR_no h] at h1
  clear h
  go_enter Try.func42, Try.ntmps42
  go_wp2_with (go_at_call 35; refine (h1 _).mono ?_; rintro e w' ⟨rfl, rfl⟩)
  go_ret
  exact ⟨rfl, rfl⟩

end Go.Proofs.Ytlijgkodcbnhbaa

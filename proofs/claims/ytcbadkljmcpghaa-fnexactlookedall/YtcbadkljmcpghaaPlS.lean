/- spec: l9Touch, l9Victim, PlruTouched, PlruVictim -/
import Derived.Test.YtcbadkljmcpghaaPlR
namespace Go.Proofs.Ytcbadkljmcpghaa
open Go.RowKit

set_option maxHeartbeats 1000000 in
theorem l9Touch_any (b k : Nat) (w : World) (hb : b < 8) (hk : k < 4) : Calls Try.prog 41 #[.int .i64 b, .int .i64 k] w fun e w' => e = .returned (.int .i64 (Plru.touch b k : Nat)) ∧ Below w.heap.size w w' := by
  have h3 := fun w => l9Set_any b 0 (1 - k / 2) w hb (by omega) (by omega)
  have hx := Plru.wb_lt ⟨b, hb⟩ ⟨0, by omega⟩ ⟨1 - k / 2, by omega⟩
  simp only [] at hx
  have h4 := fun w => l9Set_any (Plru.wb b 0 (1 - k / 2)) (1 + k / 2) (1 - k % 2) w hx (by omega) (by omega)
  have HT : Hid (Plru.touch b k = Plru.wb (Plru.wb b 0 (1 - k / 2)) (1 + k / 2) (1 - k % 2)) := hide rfl
  generalize Plru.wb b 0 (1 - k / 2) = x at h3 h4 hx HT
  generalize Plru.wb x (1 + k / 2) (1 - k % 2) = y at h4 HT
  rw [HT.out]
  clear hx HT
  rcases half_cases k hk with rfl | rfl | rfl | rfl
  all_goals go_enter Try.func41, Try.ntmps41
  all_goals go_wp2_with fail
  all_goals refine (h3 _).mono ?_
  all_goals rintro e w1 ⟨rfl, hb1⟩
  all_goals go_wp2_with fail
  all_goals refine (h4 _).mono ?_
  all_goals rintro e w3 ⟨rfl, hb3⟩
  all_goals go_wp2
  all_goals go_ret
  all_goals exact ⟨rfl, hb1.trans (hb3.mono hb1.size)⟩

set_option maxHeartbeats 1000000 in
theorem l9Victim_any (b : Nat) (w : World) (hb : b < 8) : Calls Try.prog 46 #[.int .i64 b] w fun e w' => e = .returned (.int .i64 (Plru.victim b : Nat)) ∧ Below w.heap.size w w' := by
  have h2 := fun w => l9Bit_any b 0 w hb (by omega)
  have h3 := fun w => l9Bit_any b (1 + b % 2) w hb (by omega)
  have e0 : b / 2 ^ 0 % 2 = b % 2 := by simp
  rw [e0] at h2
  have HV : Hid (Plru.victim b = 2 * (b % 2) + b / 2 ^ (1 + b % 2) % 2) := hide rfl
  have hx : b / 2 ^ (1 + b % 2) % 2 < 2 := Nat.mod_lt _ (by decide)
  have hy : b % 2 < 2 := Nat.mod_lt _ (by decide)
  generalize b / 2 ^ (1 + b % 2) % 2 = x at h3 HV hx
  generalize b % 2 = y at h2 h3 HV hy
  rw [HV.out]
  clear HV e0
  have hy2 : y = 0 ∨ y = 1 := by omega
  rcases hy2 with rfl | rfl
  all_goals go_enter Try.func46, Try.ntmps46
  all_goals go_wp2_with fail
  all_goals refine (h2 _).mono ?_
  all_goals rintro e w1 ⟨rfl, hb1⟩
  all_goals go_wp2_with fail
  all_goals refine (h3 _).mono ?_
  all_goals rintro e w3 ⟨rfl, hb3⟩
  all_goals go_wp2
  all_goals go_ret
  all_goals exact ⟨ret_i (by omega), hb1.trans (hb3.mono hb1.size)⟩

set_option maxHeartbeats 1000000 in
theorem sTouched_any (b k : Nat) (w : World) (hb : b < 8) (hk : k < 4) : Calls Try.prog 12 #[.int .i64 b, .int .i64 k] w fun e w' => e = .returned (.int .i64 (Plru.touch b k : Nat)) ∧ Below w.heap.size w w' := by
  have h1 := fun w => l1In_any (b : Int) 7 w
  rw [inR_yes (by omega) (by omega)] at h1
  have h2 := fun w => l1In_any (k : Int) 3 w
  rw [inR_yes (by omega) (by omega)] at h2
  have h3 := fun w => l9Touch_any b k w hb hk
  generalize Plru.touch b k = x at h3
  go_enter Try.func12, Try.ntmps12
  go_wp2_with fail
  refine (h1 _).mono ?_
  rintro e w' ⟨rfl, rfl⟩
  go_wp2_with fail
  refine (h2 _).mono ?_
  rintro e w' ⟨rfl, rfl⟩
  go_wp2_with fail
  refine (h3 _).mono ?_
  rintro e w1 ⟨rfl, hb1⟩
  go_wp2
  go_ret
  exact ⟨rfl, hb1⟩

set_option maxHeartbeats 1000000 in
theorem sTouched_none (b k : Int) (w : World) (h : ¬ (0 ≤ b ∧ b ≤ 7 ∧ 0 ≤ k ∧ k ≤ 3)) : Calls Try.prog 12 #[.int .i64 b, .int .i64 k] w fun e w' => e = .returned (.int .i64 (-1)) ∧ Below w.heap.size w w' := by
  have h1 := fun w => l1In_any b 7 w
  have h2 := fun w => l1In_any k 3 w
  by_cases hb : 0 ≤ b ∧ b ≤ 7
  · rw [inR_yes hb.1 hb.2] at h1
    rw [inR_no (by omega)] at h2
    clear h hb
    go_enter Try.func12, Try.ntmps12
    go_wp2_with fail
    refine (h1 _).mono ?_
    rintro e w' ⟨rfl, rfl⟩
    go_wp2_with fail
    refine (h2 _).mono ?_
    rintro e w' ⟨rfl, rfl⟩
    go_wp2
    go_ret
    exact ⟨rfl, Below.refl _ _⟩
  · rw [inR_no hb] at h1
    clear h hb
    go_enter Try.func12, Try.ntmps12
    go_wp2_with (go_at_call 40; refine (h1 _).mono ?_; rintro e w' ⟨rfl, rfl⟩)
    go_ret
    exact ⟨rfl, Below.refl _ _⟩

set_option maxHeartbeats 1000000 in
theorem sVictim_any (b : Nat) (w : World) (hb : b < 8) : Calls Try.prog 14 #[.int .i64 b] w fun e w' => e = .returned (.int .i64 (Plru.victim b : Nat)) ∧ Below w.heap.size w w' := by
  have h1 := fun w => l1In_any (b : Int) 7 w
  rw [inR_yes (by omega) (by omega)] at h1
  have h3 := fun w => l9Victim_any b w hb
  generalize Plru.victim b = x at h3
  go_enter Try.func14, Try.ntmps14
  go_wp2_with fail
  refine (h1 _).mono ?_
  rintro e w' ⟨rfl, rfl⟩
  go_wp2_with fail
  refine (h3 _).mono ?_
  rintro e w1 ⟨rfl, hb1⟩
  go_wp2
  go_ret
  exact ⟨rfl, hb1⟩

set_option maxHeartbeats 1000000 in
theorem sVictim_none (b : Int) (w : World) (h : ¬ (0 ≤ b ∧ b ≤ 7)) : Calls Try.prog 14 #[.int .i64 b] w fun e w' => e = .returned (.int .i64 (-1)) ∧ Below w.heap.size w w' := by
  have h1 := fun w => l1In_any b 7 w
  rw [inR_no h] at h1
  clear h
  go_enter Try.func14, Try.ntmps14
  go_wp2_with (go_at_call 40; refine (h1 _).mono ?_; rintro e w' ⟨rfl, rfl⟩)
  go_ret
  exact ⟨rfl, Below.refl _ _⟩

end Go.Proofs.Ytcbadkljmcpghaa

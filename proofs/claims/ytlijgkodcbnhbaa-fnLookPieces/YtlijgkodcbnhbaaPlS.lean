/- spec: l9Touch, l9Victim, PlruTouched, PlruVictim -/
import Derived.Test.YtlijgkodcbnhbaaPlR
namespace Go.Proofs.Ytlijgkodcbnhbaa
open Go.RowKit

set_option maxHeartbeats 1000000 in
theorem l9Touch_any (b k : Nat) (w : World) (hb : b < 8) (hk : k < 4) : Calls Try.prog 31 #[.int .i64 b, .int .i64 k] w fun e w' => e = .returned (.int .i64 (Plru.touch b k : Nat)) ∧ Below w.heap.size w w' := by
  have h3 := fun w => l9Set_any b 0 (1 - k / 2) w hb (by omega) (by omega)
  have hx := Plru.wb_lt ⟨b, hb⟩ ⟨0, by omega⟩ ⟨1 - k / 2, by omega⟩
  simp only [] at hx
  have h4 := fun w => l9Set_any (Plru.wb b 0 (1 - k / 2)) (1 + k / 2) (1 - k % 2) w hx (by omega) (by omega)
  have HT : Hid (Plru.touch b k = Plru.wb (Plru.wb b 0 (1 - k / 2)) (1 + k / 2) (1 - k % 2)) := hide rfl
  generalize Plru.wb b 0 (1 - k / 2) = x at h3 h4 hx HT
  generalize Plru.wb x (1 + k / 2) (1 - k % 2) = y at h4 HT
  rw [HT.out]
  clear hx HT
  rcases half_cases k hk with rfl | rfl | rfl | rfl
  all_goals go_enter Try.func31, Try.ntmps31
  all_goals go_wp2_with fail
  all_goals refine (h3 _).mono ?_
  all_goals rintro e w1 ⟨rfl, hb1⟩
  all_goals go_wp2_with fail
  all_goals refine (h4 _).mono ?_
  all_goals rintro e w3 ⟨rfl, hb3⟩
  all_goals go_wp2
  all_goals go_ret
  all_goals exact ⟨rfl, hb1.trans (hb3.mono hb1.size)⟩

set_option maxHeartbeats 1000000 in
theorem l9Victim_any (b : Nat) (w : World) (hb : b < 8) : Calls Try.prog 30 #[.int .i64 b] w fun e w' => e = .returned (.int .i64 (Plru.victim b : Nat)) ∧ Below w.heap.size w w' := by
  have h2 := fun w => l9Bit_any b 0 w hb (by omega)
  have h3 := fun w => l9Bit_any b (1 + b % 2) w hb (by omega)
  have e0 : b / 2 ^ 0 % 2 = b % 2 := by simp
  rw [e0] at h2
  have HV : Hid (Plru.victim b = 2 * (b % 2) + b / 2 ^ (1 + b % 2) % 2) := hide rfl
  have hx : b / 2 ^ (1 + b % 2) % 2 < 2 := Nat.mod_lt _ (by decide)
  have hy : b % 2 < 2 := Nat.mod_lt _ (by decide)
  generalize b / 2 ^ (1 + b % 2) % 2 = x at h3 HV hx
  generalize b % 2 = y at h2 h3 HV hy
  rw [HV.out]
  clear HV e0
  have hy2 : y = 0 ∨ y = 1 := by omega
  rcases hy2 with rfl | rfl
  all_goals go_enter Try.func30, Try.ntmps30
  all_goals go_wp2_with fail
  all_goals refine (h2 _).mono ?_
  all_goals rintro e w1 ⟨rfl, hb1⟩
  all_goals go_wp2_with fail
  all_goals refine (h3 _).mono ?_
  all_goals rintro e w3 ⟨rfl, hb3⟩
  all_goals go_wp2
  all_goals go_ret
  all_goals exact ⟨ret_i (by omega), hb1.trans (hb3.mono hb1.size)⟩

end Go.Proofs.Ytlijgkodcbnhbaa

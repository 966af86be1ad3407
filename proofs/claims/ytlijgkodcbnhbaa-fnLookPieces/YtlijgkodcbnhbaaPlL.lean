/- Plru at every number; DrawPlruTouched -/
import Derived.Test.YtlijgkodcbnhbaaPlS
import Derived.Test.YtlijgkodcbnhbaaRdE
namespace Go.Proofs.Ytlijgkodcbnhbaa
open Go.RowKit

namespace Plru
def tI (b k : Int) : Int := if 0 ≤ b ∧ b ≤ 7 ∧ 0 ≤ k ∧ k ≤ 3 then (touch b.toNat k.toNat : Nat) else -1
def vI (b : Int) : Int := if 0 ≤ b ∧ b ≤ 7 then (victim b.toNat : Nat) else -1
theorem tI_yes {b k : Nat} (hb : b < 8) (hk : k < 4) : tI b k = touch b k := by unfold tI; rw [if_pos (by omega)]; rfl
theorem tI_no {b k : Int} (h : ¬ (0 ≤ b ∧ b ≤ 7 ∧ 0 ≤ k ∧ k ≤ 3)) : tI b k = -1 := by unfold tI; rw [if_neg h]
theorem vI_yes {b : Nat} (hb : b < 8) : vI b = victim b := by unfold vI; rw [if_pos (by omega)]; rfl
theorem vI_no {b : Int} (h : ¬ (0 ≤ b ∧ b ≤ 7)) : vI b = -1 := by unfold vI; rw [if_neg h]
theorem law : ∀ (b : Fin 8) (k : Fin 4), touch b k < 8 ∧ victim (touch b k) < 4 ∧ victim (touch b k) / 2 ≠ k / 2 ∧ touch (touch b k) k = touch b k := by decide +kernel
theorem facts (b k : Int) (h : ¬ tI b k < 0) : 0 ≤ vI (tI b k) ∧ vI (tI b k) < 4 ∧ vI (tI b k) / 2 ≠ k / 2 ∧ (0 ≤ k ∧ k ≤ 3) ∧ tI (tI b k) k = tI b k := by
  by_cases hr : 0 ≤ b ∧ b ≤ 7 ∧ 0 ≤ k ∧ k ≤ 3
  · obtain ⟨h0, h1, h2, h3⟩ := hr
    obtain ⟨b', rfl⟩ := Int.eq_ofNat_of_zero_le h0
    obtain ⟨k', rfl⟩ := Int.eq_ofNat_of_zero_le h2
    obtain ⟨l0, l1, l2, l3⟩ := law ⟨b', by omega⟩ ⟨k', by omega⟩
    simp only [] at l0 l1 l2 l3
    rw [tI_yes (by omega) (by omega), vI_yes l0, tI_yes l0 (by omega), l3]
    omega
  · rw [tI_no hr] at h; omega
end Plru

theorem touched_all (b k : Int) (w : World) : Calls Try.prog 37 #[.int .i64 b, .int .i64 k] w fun e w' => e = .returned (.int .i64 (Plru.tI b k)) ∧ Below w.heap.size w w' := by
  by_cases hr : 0 ≤ b ∧ b ≤ 7 ∧ 0 ≤ k ∧ k ≤ 3
  · obtain ⟨h0, h1, h2, h3⟩ := hr
    obtain ⟨b', rfl⟩ := Int.eq_ofNat_of_zero_le h0
    obtain ⟨k', rfl⟩ := Int.eq_ofNat_of_zero_le h2
    rw [Plru.tI_yes (by omega) (by omega)]
    exact touched_any b' k' w (by omega) (by omega)
  · rw [Plru.tI_no hr]; exact touched_none b k w hr

theorem victim_all (b : Int) (w : World) : Calls Try.prog 42 #[.int .i64 b] w fun e w' => e = .returned (.int .i64 (Plru.vI b)) ∧ w' = w := by
  by_cases hr : 0 ≤ b ∧ b ≤ 7
  · obtain ⟨b', rfl⟩ := Int.eq_ofNat_of_zero_le hr.1
    rw [Plru.vI_yes (by omega)]
    exact victim_any b' w (by omega)
  · rw [Plru.vI_no hr]; exact victim_none b w hr

end Go.Proofs.Ytlijgkodcbnhbaa

/- Plru at every number; DrawPlruTouched -/
import Derived.Test.YtcbadkljmcpghaaPlS
import Derived.Test.YtcbadkljmcpghaaRdE
namespace Go.Proofs.Ytcbadkljmcpghaa
open Go.RowKit

namespace Plru
def tI (b k : Int) : Int := if 0 ≤ b ∧ b ≤ 7 ∧ 0 ≤ k ∧ k ≤ 3 then (touch b.toNat k.toNat : Nat) else -1
def vI (b : Int) : Int := if 0 ≤ b ∧ b ≤ 7 then (victim b.toNat : Nat) else -1
theorem tI_yes {b k : Nat} (hb : b < 8) (hk : k < 4) : tI b k = touch b k := by unfold tI; rw [if_pos (by omega)]; rfl
theorem tI_no {b k : Int} (h : ¬ (0 ≤ b ∧ b ≤ 7 ∧ 0 ≤ k ∧ k ≤ 3)) : tI b k = -1 := by unfold tI; rw [if_neg h]
theorem vI_yes {b : Nat} (hb : b < 8) : vI b = victim b := by unfold vI; rw [if_pos (by omega)]; rfl
theorem vI_no {b : Int} (h : ¬ (0 ≤ b ∧ b ≤ 7)) : vI b = -1 := by unfold vI; rw [if_neg h]
theorem law : ∀ (b : Fin 8) (k : Fin 4), touch b k < 8 ∧ victim (touch b k) < 4 ∧ victim (touch b k) / 2 ≠ k / 2 ∧ touch (touch b k) k = touch b k := by decide +kernel
theorem facts (b k : Int) (h : ¬ tI b k < 0) : 0 ≤ vI (tI b k) ∧ vI (tI b k) < 4 ∧ vI (tI b k) / 2 ≠ k / 2 ∧ (0 ≤ k ∧ k ≤ 3) ∧ tI (tI b k) k = tI b k := by
  by_cases hr : 0 ≤ b ∧ b ≤ 7 ∧ 0 ≤ k ∧ k ≤ 3
  · obtain ⟨h0, h1, h2, h3⟩ := hr
    obtain ⟨b', rfl⟩ := Int.eq_ofNat_of_zero_le h0
    obtain ⟨k', rfl⟩ := Int.eq_ofNat_of_zero_le h2
    obtain ⟨l0, l1, l2, l3⟩ := law ⟨b', by omega⟩ ⟨k', by omega⟩
    simp only [] at l0 l1 l2 l3
    rw [tI_yes (by omega) (by omega), vI_yes l0, tI_yes l0 (by omega), l3]
    omega
  · rw [tI_no hr] at h; omega
end Plru

theorem touched_all (b k : Int) (w : World) : Calls Try.prog 13 #[.int .i64 b, .int .i64 k] w fun e w' => e = .returned (.int .i64 (Plru.tI b k)) ∧ Below w.heap.size w w' := by
  by_cases hr : 0 ≤ b ∧ b ≤ 7 ∧ 0 ≤ k ∧ k ≤ 3
  · obtain ⟨h0, h1, h2, h3⟩ := hr
    obtain ⟨b', rfl⟩ := Int.eq_ofNat_of_zero_le h0
    obtain ⟨k', rfl⟩ := Int.eq_ofNat_of_zero_le h2
    rw [Plru.tI_yes (by omega) (by omega)]
    exact touched_any b' k' w (by omega) (by omega)
  · rw [Plru.tI_no hr]; exact touched_none b k w hr
theorem sTouched_all (b k : Int) (w : World) : Calls Try.prog 12 #[.int .i64 b, .int .i64 k] w fun e w' => e = .returned (.int .i64 (Plru.tI b k)) ∧ Below w.heap.size w w' := by
  by_cases hr : 0 ≤ b ∧ b ≤ 7 ∧ 0 ≤ k ∧ k ≤ 3
  · obtain ⟨h0, h1, h2, h3⟩ := hr
    obtain ⟨b', rfl⟩ := Int.eq_ofNat_of_zero_le h0
    obtain ⟨k', rfl⟩ := Int.eq_ofNat_of_zero_le h2
    rw [Plru.tI_yes (by omega) (by omega)]
    exact sTouched_any b' k' w (by omega) (by omega)
  · rw [Plru.tI_no hr]; exact sTouched_none b k w hr
theorem victim_all (b : Int) (w : World) : Calls Try.prog 15 #[.int .i64 b] w fun e w' => e = .returned (.int .i64 (Plru.vI b)) ∧ w' = w := by
  by_cases hr : 0 ≤ b ∧ b ≤ 7
  · obtain ⟨b', rfl⟩ := Int.eq_ofNat_of_zero_le hr.1
    rw [Plru.vI_yes (by omega)]
    exact victim_any b' w (by omega)
  · rw [Plru.vI_no hr]; exact victim_none b w hr
theorem sVictim_all (b : Int) (w : World) : Calls Try.prog 14 #[.int .i64 b] w fun e w' => e = .returned (.int .i64 (Plru.vI b)) ∧ Below w.heap.size w w' := by
  by_cases hr : 0 ≤ b ∧ b ≤ 7
  · obtain ⟨b', rfl⟩ := Int.eq_ofNat_of_zero_le hr.1
    rw [Plru.vI_yes (by omega)]
    exact sVictim_any b' w (by omega)
  · rw [Plru.vI_no hr]; exact sVictim_none b w hr

set_option maxHeartbeats 1000000 in
theorem drawPlru_any (ad : Option Addr) (n cap : Nat) (w : World) (hb : Bt w ad n) (hn : n ≤ 1048576) :
    Calls Try.prog 17 #[.slice ad n cap] w fun e w' => ∃ b z : Int, e = .returned (.tuple #[.int .i64 b, .int .i64 z]) ∧ Below w.heap.size w w' := by
  go_enter Try.func17, Try.ntmps17
  go_wp2_with fail
  refine (open_any ad n cap _ hb hn).mono ?_
  rintro e w1 ⟨g, rfl, hg1, hr1, hb1⟩
  clear hb
  go_wp2_with fail
  refine (off_any g 0 7 _ hr1 (by omega) (by omega) (by omega)).mono ?_
  rintro e w2 ⟨z, rfl, hr2, hg2⟩
  have HB := below_read hb1 hg2 hg1 hb1.size
  clear hr1 hb1 hg2
  go_wp2_with fail
  refine (once_any g 2 _ hr2 (by omega) (by omega)).mono ?_
  rintro e w3 ⟨b, rfl, hr3, hg3⟩
  have HB3 := below_read HB hg3 hg1 HB.size
  clear hr2 hg3 HB
  cases b
  · go_wp2_with fail
    refine (off_any g 0 3 _ hr3 (by omega) (by omega) (by omega)).mono ?_
    rintro e w4 ⟨z4, rfl, hr4, hg4⟩
    have HB4 := hide (below_read HB3 hg4 hg1 HB3.size)
    clear hr3 hg4 HB3 hr4
    go_wp2
    go_ret2
    exact ⟨_, _, rfl, HB4.out⟩
  · go_wp2_with fail
    refine (below_any g 8 _ hr3 (by omega) (by omega)).mono ?_
    rintro e w4 ⟨c, rfl, hc0, hc1, hr4, hg4⟩
    have HB4 := below_read HB3 hg4 hg1 HB3.size
    clear hr3 hg4 HB3
    go_wp2_with fail
    refine (off_any g 0 3 _ hr4 (by omega) (by omega) (by omega)).mono ?_
    rintro e w5 ⟨z5, rfl, hr5, hg5⟩
    have HB5 := hide (below_read HB4 hg5 hg1 HB4.size)
    clear hr4 hg5 HB4 hr5
    go_wp2
    go_ret2
    exact ⟨_, _, rfl, HB5.out⟩

end Go.Proofs.Ytcbadkljmcpghaa

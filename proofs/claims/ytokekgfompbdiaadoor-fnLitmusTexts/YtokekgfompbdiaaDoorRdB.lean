/- below, once, word, near -/
import Derived.Test.YtokekgfompbdiaaDoorRdA
import Derived.OpenShut
namespace Go.Proofs.YtokekgfompbdiaaDoor
open Go.RowKit

set_option maxHeartbeats 1000000 in
theorem below_any (g : Nat) (n : Int) (w : World) (h : Rdr w g) (h1 : 1 ≤ n) (h2 : n ≤ 2097152) :
    Calls Tryd.prog 40 #[.pointer (some ⟨g, 0, none⟩), .int .i64 n] w fun e w' => ∃ c : Int, e = .returned (.int .i64 c) ∧ 0 ≤ c ∧ c < n ∧ Rdr w' g ∧ w.grownBy w' (some g) := by
  by_cases hn1 : n ≤ 1
  · go_enter Tryd.func40, Tryd.ntmps40
    go_wp2
    go_ret
    exact ⟨0, rfl, by omega, by omega, h, World.grownBy.refl _ _⟩
  · have hz : (n == 0) = false := by simp; omega
    by_cases hn2 : n ≤ 256
    · go_enter Tryd.func40, Tryd.ntmps40
      go_wp2_with fail
      refine (next_any g _ h).mono ?_
      rintro e w1 ⟨c, rfl, hc0, hc1, hr1, hg1⟩
      have HF := hide (And.intro hr1 hg1)
      clear hr1 hg1 h
      go_wp2
      go_ret
      exact ⟨_, rfl, Int.emod_nonneg _ (by omega), Int.emod_lt_of_pos _ (by omega), HF.out.1, HF.out.2⟩
    · go_enter Tryd.func40, Tryd.ntmps40
      go_wp2_with fail
      refine (next_any g _ h).mono ?_
      rintro e w1 ⟨c, rfl, hc0, hc1, hr1, hg1⟩
      clear h
      go_wp2_with fail
      refine (next_any g _ hr1).mono ?_
      rintro e w2 ⟨d, rfl, hd0, hd1, hr2, hg2⟩
      have HF := hide (And.intro hr2 (grown_trans hg1 hg2))
      clear hr1 hg1 hr2 hg2
      go_wp2
      go_ret
      exact ⟨_, rfl, Int.emod_nonneg _ (by omega), Int.emod_lt_of_pos _ (by omega), HF.out.1, HF.out.2⟩

set_option maxHeartbeats 1000000 in
theorem once_any (g : Nat) (n : Int) (w : World) (h : Rdr w g) (h1 : 1 ≤ n) (h2 : n ≤ 65536) :
    Calls Tryd.prog 25 #[.pointer (some ⟨g, 0, none⟩), .int .i64 n] w fun e w' => ∃ b : Bool, e = .returned (.bool b) ∧ Rdr w' g ∧ w.grownBy w' (some g) := by
  go_enter Tryd.func25, Tryd.ntmps25
  go_wp2_with fail
  refine (below_any g n _ h h1 (by omega)).mono ?_
  rintro e w1 ⟨c, rfl, hc0, hc1, hr1, hg1⟩
  have HF := hide (And.intro hr1 hg1)
  clear hr1 hg1 h
  go_wp2
  go_ret
  exact ⟨_, rfl, HF.out.1, HF.out.2⟩

set_option maxHeartbeats 1000000 in
theorem word_any (g : Nat) (w : World) (h : Rdr w g) :
    Calls Tryd.prog 60 #[.pointer (some ⟨g, 0, none⟩)] w fun e w' => ∃ c : Int, e = .returned (.int .u64 c) ∧ 0 ≤ c ∧ Rdr w' g ∧ w.grownBy w' (some g) := by
  have HR := hide h
  clear h
  go_enter Tryd.func60, Tryd.ntmps60
  go_wp2
  go_loopw [3, 4] (fun t i wr => ∃ (k : Nat) (s : Int), k ≤ 8 ∧ i = .int .i64 k ∧ t = .int .u64 s ∧ 0 ≤ s ∧ Rdr wr g ∧ w.grownBy wr (some g)) (fun _ i _ => 8 - (intOf i).toNat)
  case atStart => exact ⟨0, 0, Nat.zero_le _, rfl, rfl, by omega, HR.out, World.grownBy.refl _ _⟩
  case round =>
    obtain ⟨k, s, hk, rfl, rfl, hs0, hr, hg⟩ := hrel
    by_cases hlt : k < 8
    · go_wp2_with fail
      refine (next_any g _ hr).mono ?_
      rintro e w1 ⟨c, rfl, hc0, hc1, hr1, hg1⟩
      have HF := hide (And.intro hr1 (grown_trans hg hg1))
      clear hr hg hr1 hg1
      go_wp2
      go_roundw
      case rel => exact ⟨k + 1, _, by omega, by go_num, rfl, (bounds_u64 (wf_bits _ _ _ _)).1, HF.out.1, HF.out.2⟩
      case measure => simp [intOf]; omega
    · go_wp2
      go_ret
      exact ⟨s, rfl, hs0, hr, hg⟩

theorem near_val (lo hi m : Int) (h1 : -1048576 ≤ lo) (h3 : hi ≤ 1099511627776) (h0 : 0 ≤ m) (hm : m < hi - lo + 1) : lo ≤ wrap64 (lo + wrap64 m) ∧ wrap64 (lo + wrap64 m) ≤ hi := by
  rw [Go.IntWalk.wrap64_in m (by omega), Go.IntWalk.wrap64_in (lo + m) (by omega)]
  omega

set_option maxHeartbeats 2000000 in
theorem near_any (g : Nat) (lo hi : Int) (w : World) (h : Rdr w g) (h1 : -1048576 ≤ lo) (h2 : lo ≤ hi) (h3 : hi ≤ 1099511627776) :
    Calls Tryd.prog 43 #[.pointer (some ⟨g, 0, none⟩), .int .i64 lo, .int .i64 hi] w fun e w' => ∃ c : Int, e = .returned (.int .i64 c) ∧ lo ≤ c ∧ c ≤ hi ∧ Rdr w' g ∧ w.grownBy w' (some g) := by
  have hnl : ¬ hi < lo := by omega
  go_enter Tryd.func43, Tryd.ntmps43
  go_wp2_with fail
  refine (below_any g 8 _ h (by decide) (by decide)).mono ?_
  rintro e w1 ⟨c, rfl, hc0, hc1, hr1, hg1⟩
  clear h
  by_cases e0 : (c == 0) = true
  · have HF := hide (And.intro hr1 hg1)
    clear hr1 hg1
    go_wp2
    go_ret
    exact ⟨lo, rfl, by omega, by omega, HF.out.1, HF.out.2⟩
  · have e0' : (c == 0) = false := by simpa using e0
    clear e0
    by_cases e1 : (c == 1) = true
    · have HF := hide (And.intro hr1 hg1)
      clear hr1 hg1
      go_wp2
      go_ret
      exact ⟨hi, rfl, by omega, by omega, HF.out.1, HF.out.2⟩
    · have e1' : (c == 1) = false := by simpa using e1
      clear e1
      go_wp2_with fail
      refine (word_any g _ hr1).mono ?_
      rintro e w2 ⟨s, rfl, hs0, hr2, hg2⟩
      have HF := hide (And.intro hr2 (grown_trans hg1 hg2))
      clear hr1 hg1 hr2 hg2
      have hz : (hi - lo + 1 == 0) = false := by simp; omega
      go_wp2
      go_ret
      have hv := near_val lo hi (s / 2 % (hi - lo + 1)) h1 h3 (Int.emod_nonneg _ (by omega)) (Int.emod_lt_of_pos _ (by omega))
      exact ⟨_, rfl, hv.1, hv.2, HF.out.1, HF.out.2⟩

end Go.Proofs.YtokekgfompbdiaaDoor

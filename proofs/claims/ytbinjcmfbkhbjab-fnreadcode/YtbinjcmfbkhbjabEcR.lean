/- the reader's words: word13, DrawEccOf, DrawSyndromeOf, DrawEccRead, DrawFlipped -/
import Derived.Test.YtbinjcmfbkhbjabEcS
import Derived.Test.YtbinjcmfbkhbjabRdE
namespace Go.Proofs.Ytbinjcmfbkhbjab
open Go.RowKit

theorem Bt.below {w w' : World} {ad : Option Addr} {n : Nat} (h : Bt w ad n) (hb : Below w.heap.size w w') : Bt w' ad n := by
  intro h0
  obtain ⟨b, off, rfl, hc⟩ := h h0
  refine ⟨b, off, rfl, fun j hj => ?_⟩
  obtain ⟨c, h1, h2, h3⟩ := hc j hj
  exact ⟨c, h1, h2, Below.keep hb _ _ h3⟩

set_option maxHeartbeats 1000000 in
theorem word13_any (g : Nat) (w : World) (h : Rdr w g) :
    Calls Try.prog 50 #[.pointer (some ⟨g, 0, none⟩)] w fun e w' => ∃ n : Nat, e = .returned (.int .i64 n) ∧ n < 8192 ∧ Rdr w' g ∧ w.grownBy w' (some g) := by
  go_enter Try.func50, Try.ntmps50
  go_wp2_with fail
  refine (below_any g 256 _ h (by omega) (by omega)).mono ?_
  rintro e w1 ⟨c, rfl, hc0, hc1, hr1, hg1⟩
  obtain ⟨b, rfl⟩ := Int.eq_ofNat_of_zero_le hc0
  clear h hc0
  have hb : b < 256 := by omega
  go_wp2_with fail
  refine (specEcc_any b _ hb).mono ?_
  rintro e w' ⟨rfl, rfl⟩
  have hn := (Ecc.enc_eq b hb).2
  generalize Ecc.enc b = n at hn
  clear hb hc1
  go_wp2_with fail
  refine (below_any g 4 _ hr1 (by omega) (by omega)).mono ?_
  rintro e w2 ⟨c, rfl, hc0, hc1, hr2, hg2⟩
  have HG := hide (And.intro hr2 (grown_trans hg1 hg2))
  clear hr1 hg1 hr2 hg2
  obtain ⟨k, rfl⟩ := Int.eq_ofNat_of_zero_le hc0
  clear hc0
  have hk : k < 4 := by omega
  clear hc1
  go_wp2
  go_loopw [3, 4] (fun t i wr => ∃ (j m : Nat), j < 4 ∧ i = .int .i64 j ∧ t = .int .i64 m ∧ m < 8192 ∧ Hid (Rdr wr g ∧ w.grownBy wr (some g))) (fun _ i _ => (intOf i).toNat)
  case atStart => exact ⟨k, n, hk, rfl, rfl, hn, HG⟩
  case round =>
    clear HG hk hn
    obtain ⟨j, m, hj, rfl, rfl, hm, HG⟩ := hrel
    by_cases h0 : 0 < j
    · go_wp2_with fail
      refine (below_any g 13 _ HG.out.1 (by omega) (by omega)).mono ?_
      rintro e w3 ⟨c, rfl, hc0, hc1, hr3, hg3⟩
      have HG3 := hide (And.intro hr3 (grown_trans HG.out.2 hg3))
      clear hr3 hg3 HG
      obtain ⟨q, rfl⟩ := Int.eq_ofNat_of_zero_le hc0
      clear hc0
      have hq : q < 13 := by omega
      clear hc1
      go_wp2_with fail
      refine (specFlipped_any m q _ hm hq).mono ?_
      rintro e w' ⟨rfl, rfl⟩
      have hf := Ecc.flp_lt m q hm hq
      generalize Ecc.flp m q = f at hf
      go_wp2
      go_roundw
      case rel => exact ⟨j - 1, f, by omega, by go_num, rfl, hf, HG3⟩
      case measure => simp [intOf]; omega
    · have e : j = 0 := by omega
      subst e
      go_wp2
      go_ret
      exact ⟨m, rfl, hm, HG.out.1, HG.out.2⟩

theorem open_base {w w1 w2 : World} {g : Nat} (hg : w.heap.size ≤ g) (hb : Below w.heap.size w w1) (h2 : w1.grownBy w2 (some g)) : Below w.heap.size w w2 := below_read hb h2 hg hb.size

set_option maxHeartbeats 1000000 in
theorem drawEccOf_any (ad : Option Addr) (n cap : Nat) (w : World) (hb : Bt w ad n) (hn : n ≤ 1048576) :
    Calls Try.prog 10 #[.slice ad n cap] w fun e w' => ∃ z : Int, e = .returned (.int .i64 z) ∧ Below w.heap.size w w' := by
  go_enter Try.func10, Try.ntmps10
  go_wp2_with fail
  refine (open_any ad n cap _ hb hn).mono ?_
  rintro e w1 ⟨g, rfl, hg1, hr1, hb1⟩
  clear hb
  go_wp2_with fail
  refine (once_any g 8 _ hr1 (by omega) (by omega)).mono ?_
  rintro e w2 ⟨b, rfl, hr2, hg2⟩
  have HB := hide (open_base hg1 hb1 hg2)
  have HS := hide (And.intro hg1 HB.out.size)
  clear hr1 hb1 hg2 hg1
  cases b
  · go_wp2_with fail
    refine (below_any g 256 _ hr2 (by omega) (by omega)).mono ?_
    rintro e w3 ⟨c, rfl, hc0, hc1, hr3, hg3⟩
    have HF := hide (below_read HB.out hg3 HS.out.1 HS.out.2)
    clear hr2 hr3 hg3
    go_wp2
    go_ret
    exact ⟨_, rfl, HF.out⟩
  · go_wp2_with fail
    refine (off_any g 0 255 _ hr2 (by omega) (by omega) (by omega)).mono ?_
    rintro e w3 ⟨z, rfl, hr3, hg3⟩
    have HF := hide (below_read HB.out hg3 HS.out.1 HS.out.2)
    clear hr2 hr3 hg3
    go_wp2
    go_ret
    exact ⟨_, rfl, HF.out⟩

set_option maxHeartbeats 1000000 in
theorem drawSyn_any (ad : Option Addr) (n cap : Nat) (w : World) (hb : Bt w ad n) (hn : n ≤ 1048576) :
    Calls Try.prog 46 #[.slice ad n cap] w fun e w' => ∃ z : Int, e = .returned (.int .i64 z) ∧ Below w.heap.size w w' := by
  go_enter Try.func46, Try.ntmps46
  go_wp2_with fail
  refine (open_any ad n cap _ hb hn).mono ?_
  rintro e w1 ⟨g, rfl, hg1, hr1, hb1⟩
  clear hb
  go_wp2_with fail
  refine (once_any g 8 _ hr1 (by omega) (by omega)).mono ?_
  rintro e w2 ⟨b, rfl, hr2, hg2⟩
  have HB := hide (open_base hg1 hb1 hg2)
  have HS := hide (And.intro hg1 HB.out.size)
  clear hr1 hb1 hg2 hg1
  cases b
  · go_wp2_with fail
    refine (word13_any g _ hr2).mono ?_
    rintro e w3 ⟨c, rfl, hc, hr3, hg3⟩
    have HF := hide (below_read HB.out hg3 HS.out.1 HS.out.2)
    clear hr2 hr3 hg3
    go_wp2
    go_ret
    exact ⟨_, rfl, HF.out⟩
  · go_wp2_with fail
    refine (off_any g 0 8191 _ hr2 (by omega) (by omega) (by omega)).mono ?_
    rintro e w3 ⟨z, rfl, hr3, hg3⟩
    have HF := hide (below_read HB.out hg3 HS.out.1 HS.out.2)
    clear hr2 hr3 hg3
    go_wp2
    go_ret
    exact ⟨_, rfl, HF.out⟩

set_option maxHeartbeats 1000000 in
theorem drawRead_any (ad : Option Addr) (n cap : Nat) (w : World) (hb : Bt w ad n) (hn : n ≤ 1048576) :
    Calls Try.prog 14 #[.slice ad n cap] w fun e w' => ∃ z : Int, e = .returned (.int .i64 z) ∧ Below w.heap.size w w' := by
  go_enter Try.func14, Try.ntmps14
  go_wp2_with fail
  refine (drawSyn_any ad n cap _ hb hn).mono ?_
  rintro e w1 ⟨z, rfl, hb1⟩
  clear hb
  go_wp2
  go_ret
  exact ⟨_, rfl, hb1⟩

set_option maxHeartbeats 1000000 in
theorem drawFlipped_any (ad : Option Addr) (n cap : Nat) (w : World) (hb : Bt w ad n) (hn : n ≤ 1048576) :
    Calls Try.prog 18 #[.slice ad n cap] w fun e w' => ∃ (m : Nat) (z : Int), e = .returned (.tuple #[.int .i64 m, .int .i64 z]) ∧ m < 8192 ∧ Below w.heap.size w w' := by
  go_enter Try.func18, Try.ntmps18
  go_wp2_with fail
  refine (open_any ad n cap _ hb hn).mono ?_
  rintro e w1 ⟨g, rfl, hg1, hr1, hb1⟩
  clear hb
  go_wp2_with fail
  refine (word13_any g _ hr1).mono ?_
  rintro e w2 ⟨m, rfl, hm, hr2, hg2⟩
  have HB := hide (open_base hg1 hb1 hg2)
  have HS := hide (And.intro hg1 HB.out.size)
  clear hr1 hb1 hg2 hg1
  go_wp2_with fail
  refine (off_any g 0 12 _ hr2 (by omega) (by omega) (by omega)).mono ?_
  rintro e w3 ⟨z, rfl, hr3, hg3⟩
  have HF := hide (below_read HB.out hg3 HS.out.1 HS.out.2)
  clear hr2 hr3 hg3
  go_wp2
  go_ret2
  exact ⟨m, z, rfl, hm, HF.out⟩

end Go.Proofs.Ytbinjcmfbkhbjab

/- RdA, RdB -/
import Derived.Test.YtgflipkhhpkidaaYkOrder0
import Derived.Test.YtgflipkhhpkidaaChecked
import Derived.WalkSpells
import Derived.WalkLawsBesides
import Derived.Deep.QuietTactic
import Derived.BigQuiet
import Derived.OpenShut
/- the reader of a code: what is known of it; next -/
namespace Go.Proofs.Ytgflipkhhpkidaa
open Go.RowKit

/-- a reader lies in block g: its bytes lie in an elder block -/
def Rdr (w : World) (g : Nat) : Prop :=
  ∃ (ad : Option Addr) (n cap p : Nat), w.heap[g]? = some (.cells #[.slice ad n cap, .int .i64 p] 59 (0, 0)) ∧ p ≤ n ∧ n ≤ 1048576 ∧
    (0 < n → ∃ b off, ad = some ⟨b, off, none⟩ ∧ b < g ∧ ∀ j, j < n → ∃ c : Int, 0 ≤ c ∧ c ≤ 255 ∧ w.cell? ⟨b, off + j, none⟩ = some (.int .u8 c))

theorem Rdr.lt {w : World} {g : Nat} (h : Rdr w g) : g < w.heap.size := by
  obtain ⟨ad, n, cap, p, hh, _⟩ := h
  exact lt_of_block hh

/-- what writes to younger blocks alone leaves the reader -/
theorem Rdr.grown {w w' : World} {g : Nat} {row : Option Nat} (h : Rdr w g) (hg : w.grownBy w' row) (hr : ∀ k, row = some k → g < k) : Rdr w' g := by
  have hlt := h.lt
  obtain ⟨ad, n, cap, p, hh, hp, hn, hb⟩ := h
  refine ⟨ad, n, cap, p, ?_, hp, hn, fun h0 => ?_⟩
  · rw [hg.block g hlt (fun e => by have := hr g e.symm; omega)]; exact hh
  · obtain ⟨b, off, rfl, hbg, hc⟩ := hb h0
    refine ⟨b, off, rfl, hbg, fun j hj => ?_⟩
    obtain ⟨c, h1, h2, h3⟩ := hc j hj
    exact ⟨c, h1, h2, hg.cell h3 (fun e => by have := hr b e.symm; omega)⟩

theorem Rdr.below {w w' : World} {g : Nat} (h : Rdr w g) (hb : Below w.heap.size w w') : Rdr w' g := h.grown (grown_of_below hb) (fun k hk => by cases hk)

/-- the world behind the reader's step -/
theorem next_world {w : World} {g n cap p b off : Nat} {c : Int} (hh : w.heap[g]? = some (.cells #[.slice (some ⟨b, off, none⟩) n cap, .int .i64 p] 59 (0, 0))) (hlt : p < n) (hn : n ≤ 1048576) (hbg : b < g)
    (hc : ∀ j, j < n → ∃ c : Int, 0 ≤ c ∧ c ≤ 255 ∧ w.cell? ⟨b, off + j, none⟩ = some (.int .u8 c)) (hcell : w.cell? ⟨b, off + p, none⟩ = some (.int .u8 c)) (m : Nat) (W : World) (hW : (w.drewN m).setCell ⟨g, 1, none⟩ (.int .i64 ((p : Int) + 1)) = W) :
    W.cell? ⟨g, 0, none⟩ = some (.slice (some ⟨b, off, none⟩) n cap) ∧ W.cell? ⟨g, 1, none⟩ = some (.int .i64 ((p : Int) + 1)) ∧ W.cell? ⟨b, off + p, none⟩ = some (.int .u8 c) ∧ Rdr W g ∧ w.grownBy W (some g) := by
  have hh' : (w.drewN m).heap[g]? = some (.cells #[.slice (some ⟨b, off, none⟩) n cap, .int .i64 p] 59 (0, 0)) := hh
  have h2 := heap_setCell_same (w.drewN m) g 1 _ _ (.int .i64 ((p : Int) + 1)) hh'
  rw [hW] at h2
  have ho : ∀ k, k ≠ g → W.heap[k]? = w.heap[k]? := fun k hk => by rw [← hW]; exact heap_setCell_other (w.drewN m) ⟨g, 1, none⟩ k _ hk
  have hoc : ∀ (a : Addr), a.block ≠ g → W.cell? a = w.cell? a := fun a ha => World.cell?_of_block (ho a.block ha)
  refine ⟨by rw [cell_of_row W g 0 _ _ _ h2]; rfl, by rw [cell_of_row W g 1 _ _ _ h2]; rfl, by rw [hoc _ (by show b ≠ g; omega)]; exact hcell, ?_, ?_⟩
  · refine ⟨some ⟨b, off, none⟩, n, cap, p + 1, h2, by omega, hn, fun _ => ⟨b, off, rfl, hbg, fun j hj => ?_⟩⟩
    rw [hoc _ (by show b ≠ g; omega)]
    exact hc j hj
  · rw [← hW]
    refine ⟨rfl, rfl, rfl, by simp, fun k _ hk => heap_setCell_other (w.drewN m) ⟨g, 1, none⟩ k _ (fun e => hk (by simp [e]))⟩

set_option maxHeartbeats 1000000 in
theorem next_any (g : Nat) (w : World) (h : Rdr w g) :
    Calls Try.prog 48 #[.pointer (some ⟨g, 0, none⟩)] w fun e w' => ∃ c : Int, e = .returned (.int .i64 c) ∧ 0 ≤ c ∧ c ≤ 255 ∧ Rdr w' g ∧ w.grownBy w' (some g) := by
  have hR := hide h
  obtain ⟨ad, n, cap, p, hh, hp, hn, hb⟩ := h
  have hc0 : w.cell? ⟨g, 0, none⟩ = some (.slice ad n cap) := by rw [cell_of_row w g 0 _ _ _ hh]; rfl
  have hc1 : w.cell? ⟨g, 1, none⟩ = some (.int .i64 p) := by rw [cell_of_row w g 1 _ _ _ hh]; rfl
  have hf1 : w.frozen? ⟨g, 1, none⟩ = false := frozen_of_row w g 1 _ _ hh
  have HH := hide hh
  clear hh
  by_cases hlt : p < n
  · obtain ⟨b, off, rfl, hbg, hc⟩ := hb (by omega)
    obtain ⟨c, hc0', hc255, hcell⟩ := hc p hlt
    have hne : ¬ b = g := by omega
    have hq : decide ((n : Int) ≤ (p : Int)) = false := by simp; omega
    have HC := hide hc
    clear hc hb
    go_enter Try.func48, Try.ntmps48
    go_wp2
    go_quiet (fail)
    all_goals go_wp2
    generalize hW : (w.drewN _).setCell ⟨g, 1, none⟩ (.int .i64 ((p : Int) + 1)) = W
    obtain ⟨d0, d1, d2, d3, d4⟩ := next_world HH.out hlt hn hbg HC.out hcell _ W hW
    have HF := hide (And.intro d3 d4)
    clear hW d3 d4 hcell hc0 hc1 hf1
    go_quiet (fail)
    all_goals go_wp2
    go_ret
    exact ⟨c, rfl, hc0', hc255, HF.out.1.grown (grown_drewN _ _ none) (fun k hk => by cases hk), grown_trans HF.out.2 (grown_drewN _ _ _)⟩
  · have hq : decide ((n : Int) ≤ (p : Int)) = true := by simp; omega
    clear hb
    go_enter Try.func48, Try.ntmps48
    go_wp2
    go_quiet (fail)
    all_goals go_wp2
    go_ret
    exact ⟨0, rfl, by omega, by omega, hR.out.grown (grown_drewN _ _ none) (fun k hk => by cases hk), grown_drewN _ _ _⟩

end Go.Proofs.Ytgflipkhhpkidaa

/- below, once, word, near -/
namespace Go.Proofs.Ytgflipkhhpkidaa
open Go.RowKit

set_option maxHeartbeats 1000000 in
theorem below_any (g : Nat) (n : Int) (w : World) (h : Rdr w g) (h1 : 1 ≤ n) (h2 : n ≤ 2097152) :
    Calls Try.prog 35 #[.pointer (some ⟨g, 0, none⟩), .int .i64 n] w fun e w' => ∃ c : Int, e = .returned (.int .i64 c) ∧ 0 ≤ c ∧ c < n ∧ Rdr w' g ∧ w.grownBy w' (some g) := by
  by_cases hn1 : n ≤ 1
  · go_enter Try.func35, Try.ntmps35
    go_wp2
    go_ret
    exact ⟨0, rfl, by omega, by omega, h, World.grownBy.refl _ _⟩
  · have hz : (n == 0) = false := by simp; omega
    by_cases hn2 : n ≤ 256
    · go_enter Try.func35, Try.ntmps35
      go_wp2_with fail
      refine (next_any g _ h).mono ?_
      rintro e w1 ⟨c, rfl, hc0, hc1, hr1, hg1⟩
      have HF := hide (And.intro hr1 hg1)
      clear hr1 hg1 h
      go_wp2
      go_ret
      exact ⟨_, rfl, Int.emod_nonneg _ (by omega), Int.emod_lt_of_pos _ (by omega), HF.out.1, HF.out.2⟩
    · go_enter Try.func35, Try.ntmps35
      go_wp2_with fail
      refine (next_any g _ h).mono ?_
      rintro e w1 ⟨c, rfl, hc0, hc1, hr1, hg1⟩
      clear h
      go_wp2_with fail
      refine (next_any g _ hr1).mono ?_
      rintro e w2 ⟨d, rfl, hd0, hd1, hr2, hg2⟩
      have HF := hide (And.intro hr2 (grown_trans hg1 hg2))
      clear hr1 hg1 hr2 hg2
      go_wp2
      go_ret
      exact ⟨_, rfl, Int.emod_nonneg _ (by omega), Int.emod_lt_of_pos _ (by omega), HF.out.1, HF.out.2⟩

set_option maxHeartbeats 1000000 in
theorem once_any (g : Nat) (n : Int) (w : World) (h : Rdr w g) (h1 : 1 ≤ n) (h2 : n ≤ 65536) :
    Calls Try.prog 34 #[.pointer (some ⟨g, 0, none⟩), .int .i64 n] w fun e w' => ∃ b : Bool, e = .returned (.bool b) ∧ Rdr w' g ∧ w.grownBy w' (some g) := by
  go_enter Try.func34, Try.ntmps34
  go_wp2_with fail
  refine (below_any g n _ h h1 (by omega)).mono ?_
  rintro e w1 ⟨c, rfl, hc0, hc1, hr1, hg1⟩
  have HF := hide (And.intro hr1 hg1)
  clear hr1 hg1 h
  go_wp2
  go_ret
  exact ⟨_, rfl, HF.out.1, HF.out.2⟩

set_option maxHeartbeats 1000000 in
theorem word_any (g : Nat) (w : World) (h : Rdr w g) :
    Calls Try.prog 62 #[.pointer (some ⟨g, 0, none⟩)] w fun e w' => ∃ c : Int, e = .returned (.int .u64 c) ∧ 0 ≤ c ∧ Rdr w' g ∧ w.grownBy w' (some g) := by
  have HR := hide h
  clear h
  go_enter Try.func62, Try.ntmps62
  go_wp2
  go_loopw [3, 4] (fun t i wr => ∃ (k : Nat) (s : Int), k ≤ 8 ∧ i = .int .i64 k ∧ t = .int .u64 s ∧ 0 ≤ s ∧ Rdr wr g ∧ w.grownBy wr (some g)) (fun _ i _ => 8 - (intOf i).toNat)
  case atStart => exact ⟨0, 0, Nat.zero_le _, rfl, rfl, by omega, HR.out, World.grownBy.refl _ _⟩
  case round =>
    obtain ⟨k, s, hk, rfl, rfl, hs0, hr, hg⟩ := hrel
    by_cases hlt : k < 8
    · go_wp2_with fail
      refine (next_any g _ hr).mono ?_
      rintro e w1 ⟨c, rfl, hc0, hc1, hr1, hg1⟩
      have HF := hide (And.intro hr1 (grown_trans hg hg1))
      clear hr hg hr1 hg1
      go_wp2
      go_roundw
      case rel => exact ⟨k + 1, _, by omega, by go_num, rfl, (bounds_u64 (wf_bits _ _ _ _)).1, HF.out.1, HF.out.2⟩
      case measure => simp [intOf]; omega
    · go_wp2
      go_ret
      exact ⟨s, rfl, hs0, hr, hg⟩

theorem near_val (lo hi m : Int) (h1 : -1048576 ≤ lo) (h3 : hi ≤ 1099511627776) (h0 : 0 ≤ m) (hm : m < hi - lo + 1) : lo ≤ wrap64 (lo + wrap64 m) ∧ wrap64 (lo + wrap64 m) ≤ hi := by
  rw [Go.IntWalk.wrap64_in m (by omega), Go.IntWalk.wrap64_in (lo + m) (by omega)]
  omega

set_option maxHeartbeats 2000000 in
theorem near_any (g : Nat) (lo hi : Int) (w : World) (h : Rdr w g) (h1 : -1048576 ≤ lo) (h2 : lo ≤ hi) (h3 : hi ≤ 1099511627776) :
    Calls Try.prog 50 #[.pointer (some ⟨g, 0, none⟩), .int .i64 lo, .int .i64 hi] w fun e w' => ∃ c : Int, e = .returned (.int .i64 c) ∧ lo ≤ c ∧ c ≤ hi ∧ Rdr w' g ∧ w.grownBy w' (some g) := by
  have hnl : ¬ hi < lo := by omega
  go_enter Try.func50, Try.ntmps50
  go_wp2_with fail
  refine (below_any g 8 _ h (by decide) (by decide)).mono ?_
  rintro e w1 ⟨c, rfl, hc0, hc1, hr1, hg1⟩
  clear h
  by_cases e0 : (c == 0) = true
  · have HF := hide (And.intro hr1 hg1)
    clear hr1 hg1
    go_wp2
    go_ret
    exact ⟨lo, rfl, by omega, by omega, HF.out.1, HF.out.2⟩
  · have e0' : (c == 0) = false := by simpa using e0
    clear e0
    by_cases e1 : (c == 1) = true
    · have HF := hide (And.intro hr1 hg1)
      clear hr1 hg1
      go_wp2
      go_ret
      exact ⟨hi, rfl, by omega, by omega, HF.out.1, HF.out.2⟩
    · have e1' : (c == 1) = false := by simpa using e1
      clear e1
      go_wp2_with fail
      refine (word_any g _ hr1).mono ?_
      rintro e w2 ⟨s, rfl, hs0, hr2, hg2⟩
      have HF := hide (And.intro hr2 (grown_trans hg1 hg2))
      clear hr1 hg1 hr2 hg2
      have hz : (hi - lo + 1 == 0) = false := by simp; omega
      go_wp2
      go_ret
      have hv := near_val lo hi (s / 2 % (hi - lo + 1)) h1 h3 (Int.emod_nonneg _ (by omega)) (Int.emod_lt_of_pos _ (by omega))
      exact ⟨_, rfl, hv.1, hv.2, HF.out.1, HF.out.2⟩

end Go.Proofs.Ytgflipkhhpkidaa

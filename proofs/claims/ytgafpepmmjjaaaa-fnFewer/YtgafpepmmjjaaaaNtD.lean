/- nets: the small tests; impl.NetOk -/
import Derived.Test.YtgafpepmmjjaaaaNtC
import Derived.Deep.QuietTactic
import Derived.BigQuiet
namespace Go.Proofs.Ytgafpepmmjjaaaa
open Go.RowKit
set_option linter.unusedVariables false
set_option linter.unusedSimpArgs false

theorem below_drewN {B : Nat} {a w : World} (h : Below B a w) (n : Nat) : Below B a (w.drewN n) := h.trans ⟨rfl, rfl, rfl, Nat.le_refl _, fun _ _ => rfl⟩
/-- from lo on, below hi -/
def inB (n lo hi : Int) : Bool := decide (lo ≤ n ∧ n < hi)
theorem all_no {n : Nat} {p : Nat → Bool} {k : Nat} (hk : k < n) (h : p k = false) : decide (∀ j, j < n → p j = true) = false := decide_eq_false fun hh => by rw [hh k hk] at h; cases h

set_option maxHeartbeats 1000000 in
theorem isBelow_any (n c : Int) (w : World) : Calls Try.prog 36 #[.int .i64 n, .int .i64 c] w fun e w' => e = .returned (.bool (inB n 0 c)) ∧ w' = w := by
  by_cases h0 : 0 ≤ n
  · by_cases h1 : n < c
    · have HO : Hid (true = inB n 0 c) := hide (by simp [inB, h0, h1])
      go_enter Try.func36, Try.ntmps36
      go_wp2
      go_ret
      exact ⟨ret_b HO.out, rfl⟩
    · have HO : Hid (false = inB n 0 c) := hide (by simp [inB, h1])
      go_enter Try.func36, Try.ntmps36
      go_wp2
      go_ret
      exact ⟨ret_b HO.out, rfl⟩
  · have HO : Hid (false = inB n 0 c) := hide (by simp [inB, h0])
    go_enter Try.func36, Try.ntmps36
    go_wp2
    go_ret
    exact ⟨ret_b HO.out, rfl⟩
set_option maxHeartbeats 1000000 in
theorem l1InB (n lo hi : Int) (w : World) : Calls Try.prog 38 #[.int .i64 n, .int .i64 lo, .int .i64 hi] w fun e w' => e = .returned (.bool (inB n lo (hi + 1))) ∧ w' = w := by
  by_cases h0 : lo ≤ n
  · by_cases h1 : n ≤ hi
    · have HO : Hid (true = inB n lo (hi + 1)) := hide (by simp [inB, h0]; omega)
      go_enter Try.func38, Try.ntmps38
      go_wp2
      go_ret
      exact ⟨ret_b HO.out, rfl⟩
    · have HO : Hid (false = inB n lo (hi + 1)) := hide (by simp [inB]; omega)
      go_enter Try.func38, Try.ntmps38
      go_wp2
      go_ret
      exact ⟨ret_b HO.out, rfl⟩
  · have HO : Hid (false = inB n lo (hi + 1)) := hide (by simp [inB]; omega)
    go_enter Try.func38, Try.ntmps38
    go_wp2
    go_ret
    exact ⟨ret_b HO.out, rfl⟩

/-- the first pair stands ahead of the second -/
def ahB (a b x y : Int) : Bool := decide (a < x) || (decide (a = x) && decide (b < y))
set_option maxHeartbeats 1000000 in
theorem isAhead_any (a b x y : Int) (w : World) : Calls Try.prog 37 #[.agg (pr a b), .agg (pr x y)] w fun e w' => e = .returned (.bool (ahB a b x y)) ∧ Below w.heap.size w w' := by
  have HB : Hid (Below w.heap.size w ((w.alloc (.cells (pr a b) 31)).alloc (.cells (pr x y) 31))) := hide (((Below.refl _ _).alloc (Nat.le_refl _) _).alloc (by simp) _)
  by_cases h0 : a < x
  · have HO : Hid (true = ahB a b x y) := hide (by simp [ahB, h0])
    go_enter Try.func37, Try.ntmps37
    go_wp2
    go_ret
    exact ⟨ret_b HO.out, HB.out⟩
  · by_cases h1 : a = x
    · subst h1
      by_cases h2 : b < y
      · have HO : Hid (true = ahB a b a y) := hide (by simp [ahB, h2])
        go_enter Try.func37, Try.ntmps37
        go_wp2
        go_ret
        exact ⟨ret_b HO.out, HB.out⟩
      · have HO : Hid (false = ahB a b a y) := hide (by simp [ahB, h2])
        go_enter Try.func37, Try.ntmps37
        go_wp2
        go_ret
        exact ⟨ret_b HO.out, HB.out⟩
    · have HO : Hid (false = ahB a b x y) := hide (by simp [ahB, h0, h1])
      go_enter Try.func37, Try.ntmps37
      go_wp2
      go_ret
      exact ⟨ret_b HO.out, HB.out⟩

set_option maxHeartbeats 1000000 in
theorem hasNode_any (N : Int) (v : Value) (x : Int) (w : World) : Calls Try.prog 32 #[.agg (nt N v), .int .i64 x] w fun e w' => e = .returned (.bool (inB x 0 N)) ∧ Below w.heap.size w w' := by
  have HB : Hid (Below w.heap.size w (w.alloc (.cells (nt N v) 26))) := hide ((Below.refl _ _).alloc (Nat.le_refl _) _)
  have hA := fun w => isBelow_any x N w
  generalize inB x 0 N = r at hA
  go_enter Try.func32, Try.ntmps32
  go_wp2_with fail
  refine (hA _).mono ?_
  rintro e w2 ⟨rfl, rfl⟩
  go_wp2
  go_ret
  exact ⟨rfl, HB.out⟩

/-- the k-th link is right, and behind the one ahead of it -/
def lkB (N : Int) (f : Nat → Nat → Int) (k : Nat) : Bool := inB (f k 0) 0 (f k 1) && inB (f k 1) 0 N && (decide (k = 0) || ahB (f (k - 1) 0) (f (k - 1) 1) (f k 0) (f k 1))
def netB (N : Int) (n : Nat) (f : Nat → Nat → Int) : Bool := inB N 1 7 && decide (∀ k, k < n → lkB N f k = true)

theorem net_no {N : Int} {n k : Nat} {f : Nat → Nat → Int} (hk : k < n) (h : lkB N f k = false) : false = netB N n f := by
  rw [netB, all_no (p := lkB N f) hk h, Bool.and_false]
theorem net_yes {N : Int} {n : Nat} {f : Nat → Nat → Int} (hN : inB N 1 7 = true) (h : ∀ k, k < n → lkB N f k = true) : true = netB N n f := by
  rw [netB, hN, decide_eq_true h]; rfl

set_option maxHeartbeats 4000000 in
theorem implNetOk_any (N : Int) (v : Value) (n : Nat) (f : Nat → Nat → Int) (w : World) (hs : Sr w v 2 n f) (hl : n ≤ 1048576) :
    Calls Try.prog 12 #[.agg (nt N v)] w fun e w' => e = .returned (.bool (netB N n f)) ∧ Below w.heap.size w w' := by
  obtain ⟨ad, cap, rfl, hs⟩ := hs
  have hB0 : Below w.heap.size w (w.alloc (.cells (nt N (.slice ad n cap)) 26)) := (Below.refl _ _).alloc (Nat.le_refl _) _
  have hbx : (w.alloc (.cells (nt N (.slice ad n cap)) 26)).heap[w.heap.size]? = some (.cells (nt N (.slice ad n cap)) 26 (0, 0)) := heap_alloc_new _ _
  by_cases hN : N < 1
  · have HO : Hid (false = netB N n f) := hide (by simp [netB, inB]; intro; omega)
    clear hs hbx
    go_enter Try.func12, Try.ntmps12
    go_wp2
    go_ret
    exact ⟨ret_b HO.out, hB0⟩
  by_cases hN6 : 6 < N
  · have HO : Hid (false = netB N n f) := hide (by simp [netB, inB]; intro; omega)
    clear hs hbx
    go_enter Try.func12, Try.ntmps12
    go_wp2
    go_ret
    exact ⟨ret_b HO.out, hB0⟩
  have HN : Hid (inB N 1 7 = true) := hide (by simp [inB]; omega)
  go_enter Try.func12, Try.ntmps12
  go_wp2
  go_loopw [16] (fun i wr => ∃ k : Nat, k ≤ n ∧ i = .int .i64 k ∧ wr.heap[w.heap.size]? = some (.cells (nt N (.slice ad n cap)) 26 (0, 0)) ∧ Below w.heap.size w wr ∧ Hid (∀ j, j < k → lkB N f j = true)) (fun i _ => n - (intOf i).toNat)
  case atStart => exact ⟨0, Nat.zero_le _, rfl, hbx, hB0, hide (fun j hj => by omega)⟩
  case round =>
    obtain ⟨k, hk, rfl, hbk0, hbk, HA⟩ := hrel
    clear hbx hB0
    by_cases hlt : k < n
    · obtain ⟨p, off, rfl, hc⟩ := hs (by omega)
      have q0 : wr.cell? ⟨p, off + k * 2, none⟩ = some (.int .i64 (f k 0)) := Below.keep hbk _ _ (hc k hlt 0 (by decide))
      have q1 : wr.cell? ⟨p, off + k * 2 + 1, none⟩ = some (.int .i64 (f k 1)) := Below.keep hbk _ _ (hc k hlt 1 (by decide))
      obtain ⟨_, n0, n1⟩ := row2_facts hbk0
      have hA2 : Below wr.heap.size wr (wr.alloc (.cells (pr (f k 0) (f k 1)) 31)) := (Below.refl _ _).alloc (Nat.le_refl _) _
      have hB2 := hbk.trans (hA2.mono hbk.size)
      have e0 : (wr.alloc (.cells (pr (f k 0) (f k 1)) 31)).cell? ⟨wr.heap.size, 0, none⟩ = some (.int .i64 (f k 0)) := cell_of_row _ _ 0 _ _ _ (heap_alloc_new _ _)
      have e1 : (wr.alloc (.cells (pr (f k 0) (f k 1)) 31)).cell? ⟨wr.heap.size, 1, none⟩ = some (.int .i64 (f k 1)) := cell_of_row _ _ 1 _ _ _ (heap_alloc_new _ _)
      have m0 := keepc hA2 n0
      have m1 := keepc hA2 n1
      have h1 := fun w => isBelow_any (f k 0) (f k 1) w
      have h2 := fun w => hasNode_any N (.slice (some ⟨p, off, none⟩) n cap) (f k 1) w
      have HN2 : Hid (lkB N f k = false → false = netB N n f) := hide (fun h => net_no hlt h)
      cases hx : inB (f k 0) 0 (f k 1)
      · have HO := hide (HN2.out (by simp [lkB, hx]))
        rw [hx] at h1
        clear hx hc hs HA h2 HN2 HN hA2
        go_wp2_with fail
        refine (h1 _).mono ?_
        rintro e w2 ⟨rfl, rfl⟩
        clear h1
        go_wp2
        go_ret
        exact ⟨ret_b HO.out, hB2⟩
      cases hy : inB (f k 1) 0 N
      · have HO := hide (HN2.out (by simp [lkB, hy]))
        rw [hx] at h1
        rw [hy] at h2
        clear hx hy hc hs HA HN2 HN hA2
        go_wp2_with fail
        refine (h1 _).mono ?_
        rintro e w2 ⟨rfl, rfl⟩
        clear h1
        go_wp2_with fail
        refine (h2 _).mono ?_
        rintro e w3 ⟨rfl, hb3⟩
        have HB := hide (hB2.trans (hb3.mono hB2.size))
        clear h2 hb3 hB2
        go_wp2
        go_ret
        exact ⟨ret_b HO.out, HB.out⟩
      rw [hx] at h1
      rw [hy] at h2
      have HXY := hide (And.intro hx hy)
      clear hx hy
      by_cases hk0 : k = 0
      · have HA2 : Hid (∀ j, j < k + 1 → lkB N f j = true) := hide (fun j hj => by
          by_cases e : j = k
          · rw [e, lkB, HXY.out.1, HXY.out.2, decide_eq_true hk0]; rfl
          · exact HA.out j (by omega))
        have hd0 : decide (0 < k) = false := by simp; omega
        clear hc hs HA HN2 HXY hk0
        go_wp2_with fail
        refine (h1 _).mono ?_
        rintro e w2 ⟨rfl, rfl⟩
        clear h1
        go_wp2_with fail
        refine (h2 _).mono ?_
        rintro e w3 ⟨rfl, hb3⟩
        have HB := hide (And.intro ((hb3.block _ (by have := lt_of_block hbk0; simp; omega)).trans ((hA2.block _ (lt_of_block hbk0)).trans hbk0)) (hB2.trans (hb3.mono hB2.size)))
        clear h2 hb3 hB2 hbk hbk0 hA2
        go_wp2
        go_quiet (fail)
        go_wp2
        go_roundw
        case rel => exact ⟨k + 1, by omega, by go_num, HB.out.1, below_drewN HB.out.2 _, HA2⟩
        case measure => simp [intOf]; omega
      · have p0 := Below.keep hB2 _ _ (hc (k - 1) (by omega) 0 (by decide))
        have p1 := Below.keep hB2 _ _ (hc (k - 1) (by omega) 1 (by decide))
        have h4 := fun w => isAhead_any (f (k - 1) 0) (f (k - 1) 1) (f k 0) (f k 1) w
        have HA3 : Hid (ahB (f (k - 1) 0) (f (k - 1) 1) (f k 0) (f k 1) = true → ∀ j, j < k + 1 → lkB N f j = true) := hide (fun ha j hj => by
          by_cases e : j = k
          · rw [e, lkB, HXY.out.1, HXY.out.2, ha]; simp
          · exact HA.out j (by omega))
        have HO3 : Hid (ahB (f (k - 1) 0) (f (k - 1) 1) (f k 0) (f k 1) = false → false = netB N n f) := hide (fun ha => HN2.out (by rw [lkB, ha, decide_eq_false hk0]; simp))
        generalize ahB (f (k - 1) 0) (f (k - 1) 1) (f k 0) (f k 1) = r at h4 HA3 HO3
        obtain ⟨i, hi⟩ : ∃ i, k = i + 1 := ⟨k - 1, by omega⟩
        have hki : k - 1 = i := by omega
        rw [hki] at p0 p1 h4
        have hw1 : wrap64 ((k : Int) - 1) = (i : Int) := by rw [Go.IntWalk.wrap64_in _ (by omega)]; omega
        have hd0 : 0 < k := by omega
        have hw2 : IntKind.i64.wrap ((k : Int) - 1) = (i : Int) := (Go.IntWalk.i64_left _).trans hw1
        have hi0 : (0 : Int) ≤ (i : Int) := by omega
        have hi1 : (i : Int) < (n : Int) := by omega
        clear hc hs HA HN2 HXY hk0 hki hi
        go_wp2_with fail
        refine (h1 _).mono ?_
        rintro e w2 ⟨rfl, rfl⟩
        clear h1
        go_wp2_with fail
        refine (h2 _).mono ?_
        rintro e w3 ⟨rfl, hb3⟩
        have hr3 := (hb3.block _ (by have := lt_of_block hbk0; simp; omega)).trans ((hA2.block _ (lt_of_block hbk0)).trans hbk0)
        have hB3 := hB2.trans (hb3.mono hB2.size)
        have x0 := keepc hb3 p0
        have x1 := keepc hb3 p1
        have y0 := keepc hb3 e0
        have y1 := keepc hb3 e1
        have y2 := keepc hb3 m1
        clear h2 hb3 hB2 hbk hbk0 hA2 p0 p1 e0 e1 m0 m1 q0 q1 n0 n1
        go_wp2
        go_region_held3 (fun w' => w'.cell? ⟨p, off + i * 2, none⟩ = some (.int .i64 (f i 0)) ∧ w'.cell? ⟨p, off + i * 2 + 1, none⟩ = some (.int .i64 (f i 1)) ∧ w'.cell? ⟨wr.heap.size, 0, none⟩ = some (.int .i64 (f k 0)) ∧ w'.cell? ⟨wr.heap.size, 1, none⟩ = some (.int .i64 (f k 1)) ∧ w'.cell? ⟨w.heap.size, 1, none⟩ = some (.slice (some ⟨p, off, none⟩) n cap)) (first | exact ⟨x0, x1, y0, y1, y2⟩ | exact ⟨keepc hb4 x0, keepc hb4 x1, keepc hb4 y0, keepc hb4 y1, keepc hb4 y2⟩) (first | (go_at_call 37; refine (h4 _).mono ?_; rintro e w4 ⟨rfl, hb4⟩))
        all_goals have hB4 := hB3.drew.trans (hb4.mono hB3.drew.size)
        all_goals have hr4 := (hb4.block _ (lt_of_block hr3)).trans hr3
        cases r
        · have HO := hide (HO3.out rfl)
          clear hb4 hB3 hr3 HA3 HO3 h4
          go_wp2
          go_ret
          exact ⟨ret_b HO.out, hB4⟩
        · have HA2 := hide (HA3.out rfl)
          clear hb4 hB3 hr3 HA3 HO3 h4
          go_wp2
          go_roundw
          case rel => exact ⟨k + 1, by omega, by go_num, hr4, hB4, HA2⟩
          case measure => simp [intOf]; omega
    · have e : k = n := by omega
      subst e
      have HO : Hid (true = netB N k f) := hide (net_yes HN.out HA.out)
      clear hs
      go_wp2
      go_ret
      exact ⟨ret_b HO.out, hbk⟩

end Go.Proofs.Ytgafpepmmjjaaaa

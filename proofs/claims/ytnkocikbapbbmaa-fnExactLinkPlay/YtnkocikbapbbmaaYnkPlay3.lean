/- LnkC -/
import Derived.Test.YtnkocikbapbbmaaYnkPlay2
/- impl.LinkOk (written by mkLnkC.py) -/
namespace Go.Proofs.Ytnkocikbapbbmaa
open Go.RowKit
set_option linter.unusedVariables false
set_option linter.unusedSimpArgs false

/-- the numbers of a right link -/
def nbP (pb pk : Int) (nw ng : Nat) : Prop := 0 ≤ pb ∧ pb ≤ 999900 ∧ nw ≤ 8 ∧ pb ≤ pk ∧ pk ≤ pb + nw ∧ pk = (ng : Int)
instance (pb pk : Int) (nw ng : Nat) : Decidable (nbP pb pk nw ng) := by unfold nbP; infer_instance
def nbB (pb pk : Int) (nw ng : Nat) : Bool := decide (nbP pb pk nw ng)
def wiB (n : Nat) (t : Nat → ByteArray) : Bool := decide ((∀ j, j < n → 7 ≤ (t j).size ∧ (t j).size ≤ 15) ∧ n ≤ 12)
def tbB (n : Nat) (s : Nat → ByteArray) : Bool := decide (∀ j, j < n → (s j).size ≤ 8)
/-- what was got from base on waits still -/
def maB (bn ng : Nat) (ws gs : Nat → ByteArray) : Bool := decide (∀ j, j < ng - bn → ws j = gs (bn + j))
def lkB (p : Lk) : Bool := nbB p.base p.want p.nw p.ng && (maB p.base.toNat p.ng p.ws p.gs && (tbB p.nw p.ws && tbB p.ng p.gs)) && wiB p.nd p.dt && wiB p.nu p.ut

theorem retb {a b : Bool} (h : a = b) : Ending.returned (.bool a) = .returned (.bool b) := by rw [h]

set_option maxHeartbeats 2000000 in
theorem implWires_any (v : Value) (n : Nat) (t : Nat → ByteArray) (hh : Nat → Bool) (w : World) (hs : Sg w v 2 n (wF t hh)) (hl : n ≤ 1048576) :
    Calls Try.prog 37 #[v] w fun e w' => e = .returned (.bool (wiB n t)) ∧ Below w.heap.size w w' := by
  obtain ⟨ad, cap, rfl, hs⟩ := hs
  go_enter Try.func37, Try.ntmps37
  go_wp2
  go_loopw [7] (fun i wr => ∃ k : Nat, k ≤ n ∧ i = .int .i64 k ∧ Hid (Below w.heap.size w wr) ∧ Hid (∀ j, j < k → 7 ≤ (t j).size ∧ (t j).size ≤ 15)) (fun i _ => n - (intOf i).toNat)
  case atStart => exact ⟨0, Nat.zero_le _, rfl, hide (Below.refl _ _), hide (fun j hj => absurd hj (by omega))⟩
  case round =>
    obtain ⟨k, hk, rfl, HB, HK⟩ := hrel
    by_cases hlt : k < n
    · obtain ⟨p, off, rfl, hc⟩ := hs (by omega)
      have q0 : wr.cell? ⟨p, off + k * 2, none⟩ = some (.string (t k)) := keepc HB.out (hc k hlt 0 (by omega))
      have q1 : wr.cell? ⟨p, off + k * 2 + 1, none⟩ = some (.bool (hh k)) := keepc HB.out (hc k hlt 1 (by omega))
      have hk0 : (0 : Int) ≤ (k : Int) := by omega
      have hk1 : (k : Int) < (n : Int) := by omega
      have HB2 : Hid (∀ o, Below w.heap.size w (wr.alloc o)) := hide (fun o => HB.out.alloc HB.out.size o)
      have HK2 : Hid (7 ≤ (t k).size ∧ (t k).size ≤ 15 → ∀ j, j < k + 1 → 7 ≤ (t j).size ∧ (t j).size ≤ 15) := hide (fun h j hj => by
        by_cases e : j = k
        · subst e; exact h
        · exact HK.out j (by omega))
      have HNO : Hid (¬ (7 ≤ (t k).size ∧ (t k).size ≤ 15) → false = wiB n t) := hide (fun h => (decide_eq_false (fun hh => h (hh.1 k hlt))).symm)
      clear hs hc
      generalize t k = tk at q0 HK2 HNO
      generalize hh k = hk' at q1
      by_cases c1 : tk.size < 7
      · have d1 : decide ((tk.size : Int) < 7) = true := by simp; omega
        have HO := hide (HNO.out (by omega))
        go_wp2
        go_ret
        exact ⟨retb HO.out, HB2.out _⟩
      have d1 : decide ((tk.size : Int) < 7) = false := by simp; omega
      by_cases c2 : 15 < tk.size
      · have d2 : decide ((15 : Int) < (tk.size : Int)) = true := by simp; omega
        have HO := hide (HNO.out (by omega))
        go_wp2
        go_ret
        exact ⟨retb HO.out, HB2.out _⟩
      have d2 : decide ((15 : Int) < (tk.size : Int)) = false := by simp; omega
      have HK3 := hide (HK2.out (by omega))
      go_wp2
      go_roundw
      case rel => exact ⟨k + 1, by omega, by go_num, hide (HB2.out _), HK3⟩
      case measure => simp [intOf]; omega
    · have HO : Hid (decide ((n : Int) ≤ 12) = wiB n t) := hide (by
        unfold wiB
        rw [decide_eq_decide]
        exact ⟨fun h => ⟨fun j hj => HK.out j (by omega), by omega⟩, fun h => by have := h.2; omega⟩)
      clear hs
      generalize hq : decide ((n : Int) ≤ 12) = q at HO
      cases q
      all_goals
        go_wp2
        go_ret
        exact ⟨retb HO.out, HB.out⟩

set_option maxHeartbeats 2000000 in
theorem implTexts_any (v : Value) (n : Nat) (s : Nat → ByteArray) (w : World) (hs : Sg w v 1 n (tF s)) (hl : n ≤ 1048576) :
    Calls Try.prog 55 #[v] w fun e w' => e = .returned (.bool (tbB n s)) ∧ w' = w := by
  obtain ⟨ad, cap, rfl, hs⟩ := hs
  go_enter Try.func55, Try.ntmps55
  go_wp2
  go_loopw [7] (fun i wr => ∃ k : Nat, k ≤ n ∧ i = .int .i64 k ∧ wr = w ∧ Hid (∀ j, j < k → (s j).size ≤ 8)) (fun i _ => n - (intOf i).toNat)
  case atStart => exact ⟨0, Nat.zero_le _, rfl, rfl, hide (fun j hj => absurd hj (by omega))⟩
  case round =>
    obtain ⟨k, hk, rfl, rfl, HK⟩ := hrel
    by_cases hlt : k < n
    · obtain ⟨p, off, rfl, hc⟩ := hs (by omega)
      have q0 : wr.cell? ⟨p, off + k, none⟩ = some (.string (s k)) := by
        have := hc k hlt 0 (by omega)
        rwa [Nat.mul_one, Nat.add_zero] at this
      have HK2 : Hid ((s k).size ≤ 8 → ∀ j, j < k + 1 → (s j).size ≤ 8) := hide (fun h j hj => by
        by_cases e : j = k
        · subst e; exact h
        · exact HK.out j (by omega))
      have HNO : Hid (¬ (s k).size ≤ 8 → false = tbB n s) := hide (fun h => (decide_eq_false (fun hh => h (hh k hlt))).symm)
      clear hs hc
      generalize s k = tk at q0 HK2 HNO
      by_cases c1 : tk.size ≤ 8
      · have d1 : decide ((tk.size : Int) ≤ 8) = true := by simp; omega
        have HK3 := hide (HK2.out c1)
        go_wp2_with go_in
        go_roundw
        case rel => exact ⟨k + 1, by omega, by go_num, by first | rfl | trivial, HK3⟩
        case measure => simp [intOf]; omega
      · have d1 : decide ((tk.size : Int) ≤ 8) = false := by simp; omega
        have HO := hide (HNO.out c1)
        go_wp2_with go_in
        go_ret
        exact ⟨retb HO.out, by first | rfl | trivial⟩
    · have HO : Hid (true = tbB n s) := hide (decide_eq_true (fun j hj => HK.out j (by omega))).symm
      clear hs
      go_wp2
      go_ret
      exact ⟨retb HO.out, by first | rfl | trivial⟩

theorem end_any (pb pk : Int) (wa ga da ua : Option Addr) (nw ng nd nu wc gc dc uc : Nat) (w : World) (h1 : 0 ≤ pb) (h2 : pb ≤ 999900) (h3 : nw ≤ 8) :
    Calls Try.prog 54 #[.agg (l6 pb (.slice wa nw wc) pk (.slice ga ng gc) (.slice da nd dc) (.slice ua nu uc))] w fun e w' => e = .returned (.int .i64 (pb + nw)) ∧ Below w.heap.size w w' := by
  have hw : wrap64 (pb + (nw : Int)) = pb + nw := Go.IntWalk.wrap64_in _ (by omega)
  go_enter Try.func54, Try.ntmps54
  go_wp2
  go_ret
  exact ⟨rfl, (Below.refl _ _).alloc (Nat.le_refl _) _⟩

set_option maxRecDepth 20000 in
set_option maxHeartbeats 8000000 in
theorem numbers_any (pb pk : Int) (wa ga da ua : Option Addr) (nw ng nd nu wc gc dc uc : Nat) (w : World) :
    Calls Try.prog 35 #[.agg (l6 pb (.slice wa nw wc) pk (.slice ga ng gc) (.slice da nd dc) (.slice ua nu uc))] w fun e w' => e = .returned (.bool (nbB pb pk nw ng)) ∧ Below w.heap.size w w' := by
  have hB0 : Below w.heap.size w (w.alloc (.cells (l6 pb (.slice wa nw wc) pk (.slice ga ng gc) (.slice da nd dc) (.slice ua nu uc)) 30)) := (Below.refl _ _).alloc (Nat.le_refl _) _
  obtain ⟨_, x0, x1, x2, x3, x4, x5⟩ := box6 (heap_alloc_new w (.cells (l6 pb (.slice wa nw wc) pk (.slice ga ng gc) (.slice da nd dc) (.slice ua nu uc)) 30))
  obtain ⟨W, hE⟩ : ∃ W, w.alloc (.cells (l6 pb (.slice wa nw wc) pk (.slice ga ng gc) (.slice da nd dc) (.slice ua nu uc)) 30) = W := ⟨_, rfl⟩
  rw [hE] at hB0 x0 x1 x2 x3 x4 x5
  by_cases h1 : ¬ (0 ≤ pb)
  · have HD : Hid (nbB pb pk nw ng = false) := hide (decide_eq_false (fun h => by unfold nbP at h; omega))
    have d1 : decide ((0 : Int) ≤ pb) = false := by simp; omega
    go_enter Try.func35, Try.ntmps35
    go_wp2
    clear hE
    refine wp_region_held_drew (S := fun w' => Below W.heap.size W w') (by kernel_rfl) ((Below.refl _ _).drew) (fun hHeld => ?_)
    refine th0 0 (.pointer (some ⟨w.heap.size, 0, none⟩)) rfl fun _ => ?_
    refine th 1 (.int .i64 pb) rfl (fun w' hSw => by (try dsimp only at hSw); obtain ⟨z0, z1, z2, z3, z4, z5⟩ := k6H hSw x0 x1 x2 x3 x4 x5; go_simp) fun _ => ?_
    refine th0 2 (.bool false) rfl fun _ => ?_
    refine th0 3 (.bool false) rfl fun _ => ?_
    refine thu 4 rfl fun _ => ?_
    refine thu 5 rfl fun _ => ?_
    refine thu 6 rfl fun _ => ?_
    refine th0 7 (.bool false) rfl fun _ => ?_
    refine th0 8 (.bool false) rfl fun _ => ?_
    refine thu 9 rfl fun _ => ?_
    refine thu 10 rfl fun _ => ?_
    refine thu 11 rfl fun _ => ?_
    refine thu 12 rfl fun _ => ?_
    refine th0 13 (.bool false) rfl fun _ => ?_
    refine th0 14 (.bool false) rfl fun _ => ?_
    refine thu 15 rfl fun _ => ?_
    refine thu 16 rfl fun _ => ?_
    refine thu 17 rfl fun _ => ?_
    refine thu 18 rfl fun _ => ?_
    refine thu 19 rfl fun _ => ?_
    refine th0 20 (.bool false) rfl fun _ => ?_
    refine th0 21 (.bool false) rfl fun _ => ?_
    refine thu 22 rfl fun _ => ?_
    refine thu 23 rfl fun _ => ?_
    refine thu 24 rfl fun _ => ?_
    refine thu 25 rfl fun _ => ?_
    refine thu 26 rfl fun _ => ?_
    refine th0 27 (.bool false) rfl fun _ => ?_
    refine th0 28 (.bool false) rfl fun _ => ?_
    refine thu 29 rfl fun _ => ?_
    refine thu 30 rfl fun _ => ?_
    refine thu 31 rfl fun _ => ?_
    refine thu 32 rfl fun _ => ?_
    refine thu 33 rfl fun _ => ?_
    refine thu 34 rfl fun _ => ?_
    refine th0 35 (.bool false) rfl fun _ => ?_
    refine th0 36 (.bool false) rfl fun _ => ?_
    refine wpAnyH_done (by kernel_rfl) ?_ _
    have HBZ := hide (hB0.trans (hHeld.mono hB0.size))
    clear hHeld x0 x1 x2 x3 x4 x5 hB0
    go_wp2
    go_ret
    exact ⟨by rw [HD.out]; rfl, HBZ.out⟩
  replace h1 : 0 ≤ pb := Decidable.of_not_not h1
  have d1 : decide ((0 : Int) ≤ pb) = true := by simp; omega
  by_cases h2 : ¬ (pb ≤ 999900)
  · have HD : Hid (nbB pb pk nw ng = false) := hide (decide_eq_false (fun h => by unfold nbP at h; omega))
    have d2 : decide (pb ≤ 999900) = false := by simp; omega
    go_enter Try.func35, Try.ntmps35
    go_wp2
    clear hE
    refine wp_region_held_drew (S := fun w' => Below W.heap.size W w') (by kernel_rfl) ((Below.refl _ _).drew) (fun hHeld => ?_)
    refine th0 0 (.pointer (some ⟨w.heap.size, 0, none⟩)) rfl fun _ => ?_
    refine th 1 (.int .i64 pb) rfl (fun w' hSw => by (try dsimp only at hSw); obtain ⟨z0, z1, z2, z3, z4, z5⟩ := k6H hSw x0 x1 x2 x3 x4 x5; go_simp) fun _ => ?_
    refine th0 2 (.bool true) rfl fun _ => ?_
    refine th0 3 (.bool true) rfl fun _ => ?_
    refine th0 4 (.pointer (some ⟨w.heap.size, 0, none⟩)) rfl fun _ => ?_
    refine th 5 (.int .i64 pb) rfl (fun w' hSw => by (try dsimp only at hSw); obtain ⟨z0, z1, z2, z3, z4, z5⟩ := k6H hSw x0 x1 x2 x3 x4 x5; go_simp) fun _ => ?_
    refine th0 6 (.bool false) rfl fun _ => ?_
    refine th0 7 (.bool false) rfl fun _ => ?_
    refine th0 8 (.bool false) rfl fun _ => ?_
    refine thu 9 rfl fun _ => ?_
    refine thu 10 rfl fun _ => ?_
    refine thu 11 rfl fun _ => ?_
    refine thu 12 rfl fun _ => ?_
    refine th0 13 (.bool false) rfl fun _ => ?_
    refine th0 14 (.bool false) rfl fun _ => ?_
    refine thu 15 rfl fun _ => ?_
    refine thu 16 rfl fun _ => ?_
    refine thu 17 rfl fun _ => ?_
    refine thu 18 rfl fun _ => ?_
    refine thu 19 rfl fun _ => ?_
    refine th0 20 (.bool false) rfl fun _ => ?_
    refine th0 21 (.bool false) rfl fun _ => ?_
    refine thu 22 rfl fun _ => ?_
    refine thu 23 rfl fun _ => ?_
    refine thu 24 rfl fun _ => ?_
    refine thu 25 rfl fun _ => ?_
    refine thu 26 rfl fun _ => ?_
    refine th0 27 (.bool false) rfl fun _ => ?_
    refine th0 28 (.bool false) rfl fun _ => ?_
    refine thu 29 rfl fun _ => ?_
    refine thu 30 rfl fun _ => ?_
    refine thu 31 rfl fun _ => ?_
    refine thu 32 rfl fun _ => ?_
    refine thu 33 rfl fun _ => ?_
    refine thu 34 rfl fun _ => ?_
    refine th0 35 (.bool false) rfl fun _ => ?_
    refine th0 36 (.bool false) rfl fun _ => ?_
    refine wpAnyH_done (by kernel_rfl) ?_ _
    have HBZ := hide (hB0.trans (hHeld.mono hB0.size))
    clear hHeld x0 x1 x2 x3 x4 x5 hB0
    go_wp2
    go_ret
    exact ⟨by rw [HD.out]; rfl, HBZ.out⟩
  replace h2 : pb ≤ 999900 := Decidable.of_not_not h2
  have d2 : decide (pb ≤ 999900) = true := by simp; omega
  by_cases h3 : ¬ (nw ≤ 8)
  · have HD : Hid (nbB pb pk nw ng = false) := hide (decide_eq_false (fun h => by unfold nbP at h; omega))
    have d3 : decide ((nw : Int) ≤ 8) = false := by simp; omega
    go_enter Try.func35, Try.ntmps35
    go_wp2
    clear hE
    refine wp_region_held_drew (S := fun w' => Below W.heap.size W w') (by kernel_rfl) ((Below.refl _ _).drew) (fun hHeld => ?_)
    refine th0 0 (.pointer (some ⟨w.heap.size, 0, none⟩)) rfl fun _ => ?_
    refine th 1 (.int .i64 pb) rfl (fun w' hSw => by (try dsimp only at hSw); obtain ⟨z0, z1, z2, z3, z4, z5⟩ := k6H hSw x0 x1 x2 x3 x4 x5; go_simp) fun _ => ?_
    refine th0 2 (.bool true) rfl fun _ => ?_
    refine th0 3 (.bool true) rfl fun _ => ?_
    refine th0 4 (.pointer (some ⟨w.heap.size, 0, none⟩)) rfl fun _ => ?_
    refine th 5 (.int .i64 pb) rfl (fun w' hSw => by (try dsimp only at hSw); obtain ⟨z0, z1, z2, z3, z4, z5⟩ := k6H hSw x0 x1 x2 x3 x4 x5; go_simp) fun _ => ?_
    refine th0 6 (.bool true) rfl fun _ => ?_
    refine th0 7 (.bool true) rfl fun _ => ?_
    refine th0 8 (.bool true) rfl fun _ => ?_
    refine th0 9 (.pointer (some ⟨w.heap.size, 1, none⟩)) rfl fun _ => ?_
    refine th 10 (.slice wa nw wc) rfl (fun w' hSw => by (try dsimp only at hSw); obtain ⟨z0, z1, z2, z3, z4, z5⟩ := k6H hSw x0 x1 x2 x3 x4 x5; go_simp) fun _ => ?_
    refine th0 11 (.int .i64 nw) rfl fun _ => ?_
    refine th0 12 (.bool false) rfl fun _ => ?_
    refine th0 13 (.bool false) rfl fun _ => ?_
    refine th0 14 (.bool false) rfl fun _ => ?_
    refine thu 15 rfl fun _ => ?_
    refine thu 16 rfl fun _ => ?_
    refine thu 17 rfl fun _ => ?_
    refine thu 18 rfl fun _ => ?_
    refine thu 19 rfl fun _ => ?_
    refine th0 20 (.bool false) rfl fun _ => ?_
    refine th0 21 (.bool false) rfl fun _ => ?_
    refine thu 22 rfl fun _ => ?_
    refine thu 23 rfl fun _ => ?_
    refine thu 24 rfl fun _ => ?_
    refine thu 25 rfl fun _ => ?_
    refine thu 26 rfl fun _ => ?_
    refine th0 27 (.bool false) rfl fun _ => ?_
    refine th0 28 (.bool false) rfl fun _ => ?_
    refine thu 29 rfl fun _ => ?_
    refine thu 30 rfl fun _ => ?_
    refine thu 31 rfl fun _ => ?_
    refine thu 32 rfl fun _ => ?_
    refine thu 33 rfl fun _ => ?_
    refine thu 34 rfl fun _ => ?_
    refine th0 35 (.bool false) rfl fun _ => ?_
    refine th0 36 (.bool false) rfl fun _ => ?_
    refine wpAnyH_done (by kernel_rfl) ?_ _
    have HBZ := hide (hB0.trans (hHeld.mono hB0.size))
    clear hHeld x0 x1 x2 x3 x4 x5 hB0
    go_wp2
    go_ret
    exact ⟨by rw [HD.out]; rfl, HBZ.out⟩
  replace h3 : nw ≤ 8 := Decidable.of_not_not h3
  have d3 : decide ((nw : Int) ≤ 8) = true := by simp; omega
  by_cases h4 : ¬ (pb ≤ pk)
  · have HD : Hid (nbB pb pk nw ng = false) := hide (decide_eq_false (fun h => by unfold nbP at h; omega))
    have d4 : decide (pb ≤ pk) = false := by simp; omega
    go_enter Try.func35, Try.ntmps35
    go_wp2
    clear hE
    refine wp_region_held_drew (S := fun w' => Below W.heap.size W w') (by kernel_rfl) ((Below.refl _ _).drew) (fun hHeld => ?_)
    refine th0 0 (.pointer (some ⟨w.heap.size, 0, none⟩)) rfl fun _ => ?_
    refine th 1 (.int .i64 pb) rfl (fun w' hSw => by (try dsimp only at hSw); obtain ⟨z0, z1, z2, z3, z4, z5⟩ := k6H hSw x0 x1 x2 x3 x4 x5; go_simp) fun _ => ?_
    refine th0 2 (.bool true) rfl fun _ => ?_
    refine th0 3 (.bool true) rfl fun _ => ?_
    refine th0 4 (.pointer (some ⟨w.heap.size, 0, none⟩)) rfl fun _ => ?_
    refine th 5 (.int .i64 pb) rfl (fun w' hSw => by (try dsimp only at hSw); obtain ⟨z0, z1, z2, z3, z4, z5⟩ := k6H hSw x0 x1 x2 x3 x4 x5; go_simp) fun _ => ?_
    refine th0 6 (.bool true) rfl fun _ => ?_
    refine th0 7 (.bool true) rfl fun _ => ?_
    refine th0 8 (.bool true) rfl fun _ => ?_
    refine th0 9 (.pointer (some ⟨w.heap.size, 1, none⟩)) rfl fun _ => ?_
    refine th 10 (.slice wa nw wc) rfl (fun w' hSw => by (try dsimp only at hSw); obtain ⟨z0, z1, z2, z3, z4, z5⟩ := k6H hSw x0 x1 x2 x3 x4 x5; go_simp) fun _ => ?_
    refine th0 11 (.int .i64 nw) rfl fun _ => ?_
    refine th0 12 (.bool true) rfl fun _ => ?_
    refine th0 13 (.bool true) rfl fun _ => ?_
    refine th0 14 (.bool true) rfl fun _ => ?_
    refine th0 15 (.pointer (some ⟨w.heap.size, 2, none⟩)) rfl fun _ => ?_
    refine th 16 (.int .i64 pk) rfl (fun w' hSw => by (try dsimp only at hSw); obtain ⟨z0, z1, z2, z3, z4, z5⟩ := k6H hSw x0 x1 x2 x3 x4 x5; go_simp) fun _ => ?_
    refine th0 17 (.pointer (some ⟨w.heap.size, 0, none⟩)) rfl fun _ => ?_
    refine th 18 (.int .i64 pb) rfl (fun w' hSw => by (try dsimp only at hSw); obtain ⟨z0, z1, z2, z3, z4, z5⟩ := k6H hSw x0 x1 x2 x3 x4 x5; go_simp) fun _ => ?_
    refine th0 19 (.bool false) rfl fun _ => ?_
    refine th0 20 (.bool false) rfl fun _ => ?_
    refine th0 21 (.bool false) rfl fun _ => ?_
    refine thu 22 rfl fun _ => ?_
    refine thu 23 rfl fun _ => ?_
    refine thu 24 rfl fun _ => ?_
    refine thu 25 rfl fun _ => ?_
    refine thu 26 rfl fun _ => ?_
    refine th0 27 (.bool false) rfl fun _ => ?_
    refine th0 28 (.bool false) rfl fun _ => ?_
    refine thu 29 rfl fun _ => ?_
    refine thu 30 rfl fun _ => ?_
    refine thu 31 rfl fun _ => ?_
    refine thu 32 rfl fun _ => ?_
    refine thu 33 rfl fun _ => ?_
    refine thu 34 rfl fun _ => ?_
    refine th0 35 (.bool false) rfl fun _ => ?_
    refine th0 36 (.bool false) rfl fun _ => ?_
    refine wpAnyH_done (by kernel_rfl) ?_ _
    have HBZ := hide (hB0.trans (hHeld.mono hB0.size))
    clear hHeld x0 x1 x2 x3 x4 x5 hB0
    go_wp2
    go_ret
    exact ⟨by rw [HD.out]; rfl, HBZ.out⟩
  replace h4 : pb ≤ pk := Decidable.of_not_not h4
  have d4 : decide (pb ≤ pk) = true := by simp; omega
  by_cases h5 : ¬ (pk ≤ pb + nw)
  · have HD : Hid (nbB pb pk nw ng = false) := hide (decide_eq_false (fun h => by unfold nbP at h; omega))
    have d5 : decide (pk ≤ pb + (nw : Int)) = false := by simp; omega
    go_enter Try.func35, Try.ntmps35
    go_wp2
    clear hE
    refine wp_region_held_drew (S := fun w' => Below W.heap.size W w') (by kernel_rfl) ((Below.refl _ _).drew) (fun hHeld => ?_)
    refine th0 0 (.pointer (some ⟨w.heap.size, 0, none⟩)) rfl fun _ => ?_
    refine th 1 (.int .i64 pb) rfl (fun w' hSw => by (try dsimp only at hSw); obtain ⟨z0, z1, z2, z3, z4, z5⟩ := k6H hSw x0 x1 x2 x3 x4 x5; go_simp) fun _ => ?_
    refine th0 2 (.bool true) rfl fun _ => ?_
    refine th0 3 (.bool true) rfl fun _ => ?_
    refine th0 4 (.pointer (some ⟨w.heap.size, 0, none⟩)) rfl fun _ => ?_
    refine th 5 (.int .i64 pb) rfl (fun w' hSw => by (try dsimp only at hSw); obtain ⟨z0, z1, z2, z3, z4, z5⟩ := k6H hSw x0 x1 x2 x3 x4 x5; go_simp) fun _ => ?_
    refine th0 6 (.bool true) rfl fun _ => ?_
    refine th0 7 (.bool true) rfl fun _ => ?_
    refine th0 8 (.bool true) rfl fun _ => ?_
    refine th0 9 (.pointer (some ⟨w.heap.size, 1, none⟩)) rfl fun _ => ?_
    refine th 10 (.slice wa nw wc) rfl (fun w' hSw => by (try dsimp only at hSw); obtain ⟨z0, z1, z2, z3, z4, z5⟩ := k6H hSw x0 x1 x2 x3 x4 x5; go_simp) fun _ => ?_
    refine th0 11 (.int .i64 nw) rfl fun _ => ?_
    refine th0 12 (.bool true) rfl fun _ => ?_
    refine th0 13 (.bool true) rfl fun _ => ?_
    refine th0 14 (.bool true) rfl fun _ => ?_
    refine th0 15 (.pointer (some ⟨w.heap.size, 2, none⟩)) rfl fun _ => ?_
    refine th 16 (.int .i64 pk) rfl (fun w' hSw => by (try dsimp only at hSw); obtain ⟨z0, z1, z2, z3, z4, z5⟩ := k6H hSw x0 x1 x2 x3 x4 x5; go_simp) fun _ => ?_
    refine th0 17 (.pointer (some ⟨w.heap.size, 0, none⟩)) rfl fun _ => ?_
    refine th 18 (.int .i64 pb) rfl (fun w' hSw => by (try dsimp only at hSw); obtain ⟨z0, z1, z2, z3, z4, z5⟩ := k6H hSw x0 x1 x2 x3 x4 x5; go_simp) fun _ => ?_
    refine th0 19 (.bool true) rfl fun _ => ?_
    refine th0 20 (.bool true) rfl fun _ => ?_
    refine th0 21 (.bool true) rfl fun _ => ?_
    refine th0 22 (.pointer (some ⟨w.heap.size, 2, none⟩)) rfl fun _ => ?_
    refine th 23 (.int .i64 pk) rfl (fun w' hSw => by (try dsimp only at hSw); obtain ⟨z0, z1, z2, z3, z4, z5⟩ := k6H hSw x0 x1 x2 x3 x4 x5; go_simp) fun _ => ?_
    refine th 24 (.agg (l6 pb (.slice wa nw wc) pk (.slice ga ng gc) (.slice da nd dc) (.slice ua nu uc))) rfl (fun w' hSw => by (try dsimp only at hSw); obtain ⟨z0, z1, z2, z3, z4, z5⟩ := k6H hSw x0 x1 x2 x3 x4 x5; go_simp) fun _ => ?_
    refine wpAnyH_ready (rs := [25]) (by kernel_rfl) (by simp) ?_
    refine AllReadyH.cons rfl (fun K hK => ?_) AllReadyH.nil
    go_simp
    refine (end_any pb pk wa ga da ua nw ng nd nu wc gc dc uc _ h1 h2 h3).mono ?_
    rintro e wc ⟨rfl, hbc⟩
    refine hK.out _ _ (hHeld.trans (hbc.mono hHeld.size)) (fun hHeld => ?_)
    clear hK K hbc
    try simp only [Act.put, List.getElem_toArray, List.getElem_cons_zero, List.getElem_cons_succ, List.setIfInBounds_toArray, List.set_cons_zero, List.set_cons_succ]
    refine th0 26 (.bool false) rfl fun _ => ?_
    refine th0 27 (.bool false) rfl fun _ => ?_
    refine th0 28 (.bool false) rfl fun _ => ?_
    refine thu 29 rfl fun _ => ?_
    refine thu 30 rfl fun _ => ?_
    refine thu 31 rfl fun _ => ?_
    refine thu 32 rfl fun _ => ?_
    refine thu 33 rfl fun _ => ?_
    refine thu 34 rfl fun _ => ?_
    refine th0 35 (.bool false) rfl fun _ => ?_
    refine th0 36 (.bool false) rfl fun _ => ?_
    refine wpAnyH_done (by kernel_rfl) ?_ _
    have HBZ := hide (hB0.trans (hHeld.mono hB0.size))
    clear hHeld x0 x1 x2 x3 x4 x5 hB0
    go_wp2
    go_ret
    exact ⟨by rw [HD.out]; rfl, HBZ.out⟩
  replace h5 : pk ≤ pb + nw := Decidable.of_not_not h5
  have d5 : decide (pk ≤ pb + (nw : Int)) = true := by simp; omega
  by_cases h6 : pk = (ng : Int)
  · have HD : Hid (nbB pb pk nw ng = true) := hide (decide_eq_true ⟨h1, h2, h3, h4, h5, h6⟩)
    have d6 : (pk == (ng : Int)) = true := by simpa using h6
    clear h6
    go_enter Try.func35, Try.ntmps35
    go_wp2
    clear hE
    refine wp_region_held_drew (S := fun w' => Below W.heap.size W w') (by kernel_rfl) ((Below.refl _ _).drew) (fun hHeld => ?_)
    refine th0 0 (.pointer (some ⟨w.heap.size, 0, none⟩)) rfl fun _ => ?_
    refine th 1 (.int .i64 pb) rfl (fun w' hSw => by (try dsimp only at hSw); obtain ⟨z0, z1, z2, z3, z4, z5⟩ := k6H hSw x0 x1 x2 x3 x4 x5; go_simp) fun _ => ?_
    refine th0 2 (.bool true) rfl fun _ => ?_
    refine th0 3 (.bool true) rfl fun _ => ?_
    refine th0 4 (.pointer (some ⟨w.heap.size, 0, none⟩)) rfl fun _ => ?_
    refine th 5 (.int .i64 pb) rfl (fun w' hSw => by (try dsimp only at hSw); obtain ⟨z0, z1, z2, z3, z4, z5⟩ := k6H hSw x0 x1 x2 x3 x4 x5; go_simp) fun _ => ?_
    refine th0 6 (.bool true) rfl fun _ => ?_
    refine th0 7 (.bool true) rfl fun _ => ?_
    refine th0 8 (.bool true) rfl fun _ => ?_
    refine th0 9 (.pointer (some ⟨w.heap.size, 1, none⟩)) rfl fun _ => ?_
    refine th 10 (.slice wa nw wc) rfl (fun w' hSw => by (try dsimp only at hSw); obtain ⟨z0, z1, z2, z3, z4, z5⟩ := k6H hSw x0 x1 x2 x3 x4 x5; go_simp) fun _ => ?_
    refine th0 11 (.int .i64 nw) rfl fun _ => ?_
    refine th0 12 (.bool true) rfl fun _ => ?_
    refine th0 13 (.bool true) rfl fun _ => ?_
    refine th0 14 (.bool true) rfl fun _ => ?_
    refine th0 15 (.pointer (some ⟨w.heap.size, 2, none⟩)) rfl fun _ => ?_
    refine th 16 (.int .i64 pk) rfl (fun w' hSw => by (try dsimp only at hSw); obtain ⟨z0, z1, z2, z3, z4, z5⟩ := k6H hSw x0 x1 x2 x3 x4 x5; go_simp) fun _ => ?_
    refine th0 17 (.pointer (some ⟨w.heap.size, 0, none⟩)) rfl fun _ => ?_
    refine th 18 (.int .i64 pb) rfl (fun w' hSw => by (try dsimp only at hSw); obtain ⟨z0, z1, z2, z3, z4, z5⟩ := k6H hSw x0 x1 x2 x3 x4 x5; go_simp) fun _ => ?_
    refine th0 19 (.bool true) rfl fun _ => ?_
    refine th0 20 (.bool true) rfl fun _ => ?_
    refine th0 21 (.bool true) rfl fun _ => ?_
    refine th0 22 (.pointer (some ⟨w.heap.size, 2, none⟩)) rfl fun _ => ?_
    refine th 23 (.int .i64 pk) rfl (fun w' hSw => by (try dsimp only at hSw); obtain ⟨z0, z1, z2, z3, z4, z5⟩ := k6H hSw x0 x1 x2 x3 x4 x5; go_simp) fun _ => ?_
    refine th 24 (.agg (l6 pb (.slice wa nw wc) pk (.slice ga ng gc) (.slice da nd dc) (.slice ua nu uc))) rfl (fun w' hSw => by (try dsimp only at hSw); obtain ⟨z0, z1, z2, z3, z4, z5⟩ := k6H hSw x0 x1 x2 x3 x4 x5; go_simp) fun _ => ?_
    refine wpAnyH_ready (rs := [25]) (by kernel_rfl) (by simp) ?_
    refine AllReadyH.cons rfl (fun K hK => ?_) AllReadyH.nil
    go_simp
    refine (end_any pb pk wa ga da ua nw ng nd nu wc gc dc uc _ h1 h2 h3).mono ?_
    rintro e wc ⟨rfl, hbc⟩
    refine hK.out _ _ (hHeld.trans (hbc.mono hHeld.size)) (fun hHeld => ?_)
    clear hK K hbc
    try simp only [Act.put, List.getElem_toArray, List.getElem_cons_zero, List.getElem_cons_succ, List.setIfInBounds_toArray, List.set_cons_zero, List.set_cons_succ]
    refine th0 26 (.bool true) rfl fun _ => ?_
    refine th0 27 (.bool true) rfl fun _ => ?_
    refine th0 28 (.bool true) rfl fun _ => ?_
    refine th0 29 (.pointer (some ⟨w.heap.size, 2, none⟩)) rfl fun _ => ?_
    refine th 30 (.int .i64 pk) rfl (fun w' hSw => by (try dsimp only at hSw); obtain ⟨z0, z1, z2, z3, z4, z5⟩ := k6H hSw x0 x1 x2 x3 x4 x5; go_simp) fun _ => ?_
    refine th0 31 (.pointer (some ⟨w.heap.size, 3, none⟩)) rfl fun _ => ?_
    refine th 32 (.slice ga ng gc) rfl (fun w' hSw => by (try dsimp only at hSw); obtain ⟨z0, z1, z2, z3, z4, z5⟩ := k6H hSw x0 x1 x2 x3 x4 x5; go_simp) fun _ => ?_
    refine th0 33 (.int .i64 ng) rfl fun _ => ?_
    refine th0 34 (.bool true) rfl fun _ => ?_
    refine th0 35 (.bool true) rfl fun _ => ?_
    refine th0 36 (.bool true) rfl fun _ => ?_
    refine wpAnyH_done (by kernel_rfl) ?_ _
    have HBZ := hide (hB0.trans (hHeld.mono hB0.size))
    clear hHeld x0 x1 x2 x3 x4 x5 hB0
    go_wp2
    go_ret
    exact ⟨by rw [HD.out]; rfl, HBZ.out⟩
  · have HD : Hid (nbB pb pk nw ng = false) := hide (decide_eq_false (fun h => h6 h.2.2.2.2.2))
    have d6 : (pk == (ng : Int)) = false := by simpa using h6
    clear h6
    go_enter Try.func35, Try.ntmps35
    go_wp2
    clear hE
    refine wp_region_held_drew (S := fun w' => Below W.heap.size W w') (by kernel_rfl) ((Below.refl _ _).drew) (fun hHeld => ?_)
    refine th0 0 (.pointer (some ⟨w.heap.size, 0, none⟩)) rfl fun _ => ?_
    refine th 1 (.int .i64 pb) rfl (fun w' hSw => by (try dsimp only at hSw); obtain ⟨z0, z1, z2, z3, z4, z5⟩ := k6H hSw x0 x1 x2 x3 x4 x5; go_simp) fun _ => ?_
    refine th0 2 (.bool true) rfl fun _ => ?_
    refine th0 3 (.bool true) rfl fun _ => ?_
    refine th0 4 (.pointer (some ⟨w.heap.size, 0, none⟩)) rfl fun _ => ?_
    refine th 5 (.int .i64 pb) rfl (fun w' hSw => by (try dsimp only at hSw); obtain ⟨z0, z1, z2, z3, z4, z5⟩ := k6H hSw x0 x1 x2 x3 x4 x5; go_simp) fun _ => ?_
    refine th0 6 (.bool true) rfl fun _ => ?_
    refine th0 7 (.bool true) rfl fun _ => ?_
    refine th0 8 (.bool true) rfl fun _ => ?_
    refine th0 9 (.pointer (some ⟨w.heap.size, 1, none⟩)) rfl fun _ => ?_
    refine th 10 (.slice wa nw wc) rfl (fun w' hSw => by (try dsimp only at hSw); obtain ⟨z0, z1, z2, z3, z4, z5⟩ := k6H hSw x0 x1 x2 x3 x4 x5; go_simp) fun _ => ?_
    refine th0 11 (.int .i64 nw) rfl fun _ => ?_
    refine th0 12 (.bool true) rfl fun _ => ?_
    refine th0 13 (.bool true) rfl fun _ => ?_
    refine th0 14 (.bool true) rfl fun _ => ?_
    refine th0 15 (.pointer (some ⟨w.heap.size, 2, none⟩)) rfl fun _ => ?_
    refine th 16 (.int .i64 pk) rfl (fun w' hSw => by (try dsimp only at hSw); obtain ⟨z0, z1, z2, z3, z4, z5⟩ := k6H hSw x0 x1 x2 x3 x4 x5; go_simp) fun _ => ?_
    refine th0 17 (.pointer (some ⟨w.heap.size, 0, none⟩)) rfl fun _ => ?_
    refine th 18 (.int .i64 pb) rfl (fun w' hSw => by (try dsimp only at hSw); obtain ⟨z0, z1, z2, z3, z4, z5⟩ := k6H hSw x0 x1 x2 x3 x4 x5; go_simp) fun _ => ?_
    refine th0 19 (.bool true) rfl fun _ => ?_
    refine th0 20 (.bool true) rfl fun _ => ?_
    refine th0 21 (.bool true) rfl fun _ => ?_
    refine th0 22 (.pointer (some ⟨w.heap.size, 2, none⟩)) rfl fun _ => ?_
    refine th 23 (.int .i64 pk) rfl (fun w' hSw => by (try dsimp only at hSw); obtain ⟨z0, z1, z2, z3, z4, z5⟩ := k6H hSw x0 x1 x2 x3 x4 x5; go_simp) fun _ => ?_
    refine th 24 (.agg (l6 pb (.slice wa nw wc) pk (.slice ga ng gc) (.slice da nd dc) (.slice ua nu uc))) rfl (fun w' hSw => by (try dsimp only at hSw); obtain ⟨z0, z1, z2, z3, z4, z5⟩ := k6H hSw x0 x1 x2 x3 x4 x5; go_simp) fun _ => ?_
    refine wpAnyH_ready (rs := [25]) (by kernel_rfl) (by simp) ?_
    refine AllReadyH.cons rfl (fun K hK => ?_) AllReadyH.nil
    go_simp
    refine (end_any pb pk wa ga da ua nw ng nd nu wc gc dc uc _ h1 h2 h3).mono ?_
    rintro e wc ⟨rfl, hbc⟩
    refine hK.out _ _ (hHeld.trans (hbc.mono hHeld.size)) (fun hHeld => ?_)
    clear hK K hbc
    try simp only [Act.put, List.getElem_toArray, List.getElem_cons_zero, List.getElem_cons_succ, List.setIfInBounds_toArray, List.set_cons_zero, List.set_cons_succ]
    refine th0 26 (.bool true) rfl fun _ => ?_
    refine th0 27 (.bool true) rfl fun _ => ?_
    refine th0 28 (.bool true) rfl fun _ => ?_
    refine th0 29 (.pointer (some ⟨w.heap.size, 2, none⟩)) rfl fun _ => ?_
    refine th 30 (.int .i64 pk) rfl (fun w' hSw => by (try dsimp only at hSw); obtain ⟨z0, z1, z2, z3, z4, z5⟩ := k6H hSw x0 x1 x2 x3 x4 x5; go_simp) fun _ => ?_
    refine th0 31 (.pointer (some ⟨w.heap.size, 3, none⟩)) rfl fun _ => ?_
    refine th 32 (.slice ga ng gc) rfl (fun w' hSw => by (try dsimp only at hSw); obtain ⟨z0, z1, z2, z3, z4, z5⟩ := k6H hSw x0 x1 x2 x3 x4 x5; go_simp) fun _ => ?_
    refine th0 33 (.int .i64 ng) rfl fun _ => ?_
    refine th0 34 (.bool false) rfl fun _ => ?_
    refine th0 35 (.bool false) rfl fun _ => ?_
    refine th0 36 (.bool false) rfl fun _ => ?_
    refine wpAnyH_done (by kernel_rfl) ?_ _
    have HBZ := hide (hB0.trans (hHeld.mono hB0.size))
    clear hHeld x0 x1 x2 x3 x4 x5 hB0
    go_wp2
    go_ret
    exact ⟨by rw [HD.out]; rfl, HBZ.out⟩

end Go.Proofs.Ytnkocikbapbbmaa

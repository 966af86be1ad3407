/- what a marking writes, and what the second look reads: rows of slots, lines with no lists, a machine with no mail -/
import Derived.Test.YtacgfeddbcoigaaMkC
namespace Go.Proofs.Ytacgfeddbcoigaa
open Go.RowKit
set_option linter.unusedVariables false
set_option linter.unusedSimpArgs false

/-- the first len cells of g hold k0, k0 + 1, .. -/
def Vr (w : World) (g len : Nat) (k0 : Int) : Prop := ∀ x, x < len → w.cell? ⟨g, x, none⟩ = some (.int .i64 (k0 + (x : Int)))
theorem Vr.at {w : World} {g len x : Nat} {k0 z : Int} (h : Vr w g len k0) (hx : x < len) (hz : z = k0 + (x : Int)) : w.cell? ⟨g, x, none⟩ = some (.int .i64 z) := by rw [hz]; exact h x hx
theorem Vr.put {w : World} {g x len : Nat} {k0 z : Int} (h : Vr w g x k0) (hw : Wc w g len) (hx : x < len) (hz : z = k0 + (x : Int)) : Vr (w.setCell ⟨g, x, none⟩ (.int .i64 z)) g (x + 1) k0 := by
  intro y hy
  by_cases e : x = y
  · subst e
    obtain ⟨u, hu⟩ := hw.facts.2 x hx
    rw [World.cell?_setCell_same (h := hu), hz]
  · rw [far_set e]; exact h y (by omega)
theorem Vr.chg {S : Nat → Prop} {w w' : World} {g len : Nat} {k0 : Int} (h : Vr w g len k0) (hc : Chg S w w') (hS : ¬ S g) : Vr w' g len k0 := fun x hx => hc.cell hS (h x hx)
theorem Vr.below {w w' : World} {g len : Nat} {k0 : Int} (h : Vr w g len k0) (hb : Below w.heap.size w w') : Vr w' g len k0 := fun x hx => keepc hb (h x hx)

set_option maxHeartbeats 2000000 in
theorem mkv4_any (g n cap : Nat) (k0 : Int) (w : World) (h0 : 0 ≤ k0) (h1 : k0 ≤ 1152921504606846976) (hw : Wc w g (n * 4)) (hl : n ≤ 1048576) :
    Calls Try.prog 23 #[.slice (some ⟨g, 0, none⟩) n cap, .int .i64 k0] w fun e w' => e = .returned (.int .i64 (k0 + 4 * n)) ∧ Chg (· = g) w w' ∧ Vr w' g (n * 4) k0 := by
  go_enter Try.func23, Try.ntmps23
  go_wp2
  go_loopw [1, 5] (fun t i wr => ∃ j : Nat, j ≤ n ∧ i = .int .i64 j ∧ t = .int .i64 (k0 + 4 * j) ∧ Chg (· = g) w wr ∧ Hid (Vr wr g (j * 4) k0)) (fun _ i _ => n - (intOf i).toNat)
  case atStart => exact ⟨0, Nat.zero_le _, rfl, by simp, Chg.refl _ _, hide (fun x hx => by omega)⟩
  case round =>
    obtain ⟨j, hj, rfl, rfl, hgj, HV⟩ := hrel
    by_cases hlt : j < n
    · have HW := hide (hgj.keep _ _ hw)
      obtain ⟨fr, hc⟩ := HW.out.facts
      obtain ⟨o0, r0⟩ := hc (j * 4) (by omega)
      obtain ⟨o1, r1⟩ := hc (j * 4 + 1) (by omega)
      obtain ⟨o2, r2⟩ := hc (j * 4 + 2) (by omega)
      obtain ⟨o3, r3⟩ := hc (j * 4 + 3) (by omega)
      have HB := hide hgj
      have HP : Hid (Vr ((((wr.setCell ⟨g, j * 4, none⟩ (.int .i64 (k0 + 4 * j))).setCell ⟨g, j * 4 + 1, none⟩ (.int .i64 (k0 + 4 * j + 1))).setCell ⟨g, j * 4 + 2, none⟩ (.int .i64 (k0 + 4 * j + 1 + 1))).setCell ⟨g, j * 4 + 3, none⟩ (.int .i64 (k0 + 4 * j + 1 + 1 + 1))) g ((j + 1) * 4) k0) := by
        have e : (j + 1) * 4 = j * 4 + 3 + 1 := by omega
        rw [e]
        exact hide ((((HV.out.put HW.out (by omega) (by omega)).put (x := j * 4 + 1) (HW.out.set _) (by omega) (by omega)).put (x := j * 4 + 2) ((HW.out.set _).set _) (by omega) (by omega)).put (x := j * 4 + 3) (((HW.out.set _).set _).set _) (by omega) (by omega))
      clear hgj hc hw HV HW
      go_wp2
      go_roundw
      case rel => exact ⟨j + 1, by omega, by go_num, by go_num, (((HB.out.set rfl _).set rfl _).set rfl _).set rfl _, HP⟩
      case measure => simp [intOf]; omega
    · have e : j = n := by omega
      subst e
      go_wp2
      go_ret
      exact ⟨rfl, hgj, HV.out⟩

set_option maxHeartbeats 2000000 in
theorem held4_any (g n cap : Nat) (k0 : Int) (w : World) (h0 : 0 ≤ k0) (h1 : k0 ≤ 1152921504606846976) (hv : Vr w g (n * 4) k0) (hl : n ≤ 1048576) :
    Calls Try.prog 26 #[.slice (some ⟨g, 0, none⟩) n cap, .int .i64 k0] w fun e w' => e = .returned (.int .i64 (k0 + 4 * n)) ∧ w' = w := by
  go_enter Try.func26, Try.ntmps26
  go_wp2
  go_loopw [1, 5] (fun t i wr => ∃ j : Nat, j ≤ n ∧ i = .int .i64 j ∧ t = .int .i64 (k0 + 4 * j) ∧ wr = w) (fun _ i _ => n - (intOf i).toNat)
  case atStart => exact ⟨0, Nat.zero_le _, rfl, by simp, rfl⟩
  case round =>
    obtain ⟨j, hj, rfl, rfl, rfl⟩ := hrel
    by_cases hlt : j < n
    · have x0 := hv.at (x := j * 4) (z := k0 + 4 * j) (by omega) (by omega)
      have x1 := hv.at (x := j * 4 + 1) (z := k0 + 4 * j + 1) (by omega) (by omega)
      have x2 := hv.at (x := j * 4 + 2) (z := k0 + 4 * j + 1 + 1) (by omega) (by omega)
      have x3 := hv.at (x := j * 4 + 3) (z := k0 + 4 * j + 1 + 1 + 1) (by omega) (by omega)
      clear hv
      go_wp2
      go_roundw
      case rel => exact ⟨j + 1, by omega, by go_num, by go_num, by first | rfl | trivial⟩
      case measure => simp [intOf]; omega
    · have e : j = n := by omega
      subst e
      go_wp2
      go_ret
      exact ⟨rfl, rfl⟩

set_option maxHeartbeats 400000 in
theorem mk1_nil (k0 : Int) (w : World) : Calls Try.prog 24 #[.slice none 0 0, .int .i64 k0] w fun e w' => e = .returned (.int .i64 k0) ∧ w' = w := by
  go_enter Try.func24, Try.ntmps24
  go_wp2
  go_loopw [1, 5] (fun t i wr => i = .int .i64 0 ∧ t = .int .i64 k0 ∧ wr = w) (fun _ i _ => (intOf i).toNat)
  case atStart => exact ⟨rfl, rfl, rfl⟩
  case round =>
    obtain ⟨rfl, rfl, rfl⟩ := hrel
    go_wp2
    go_ret
    exact ⟨rfl, rfl⟩

set_option maxHeartbeats 400000 in
theorem mk2_nil (k0 : Int) (w : World) : Calls Try.prog 25 #[.slice none 0 0, .int .i64 k0] w fun e w' => e = .returned (.int .i64 k0) ∧ w' = w := by
  go_enter Try.func25, Try.ntmps25
  go_wp2
  go_loopw [1, 5] (fun t i wr => i = .int .i64 0 ∧ t = .int .i64 k0 ∧ wr = w) (fun _ i _ => (intOf i).toNat)
  case atStart => exact ⟨rfl, rfl, rfl⟩
  case round =>
    obtain ⟨rfl, rfl, rfl⟩ := hrel
    go_wp2
    go_ret
    exact ⟨rfl, rfl⟩

set_option maxHeartbeats 400000 in
theorem mk6_nil (k0 : Int) (w : World) : Calls Try.prog 16 #[.slice none 0 0, .int .i64 k0] w fun e w' => e = .returned (.int .i64 k0) ∧ w' = w := by
  go_enter Try.func16, Try.ntmps16
  go_wp2
  go_loopw [1, 5] (fun t i wr => i = .int .i64 0 ∧ t = .int .i64 k0 ∧ wr = w) (fun _ i _ => (intOf i).toNat)
  case atStart => exact ⟨rfl, rfl, rfl⟩
  case round =>
    obtain ⟨rfl, rfl, rfl⟩ := hrel
    go_wp2
    go_ret
    exact ⟨rfl, rfl⟩

set_option maxHeartbeats 400000 in
theorem held1_nil (k0 : Int) (w : World) : Calls Try.prog 27 #[.slice none 0 0, .int .i64 k0] w fun e w' => e = .returned (.int .i64 k0) ∧ w' = w := by
  go_enter Try.func27, Try.ntmps27
  go_wp2
  go_loopw [1, 5] (fun t i wr => i = .int .i64 0 ∧ t = .int .i64 k0 ∧ wr = w) (fun _ i _ => (intOf i).toNat)
  case atStart => exact ⟨rfl, rfl, rfl⟩
  case round =>
    obtain ⟨rfl, rfl, rfl⟩ := hrel
    go_wp2
    go_ret
    exact ⟨rfl, rfl⟩

set_option maxHeartbeats 400000 in
theorem held2_nil (k0 : Int) (w : World) : Calls Try.prog 28 #[.slice none 0 0, .int .i64 k0] w fun e w' => e = .returned (.int .i64 k0) ∧ w' = w := by
  go_enter Try.func28, Try.ntmps28
  go_wp2
  go_loopw [1, 5] (fun t i wr => i = .int .i64 0 ∧ t = .int .i64 k0 ∧ wr = w) (fun _ i _ => (intOf i).toNat)
  case atStart => exact ⟨rfl, rfl, rfl⟩
  case round =>
    obtain ⟨rfl, rfl, rfl⟩ := hrel
    go_wp2
    go_ret
    exact ⟨rfl, rfl⟩

set_option maxHeartbeats 400000 in
theorem held6_nil (k0 : Int) (w : World) : Calls Try.prog 19 #[.slice none 0 0, .int .i64 k0] w fun e w' => e = .returned (.int .i64 k0) ∧ w' = w := by
  go_enter Try.func19, Try.ntmps19
  go_wp2
  go_loopw [1, 5] (fun t i wr => i = .int .i64 0 ∧ t = .int .i64 k0 ∧ wr = w) (fun _ i _ => (intOf i).toNat)
  case atStart => exact ⟨rfl, rfl, rfl⟩
  case round =>
    obtain ⟨rfl, rfl, rfl⟩ := hrel
    go_wp2
    go_ret
    exact ⟨rfl, rfl⟩

end Go.Proofs.Ytacgfeddbcoigaa

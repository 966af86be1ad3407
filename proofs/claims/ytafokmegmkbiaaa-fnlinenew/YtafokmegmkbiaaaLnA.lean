/- new lines: LineNew of both sides; eqLine, markLine, heldLine, sameLine at empty lists (written by mkLnA.py) -/
import Derived.Test.YtafokmegmkbiaaaSlA
namespace Go.Proofs.Ytafokmegmkbiaaa
open Go.RowKit
set_option linter.unusedVariables false
set_option linter.unusedSimpArgs false

abbrev lnC (n : Int) : Array Value := #[.int .i64 n, .int .i64 0, .slice none 0 0, .int .i64 0, .int .i64 0, .int .i64 0, .slice none 0 0]
def newN (m : Int) : Int := if inB m 0 1000000 then m else 0

theorem seven_put {w w1 : World} {B : Nat} (hb : Below w.heap.size w w1) (hB : w.heap.size ≤ B) (v0 v1 v2 v3 v4 v5 v6 : Value) : Below w.heap.size w (((((((w1.setCell ⟨B, 0, none⟩ v0).setCell ⟨B, 1, none⟩ v1).setCell ⟨B, 2, none⟩ v2).setCell ⟨B, 3, none⟩ v3).setCell ⟨B, 4, none⟩ v4).setCell ⟨B, 5, none⟩ v5).setCell ⟨B, 6, none⟩ v6) :=
  ((((((hb.setCell hB _).setCell hB _).setCell hB _).setCell hB _).setCell hB _).setCell hB _).setCell hB _

/-- seven cells of a box, kept -/
def LC (w : World) (B : Nat) (n : Int) (wx : World) : Prop :=
  Below w.heap.size w wx ∧ wx.cell? ⟨B, 0, none⟩ = some (.int .i64 n) ∧ wx.cell? ⟨B, 1, none⟩ = some (.int .i64 0) ∧ wx.cell? ⟨B, 2, none⟩ = some (.slice none 0 0) ∧ wx.cell? ⟨B, 3, none⟩ = some (.int .i64 0) ∧ wx.cell? ⟨B, 4, none⟩ = some (.int .i64 0) ∧ wx.cell? ⟨B, 5, none⟩ = some (.int .i64 0) ∧ wx.cell? ⟨B, 6, none⟩ = some (.slice none 0 0)
theorem lc_next {w wx wy : World} {B : Nat} {n : Int} (h : LC w B n wx) (hb : Below wx.heap.size wx wy) : LC w B n wy :=
  ⟨h.1.trans (hb.mono h.1.size), keepc hb h.2.1, keepc hb h.2.2.1, keepc hb h.2.2.2.1, keepc hb h.2.2.2.2.1, keepc hb h.2.2.2.2.2.1, keepc hb h.2.2.2.2.2.2.1, keepc hb h.2.2.2.2.2.2.2⟩
theorem lc_here {w wx : World} (h : Below w.heap.size w wx) (n : Int) (T : TypeId) : LC w wx.heap.size n (wx.alloc (.cells (lnC n) T)) :=
  ⟨h.alloc h.size _, by simp, by simp, by simp, by simp, by simp, by simp, by simp⟩
theorem lc_alloc {w wx : World} {B : Nat} {n : Int} (h : LC w B n wx) (o : Obj) : LC w B n (wx.alloc o) := lc_next h ((Below.refl _ _).alloc (Nat.le_refl _) _)


set_option maxHeartbeats 400000 in
theorem implNew_false (m : Int) (w : World) (h : inB m 0 1000000 = false) : Calls Try.prog 19 #[.int .i64 m] w fun e w' => e = .returned (.tuple #[.agg (lnC 0), .bool false]) ∧ Below w.heap.size w w' := by
  go_enter Try.func19, Try.ntmps19
  go_wp2_with fail
  refine (isValue_any _ _).mono ?_
  rintro e w1 ⟨rfl, rfl⟩
  rw [h]
  go_wp2
  refine bodyPost_ret (v := .tuple #[.agg (lnC 0), .bool false]) (by simp [results, Try.results19, go_sem]) rfl ⟨rfl, ?_⟩
  exact (Below.refl _ _).alloc (Nat.le_refl _) _

set_option maxHeartbeats 400000 in
theorem implNew_true (m : Int) (w : World) (h : inB m 0 1000000 = true) : Calls Try.prog 19 #[.int .i64 m] w fun e w' => e = .returned (.tuple #[.agg (lnC m), .bool true]) ∧ Below w.heap.size w w' := by
  go_enter Try.func19, Try.ntmps19
  go_wp2_with fail
  refine (isValue_any _ _).mono ?_
  rintro e w1 ⟨rfl, rfl⟩
  rw [h]
  go_wp2
  refine bodyPost_ret (v := .tuple #[.agg (lnC m), .bool true]) (by simp [results, Try.results19, go_sem]) rfl ⟨rfl, ?_⟩
  exact (Below.refl _ _).alloc (Nat.le_refl _) _

theorem implNew_any (m : Int) (w : World) : Calls Try.prog 19 #[.int .i64 m] w fun e w' => e = .returned (.tuple #[.agg (lnC (newN m)), .bool (inB m 0 1000000)]) ∧ Below w.heap.size w w' := by
  cases h : inB m 0 1000000 with
  | false => rw [show newN m = 0 by simp [newN, h]]; exact implNew_false m w h
  | true => rw [show newN m = m by simp [newN, h]]; exact implNew_true m w h

set_option maxHeartbeats 400000 in
theorem specNew_false (m : Int) (w : World) (h : inB m 0 1000000 = false) : Calls Try.prog 20 #[.int .i64 m] w fun e w' => e = .returned (.tuple #[.agg (lnC 0), .bool false]) ∧ Below w.heap.size w w' := by
  go_enter Try.func20, Try.ntmps20
  go_wp2_with fail
  refine (in_any _ _ _ _).mono ?_
  rintro e w1 ⟨rfl, rfl⟩
  rw [h]
  go_wp2
  refine bodyPost_ret (v := .tuple #[.agg (lnC 0), .bool false]) (by simp [results, Try.results20, go_sem]) rfl ⟨rfl, ?_⟩
  exact (Below.refl _ _).alloc (Nat.le_refl _) _

set_option maxHeartbeats 400000 in
theorem specNew_true (m : Int) (w : World) (h : inB m 0 1000000 = true) : Calls Try.prog 20 #[.int .i64 m] w fun e w' => e = .returned (.tuple #[.agg (lnC m), .bool true]) ∧ Below w.heap.size w w' := by
  go_enter Try.func20, Try.ntmps20
  go_wp2_with fail
  refine (in_any _ _ _ _).mono ?_
  rintro e w1 ⟨rfl, rfl⟩
  rw [h]
  go_wp2
  refine bodyPost_ret (v := .tuple #[.agg (lnC m), .bool true]) (by simp [results, Try.results20, go_sem]) rfl ⟨rfl, ?_⟩
  exact (Below.refl _ _).alloc (Nat.le_refl _) _

theorem specNew_any (m : Int) (w : World) : Calls Try.prog 20 #[.int .i64 m] w fun e w' => e = .returned (.tuple #[.agg (lnC (newN m)), .bool (inB m 0 1000000)]) ∧ Below w.heap.size w w' := by
  cases h : inB m 0 1000000 with
  | false => rw [show newN m = 0 by simp [newN, h]]; exact specNew_false m w h
  | true => rw [show newN m = m by simp [newN, h]]; exact specNew_true m w h

set_option maxHeartbeats 400000 in
theorem eqI_none (w : World) : Calls Try.prog 66 #[.slice none 0 0, .slice none 0 0] w fun e w' => e = .returned (.bool true) ∧ w' = w := by
  go_enter Try.func66, Try.ntmps66
  go_wp2
  go_loop [5] (fun i => i = .int .i64 0) (fun _ => 0)
  case atStart => rfl
  case round =>
    subst hrel
    go_wp2
    go_ret
    exact ⟨rfl, rfl⟩

set_option maxHeartbeats 400000 in
theorem eqR_none (w : World) : Calls Try.prog 67 #[.slice none 0 0, .slice none 0 0] w fun e w' => e = .returned (.bool true) ∧ w' = w := by
  go_enter Try.func67, Try.ntmps67
  go_wp2
  go_loop [5] (fun i => i = .int .i64 0) (fun _ => 0)
  case atStart => rfl
  case round =>
    subst hrel
    go_wp2
    go_ret
    exact ⟨rfl, rfl⟩

set_option maxHeartbeats 400000 in
theorem markInt64S_none (w : World) : Calls Try.prog 68 #[.slice none 0 0, .int .i64 1] w fun e w' => e = .returned (.int .i64 1) ∧ w' = w := by
  go_enter Try.func68, Try.ntmps68
  go_wp2
  go_loop [1, 5] (fun t i => i = .int .i64 0 ∧ t = .int .i64 1) (fun _ _ => 0)
  case atStart => exact ⟨rfl, rfl⟩
  case round =>
    obtain ⟨rfl, rfl⟩ := hrel
    go_wp2
    go_ret
    exact ⟨rfl, rfl⟩

set_option maxHeartbeats 400000 in
theorem markReqS_none (w : World) : Calls Try.prog 69 #[.slice none 0 0, .int .i64 1] w fun e w' => e = .returned (.int .i64 1) ∧ w' = w := by
  go_enter Try.func69, Try.ntmps69
  go_wp2
  go_loop [1, 5] (fun t i => i = .int .i64 0 ∧ t = .int .i64 1) (fun _ _ => 0)
  case atStart => exact ⟨rfl, rfl⟩
  case round =>
    obtain ⟨rfl, rfl⟩ := hrel
    go_wp2
    go_ret
    exact ⟨rfl, rfl⟩

set_option maxHeartbeats 400000 in
theorem heldInt64S_none (w : World) : Calls Try.prog 70 #[.slice none 0 0, .int .i64 1] w fun e w' => e = .returned (.int .i64 1) ∧ w' = w := by
  go_enter Try.func70, Try.ntmps70
  go_wp2
  go_loop [1, 5] (fun t i => i = .int .i64 0 ∧ t = .int .i64 1) (fun _ _ => 0)
  case atStart => exact ⟨rfl, rfl⟩
  case round =>
    obtain ⟨rfl, rfl⟩ := hrel
    go_wp2
    go_ret
    exact ⟨rfl, rfl⟩

set_option maxHeartbeats 400000 in
theorem heldReqS_none (w : World) : Calls Try.prog 71 #[.slice none 0 0, .int .i64 1] w fun e w' => e = .returned (.int .i64 1) ∧ w' = w := by
  go_enter Try.func71, Try.ntmps71
  go_wp2
  go_loop [1, 5] (fun t i => i = .int .i64 0 ∧ t = .int .i64 1) (fun _ _ => 0)
  case atStart => exact ⟨rfl, rfl⟩
  case round =>
    obtain ⟨rfl, rfl⟩ := hrel
    go_wp2
    go_ret
    exact ⟨rfl, rfl⟩

set_option maxHeartbeats 1000000 in
theorem eqLine_new (n : Int) (w : World) : Calls Try.prog 35 #[.agg (lnC n), .agg (lnC n)] w fun e w' => e = .returned (.bool true) ∧ Below w.heap.size w w' := by
  go_enter Try.func35, Try.ntmps35
  go_wp2_with fail
  refine (eqI_none _).mono ?_
  rintro e w1 ⟨rfl, rfl⟩
  go_wp2_with fail
  refine (eqR_none _).mono ?_
  rintro e w1 ⟨rfl, rfl⟩
  go_wp2
  go_ret
  exact ⟨rfl, ((Below.refl _ _).alloc (Nat.le_refl _) _).alloc (by simp) _⟩

set_option maxHeartbeats 1000000 in
theorem markLine_new (n : Int) (w : World) : Calls Try.prog 36 #[.agg (lnC n), .int .i64 1] w fun e w' => e = .returned (.int .i64 1) ∧ Below w.heap.size w w' := by
  go_enter Try.func36, Try.ntmps36
  go_wp2_with fail
  refine (markInt64S_none _).mono ?_
  rintro e w1 ⟨rfl, rfl⟩
  go_wp2_with fail
  refine (markReqS_none _).mono ?_
  rintro e w1 ⟨rfl, rfl⟩
  go_wp2
  go_ret
  exact ⟨rfl, (Below.refl _ _).alloc (Nat.le_refl _) _⟩

set_option maxHeartbeats 1000000 in
theorem heldLine_new (n : Int) (w : World) : Calls Try.prog 37 #[.agg (lnC n), .int .i64 1] w fun e w' => e = .returned (.int .i64 1) ∧ Below w.heap.size w w' := by
  go_enter Try.func37, Try.ntmps37
  go_wp2_with fail
  refine (heldInt64S_none _).mono ?_
  rintro e w1 ⟨rfl, rfl⟩
  go_wp2_with fail
  refine (heldReqS_none _).mono ?_
  rintro e w1 ⟨rfl, rfl⟩
  go_wp2
  go_ret
  exact ⟨rfl, (Below.refl _ _).alloc (Nat.le_refl _) _⟩

end Go.Proofs.Ytafokmegmkbiaaa

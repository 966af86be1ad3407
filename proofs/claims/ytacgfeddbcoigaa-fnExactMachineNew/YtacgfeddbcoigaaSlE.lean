/- mail of one message at most: l3To, eqMsg, eqMsgS, markMsgS, heldMsgS -/
import Derived.Test.YtacgfeddbcoigaaSlA
import Derived.Deep.QuietTactic
import Derived.BigQuiet
import Derived.Laws.Rows
import Derived.Deep.RegionWith
namespace Go.Proofs.Ytacgfeddbcoigaa
open Go.RowKit

abbrev six (a b c d e f : Int) : Array Value := #[.int .i64 a, .int .i64 b, .int .i64 c, .int .i64 d, .int .i64 e, .int .i64 f]
/-- a block that holds this one message -/
def Holds6 (w : World) (B : Nat) (a b c d e f : Int) : Prop := w.heap[B]? = some (.cells (six a b c d e f) 48 (0, 0))

theorem Holds6.facts {w : World} {B : Nat} {a b c d e f : Int} (h : Holds6 w B a b c d e f) :
    (∀ i, w.frozen? ⟨B, i, none⟩ = false) ∧ w.cell? ⟨B, 0, none⟩ = some (.int .i64 a) ∧ w.cell? ⟨B, 1, none⟩ = some (.int .i64 b) ∧ w.cell? ⟨B, 2, none⟩ = some (.int .i64 c) ∧ w.cell? ⟨B, 3, none⟩ = some (.int .i64 d) ∧ w.cell? ⟨B, 4, none⟩ = some (.int .i64 e) ∧ w.cell? ⟨B, 5, none⟩ = some (.int .i64 f) := by
  refine ⟨fun i => frozen_of_row w B i _ _ h, ?_, ?_, ?_, ?_, ?_, ?_⟩
  all_goals rw [cell_of_row w B _ _ _ _ h]; rfl

theorem Holds6.lt {w : World} {B : Nat} {a b c d e f : Int} (h : Holds6 w B a b c d e f) : B < w.heap.size := by
  by_cases hlt : B < w.heap.size
  · exact hlt
  · unfold Holds6 at h; rw [Array.getElem?_eq_none (by omega)] at h; cases h

theorem Holds6.next {w w' : World} {B : Nat} {a b c d e f : Int} (h : Holds6 w B a b c d e f) (hb : Below w.heap.size w w') : Holds6 w' B a b c d e f := by
  unfold Holds6
  rw [hb.block B h.lt]; exact h

set_option maxHeartbeats 1000000 in
theorem eqMsg_same (a b c d e f : Int) (w : World) : Calls Try.prog 22 #[.agg (six a b c d e f), .agg (six a b c d e f)] w fun e w' => e = .returned (.bool true) ∧ Below w.heap.size w w' := by
  go_enter Try.func22, Try.ntmps22
  go_wp2
  go_ret
  exact ⟨rfl, ((Below.refl _ _).alloc (Nat.le_refl _) _).alloc (by simp) _⟩

set_option maxHeartbeats 1000000 in
theorem eqMsgS_none (w : World) : Calls Try.prog 13 #[.slice none 0 0, .slice none 0 0] w fun e w' => e = .returned (.bool true) ∧ Below w.heap.size w w' := by
  go_enter Try.func13, Try.ntmps13
  go_wp2
  go_loop [5] (fun i => i = .int .i64 0) (fun _ => 0)
  case atStart => rfl
  case round =>
    subst hrel
    go_wp2
    go_ret
    exact ⟨rfl, Below.refl _ _⟩

set_option maxHeartbeats 2000000 in
theorem eqMsgS_one (A B : Nat) (a b c d e f : Int) (w : World) (hA : Holds6 w A a b c d e f) (hB : Holds6 w B a b c d e f) : Calls Try.prog 13 #[.slice (some ⟨A, 0, none⟩) 1 1, .slice (some ⟨B, 0, none⟩) 1 1] w fun e w' => e = .returned (.bool true) ∧ Below w.heap.size w w' := by
  go_enter Try.func13, Try.ntmps13
  go_wp2
  go_loopw [5] (fun i wr => (i = .int .i64 0 ∧ wr = w) ∨ (i = .int .i64 1 ∧ Below w.heap.size w wr)) (fun i _ => 1 - (intOf i).toNat)
  case atStart => exact .inl ⟨rfl, rfl⟩
  case round =>
    rcases hrel with ⟨rfl, rfl⟩ | ⟨rfl, hb⟩
    · obtain ⟨_, a0, a1, a2, a3, a4, a5⟩ := hA.facts
      obtain ⟨_, b0, b1, b2, b3, b4, b5⟩ := hB.facts
      clear hA hB
      go_wp2
      go_region_with (go_at_call 22; refine (eqMsg_same a b c d e f _).mono ?_; rintro e w1 ⟨rfl, hb1⟩)
      all_goals go_wp2
      all_goals go_roundw
      all_goals first
        | exact .inr ⟨rfl, (Below.refl _ _).drew.trans hb1⟩
        | simp [intOf]
    · go_wp2
      go_ret
      exact ⟨rfl, hb⟩

set_option maxHeartbeats 1000000 in
theorem mark_none (w : World) : Calls Try.prog 16 #[.slice none 0 0, .int .i64 1] w fun e w' => e = .returned (.int .i64 1) ∧ w' = w := by
  go_enter Try.func16, Try.ntmps16
  go_wp2
  go_loop [1, 5] (fun t i => i = .int .i64 0 ∧ t = .int .i64 1) (fun _ _ => 0)
  case atStart => exact ⟨rfl, rfl⟩
  case round =>
    obtain ⟨rfl, rfl⟩ := hrel
    go_wp2
    go_ret
    exact ⟨rfl, rfl⟩

set_option maxHeartbeats 1000000 in
theorem held_none (w : World) : Calls Try.prog 19 #[.slice none 0 0, .int .i64 1] w fun e w' => e = .returned (.int .i64 1) ∧ w' = w := by
  go_enter Try.func19, Try.ntmps19
  go_wp2
  go_loop [1, 5] (fun t i => i = .int .i64 0 ∧ t = .int .i64 1) (fun _ _ => 0)
  case atStart => exact ⟨rfl, rfl⟩
  case round =>
    obtain ⟨rfl, rfl⟩ := hrel
    go_wp2
    go_ret
    exact ⟨rfl, rfl⟩

set_option maxHeartbeats 1000000 in
theorem held_one (B : Nat) (w : World) (hB : Holds6 w B 1 2 3 4 5 6) : Calls Try.prog 19 #[.slice (some ⟨B, 0, none⟩) 1 1, .int .i64 1] w fun e w' => e = .returned (.int .i64 7) ∧ w' = w := by
  go_enter Try.func19, Try.ntmps19
  go_wp2
  go_loop [1, 5] (fun t i => (i = .int .i64 0 ∧ t = .int .i64 1) ∨ (i = .int .i64 1 ∧ t = .int .i64 7)) (fun _ i => 1 - (intOf i).toNat)
  case atStart => exact .inl ⟨rfl, rfl⟩
  case round =>
    rcases hrel with ⟨rfl, rfl⟩ | ⟨rfl, rfl⟩
    · obtain ⟨_, b0, b1, b2, b3, b4, b5⟩ := hB.facts
      go_wp2
      go_round
      case rel => exact .inr ⟨rfl, rfl⟩
      case measure => simp [intOf]
    · go_wp2
      go_ret
      exact ⟨rfl, rfl⟩

/-- the block written over, cell by cell -/
abbrev marked (w : World) (B : Nat) : World := (((((w.setCell ⟨B, 0, none⟩ (.int .i64 1)).setCell ⟨B, 1, none⟩ (.int .i64 2)).setCell ⟨B, 2, none⟩ (.int .i64 3)).setCell ⟨B, 3, none⟩ (.int .i64 4)).setCell ⟨B, 4, none⟩ (.int .i64 5)).setCell ⟨B, 5, none⟩ (.int .i64 6)

set_option maxHeartbeats 2000000 in
theorem mark_one (B : Nat) (a b c d e f : Int) (w : World) (hB : Holds6 w B a b c d e f) : Calls Try.prog 16 #[.slice (some ⟨B, 0, none⟩) 1 1, .int .i64 1] w fun e w' => e = .returned (.int .i64 7) ∧ w' = marked w B := by
  go_enter Try.func16, Try.ntmps16
  go_wp2
  go_loopw [1, 5] (fun t i wr => (i = .int .i64 0 ∧ t = .int .i64 1 ∧ wr = w) ∨ (i = .int .i64 1 ∧ t = .int .i64 7 ∧ wr = marked w B)) (fun _ i _ => 1 - (intOf i).toNat)
  case atStart => exact .inl ⟨rfl, rfl, rfl⟩
  case round =>
    rcases hrel with ⟨rfl, rfl, rfl⟩ | ⟨rfl, rfl, rfl⟩
    · obtain ⟨fz, b0, b1, b2, b3, b4, b5⟩ := hB.facts
      go_wp2
      go_roundw
      case rel => exact .inr ⟨rfl, by simp⟩
      case measure => simp [intOf]
    · go_wp2
      go_ret
      exact ⟨rfl, rfl⟩

end Go.Proofs.Ytacgfeddbcoigaa

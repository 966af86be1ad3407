/- mail of one message at most: l3To, eqMsg, eqMsgS, markMsgS, heldMsgS -/
import Derived.Test.YtelknolcneiikaaDoorSlA
import Derived.Deep.QuietTactic
import Derived.BigQuiet
import Derived.Laws.Rows
import Derived.Deep.RegionWith
namespace Go.Proofs.YtelknolcneiikaaDoor
open Go.RowKit

abbrev six (a b c d e f : Int) : Array Value := #[.int .i64 a, .int .i64 b, .int .i64 c, .int .i64 d, .int .i64 e, .int .i64 f]
/-- a block that holds this one message -/
def Holds6 (w : World) (B : Nat) (a b c d e f : Int) : Prop := w.heap[B]? = some (.cells (six a b c d e f) 59 (0, 0))

theorem Holds6.facts {w : World} {B : Nat} {a b c d e f : Int} (h : Holds6 w B a b c d e f) :
    (∀ i, w.frozen? ⟨B, i, none⟩ = false) ∧ w.cell? ⟨B, 0, none⟩ = some (.int .i64 a) ∧ w.cell? ⟨B, 1, none⟩ = some (.int .i64 b) ∧ w.cell? ⟨B, 2, none⟩ = some (.int .i64 c) ∧ w.cell? ⟨B, 3, none⟩ = some (.int .i64 d) ∧ w.cell? ⟨B, 4, none⟩ = some (.int .i64 e) ∧ w.cell? ⟨B, 5, none⟩ = some (.int .i64 f) := by
  refine ⟨fun i => frozen_of_row w B i _ _ h, ?_, ?_, ?_, ?_, ?_, ?_⟩
  all_goals rw [cell_of_row w B _ _ _ _ h]; rfl

theorem Holds6.lt {w : World} {B : Nat} {a b c d e f : Int} (h : Holds6 w B a b c d e f) : B < w.heap.size := by
  by_cases hlt : B < w.heap.size
  · exact hlt
  · unfold Holds6 at h; rw [Array.getElem?_eq_none (by omega)] at h; cases h

theorem Holds6.next {w w' : World} {B : Nat} {a b c d e f : Int} (h : Holds6 w B a b c d e f) (hb : Below w.heap.size w w') : Holds6 w' B a b c d e f := by
  unfold Holds6
  rw [hb.block B h.lt]; exact h

/-- the block written over, cell by cell -/
abbrev marked (w : World) (B : Nat) : World := (((((w.setCell ⟨B, 0, none⟩ (.int .i64 1)).setCell ⟨B, 1, none⟩ (.int .i64 2)).setCell ⟨B, 2, none⟩ (.int .i64 3)).setCell ⟨B, 3, none⟩ (.int .i64 4)).setCell ⟨B, 4, none⟩ (.int .i64 5)).setCell ⟨B, 5, none⟩ (.int .i64 6)

end Go.Proofs.YtelknolcneiikaaDoor

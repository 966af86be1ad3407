/- a pair of numbers: copied, compared -/
import Derived.Test.YtgafpepmmjjaaaaA
import Derived.Test.YtgafpepmmjjaaaaChA
import Derived.Test.YtgafpepmmjjaaaaRwA
import Derived.Test.YtgafpepmmjjaaaaChecked
import Derived.WalkSmall
import Derived.Deep.RegionHeld3
namespace Go.Proofs.Ytgafpepmmjjaaaa
open Go.RowKit
set_option linter.unusedVariables false
set_option linter.unusedSimpArgs false

theorem ret_b {a b : Bool} (h : a = b) : Ending.returned (.bool a) = .returned (.bool b) := by rw [h]
abbrev pr (x y : Int) : Array Value := #[.int .i64 x, .int .i64 y]
theorem row2_facts {w : World} {B : Nat} {T : TypeId} {v0 v1 : Value} (h : w.heap[B]? = some (.cells #[v0, v1] T (0, 0))) : (∀ i, w.frozen? ⟨B, i, none⟩ = false) ∧ w.cell? ⟨B, 0, none⟩ = some v0 ∧ w.cell? ⟨B, 1, none⟩ = some v1 :=
  ⟨fun i => frozen_of_row _ _ i _ _ h, (cell_of_row _ _ _ _ _ _ h).trans rfl, (cell_of_row _ _ _ _ _ _ h).trans rfl⟩

/-- where the copy stands: the argument, the answer, the copy -/
structure P2 (w wr : World) (x y u v : Int) : Prop where
  a : wr.heap[w.heap.size]? = some (.cells (pr x y) 31 (0, 0))
  b : wr.heap[w.heap.size + 1]? = some (.cells (pr 0 0) 31 (0, 0))
  c : wr.heap[w.heap.size + 1 + 1]? = some (.cells (pr u v) 31 (0, 0))
  d : Below w.heap.size w wr

theorem P2.start (w : World) (x y : Int) : P2 w (((w.alloc (.cells (pr x y) 31)).alloc (.cells (pr 0 0) 31)).alloc (.cells (pr 0 0) 31)) x y 0 0 := by
  refine ⟨?_, ?_, ?_, ?_⟩
  · rw [Below.heap_alloc _ _ _ (by simp; omega), Below.heap_alloc _ _ _ (by simp)]; exact heap_alloc_new _ _
  · rw [Below.heap_alloc _ _ _ (by simp)]; have := heap_alloc_new (w.alloc (.cells (pr x y) 31)) (.cells (pr 0 0) 31); simpa only [World.size_alloc] using this
  · have := heap_alloc_new ((w.alloc (.cells (pr x y) 31)).alloc (.cells (pr 0 0) 31)) (.cells (pr 0 0) 31); simpa only [World.size_alloc] using this
  · exact (((Below.refl _ _).alloc (Nat.le_refl _) _).alloc (by simp) _).alloc (by simp; omega) _
theorem P2.set0 {w wr : World} {x y u v : Int} (h : P2 w wr x y u v) (u' : Int) : P2 w (wr.setCell ⟨w.heap.size + 1 + 1, 0, none⟩ (.int .i64 u')) x y u' v := by
  refine ⟨?_, ?_, ?_, h.d.setCell (by simp <;> omega) _⟩
  · rw [heap_setCell_other _ _ _ _ (by simp; omega)]; exact h.a
  · rw [heap_setCell_other _ _ _ _ (by simp)]; exact h.b
  · rw [heap_setCell_same _ _ 0 _ _ _ h.c]; rfl
theorem P2.set1 {w wr : World} {x y u v : Int} (h : P2 w wr x y u v) (v' : Int) : P2 w (wr.setCell ⟨w.heap.size + 1 + 1, 1, none⟩ (.int .i64 v')) x y u v' := by
  refine ⟨?_, ?_, ?_, h.d.setCell (by simp <;> omega) _⟩
  · rw [heap_setCell_other _ _ _ _ (by simp; omega)]; exact h.a
  · rw [heap_setCell_other _ _ _ _ (by simp)]; exact h.b
  · rw [heap_setCell_same _ _ 1 _ _ _ h.c]; rfl

end Go.Proofs.Ytgafpepmmjjaaaa

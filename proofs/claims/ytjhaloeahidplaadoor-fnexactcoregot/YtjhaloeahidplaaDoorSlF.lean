/- move.answer, a state each, with and without a message (written by mkSlF.py) -/
import Derived.Test.YtjhaloeahidplaaDoorSlD
import Derived.Test.YtjhaloeahidplaaDoorSlE
import Derived.Deep.RegionWith
import Derived.Deep.Heap
namespace Go.Proofs.YtjhaloeahidplaaDoor
open Go.RowKit

theorem Holds6.put4 {w1 : World} {B C : Nat} {a b c d e f : Int} (h : Holds6 w1 C a b c d e f) (hne : C ≠ B) (v0 v1 v2 v3 : Value) : Holds6 ((((w1.setCell ⟨B, 0, none⟩ v0).setCell ⟨B, 1, none⟩ v1).setCell ⟨B, 2, none⟩ v2).setCell ⟨B, 3, none⟩ v3) C a b c d e f := by
  unfold Holds6
  rw [Go.Deep.blk_setCell_other _ _ _ _ hne, Go.Deep.blk_setCell_other _ _ _ _ hne, Go.Deep.blk_setCell_other _ _ _ _ hne, Go.Deep.blk_setCell_other _ _ _ _ hne]
  exact h
theorem holds6_alloc (X : World) (a b c d e f : Int) {n : Nat} (hn : n = X.heap.size) : Holds6 (X.alloc (.cells (six a b c d e f) 25)) n a b c d e f := by
  subst hn; exact heap_alloc_new _ _
theorem Holds6.drew {w : World} {B : Nat} {a b c d e f : Int} (h : Holds6 w B a b c d e f) : Holds6 w.drew B a b c d e f := h

end Go.Proofs.YtjhaloeahidplaaDoor

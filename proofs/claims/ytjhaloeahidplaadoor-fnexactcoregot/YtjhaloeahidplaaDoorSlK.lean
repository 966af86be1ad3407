/- worlds of the slots' exact laws -/
import Derived.Test.YtjhaloeahidplaaDoorSlJ
import Derived.Deep.RegionHeld
namespace Go.Proofs.YtjhaloeahidplaaDoor
open Go.RowKit

theorem sc_alloc {w wx : World} {B : Nat} {a b c d : Int} (h : SC w B a b c d wx) (o : Obj) : SC w B a b c d (wx.alloc o) := sc_next h ((Below.refl _ _).alloc (Nat.le_refl _) _)
theorem sc_here {w wx : World} (h : Below w.heap.size w wx) (a b c d : Int) (T : TypeId) : SC w wx.heap.size a b c d (wx.alloc (.cells #[.int .i64 a, .int .i64 b, .int .i64 c, .int .i64 d] T)) :=
  ⟨h.alloc h.size _, by simp, by simp, by simp, by simp⟩
theorem holds_alloc {w : World} {B : Nat} {a b c d e f : Int} (h : Holds6 w B a b c d e f) (o : Obj) : Holds6 (w.alloc o) B a b c d e f := h.next ((Below.refl _ _).alloc (Nat.le_refl _) _)

theorem marked_other {w : World} {A B : Nat} {a b c d e f : Int} (h : Holds6 w A a b c d e f) (hne : A ≠ B) : Holds6 (marked w B) A a b c d e f := by
  unfold Holds6
  rw [marked, Go.Deep.blk_setCell_other _ _ _ _ hne, Go.Deep.blk_setCell_other _ _ _ _ hne, Go.Deep.blk_setCell_other _ _ _ _ hne, Go.Deep.blk_setCell_other _ _ _ _ hne, Go.Deep.blk_setCell_other _ _ _ _ hne, Go.Deep.blk_setCell_other _ _ _ _ hne]
  exact h

theorem marked_self {w : World} {B : Nat} {a b c d e f : Int} (h : Holds6 w B a b c d e f) : Holds6 (marked w B) B 1 2 3 4 5 6 := by
  unfold Holds6 at h
  simp [Holds6, marked, six, World.setCell, Array.getElem?_modify, h]

theorem SC.mark {w wx : World} {B0 B : Nat} {a b c d : Int} (h : SC w B0 a b c d wx) (hB : w.heap.size ≤ B) (hne : B0 ≠ B) : SC w B0 a b c d (marked wx B) := by
  have hn : B ≠ B0 := Ne.symm hne
  refine ⟨(((((h.1.setCell hB _).setCell hB _).setCell hB _).setCell hB _).setCell hB _).setCell hB _, ?_, ?_, ?_, ?_⟩
  all_goals
    rw [marked, World.cell?_setCell_far _ _ _ _ hn, World.cell?_setCell_far _ _ _ _ hn, World.cell?_setCell_far _ _ _ _ hn, World.cell?_setCell_far _ _ _ _ hn, World.cell?_setCell_far _ _ _ _ hn, World.cell?_setCell_far _ _ _ _ hn]
  · exact h.2.1
  · exact h.2.2.1
  · exact h.2.2.2.1
  · exact h.2.2.2.2

theorem told_none {w : World} {b0 : Nat} {v : Value} {core line d : Int} (h : Told w b0 v 0 core line d) : v = .slice none 0 0 := by
  rcases h with h | ⟨hk, _⟩
  · exact h.2
  · exact absurd rfl hk
theorem told_one {w : World} {b0 : Nat} {v : Value} {k core line d : Int} (h : Told w b0 v k core line d) (hk : ¬ k = 0) : ∃ B, b0 ≤ B ∧ v = .slice (some ⟨B, 0, none⟩) 1 1 ∧ Holds6 w B k core 0 line 0 d := by
  rcases h with ⟨h, _⟩ | ⟨_, h⟩
  · exact absurd h hk
  · exact h

end Go.Proofs.YtjhaloeahidplaaDoor

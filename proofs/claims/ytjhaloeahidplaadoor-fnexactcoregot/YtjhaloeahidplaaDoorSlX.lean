/- what the walk of laws.FnExactCoreGot keeps (written by mkGot.py) -/
import Derived.Test.YtjhaloeahidplaaDoorSlR
import Derived.Test.YtjhaloeahidplaaDoorSlK
import Derived.Deep.RegionHeld3
import Derived.Deep.DeepCutAuto
import Derived.Deep.Cut
namespace Go.Proofs.YtjhaloeahidplaaDoor
open Go.RowKit
set_option linter.unusedVariables false

theorem keep10 {X : World → Prop} (hX : ∀ W W', X W → Below W.heap.size W W' → X W') {w W W' : World} {p0 p1 p2 p3 p4 p5 p6 p7 p8 p9 : Addr} {x0 x1 x2 x3 x4 x5 x6 x7 x8 x9 : Value} (h : Below w.heap.size w W ∧ W.cell? p0 = some x0 ∧ W.cell? p1 = some x1 ∧ W.cell? p2 = some x2 ∧ W.cell? p3 = some x3 ∧ W.cell? p4 = some x4 ∧ W.cell? p5 = some x5 ∧ W.cell? p6 = some x6 ∧ W.cell? p7 = some x7 ∧ W.cell? p8 = some x8 ∧ W.cell? p9 = some x9 ∧ X W) (hb : Below W.heap.size W W') : Below w.heap.size w W' ∧ W'.cell? p0 = some x0 ∧ W'.cell? p1 = some x1 ∧ W'.cell? p2 = some x2 ∧ W'.cell? p3 = some x3 ∧ W'.cell? p4 = some x4 ∧ W'.cell? p5 = some x5 ∧ W'.cell? p6 = some x6 ∧ W'.cell? p7 = some x7 ∧ W'.cell? p8 = some x8 ∧ W'.cell? p9 = some x9 ∧ X W' := ⟨h.1.trans (hb.mono h.1.size), keepc hb h.2.1, keepc hb h.2.2.1, keepc hb h.2.2.2.1, keepc hb h.2.2.2.2.1, keepc hb h.2.2.2.2.2.1, keepc hb h.2.2.2.2.2.2.1, keepc hb h.2.2.2.2.2.2.2.1, keepc hb h.2.2.2.2.2.2.2.2.1, keepc hb h.2.2.2.2.2.2.2.2.2.1, keepc hb h.2.2.2.2.2.2.2.2.2.2.1, hX _ _ h.2.2.2.2.2.2.2.2.2.2.2 hb⟩
theorem sc_drew {w wx : World} {B : Nat} {a b c d : Int} (h : SC w B a b c d wx) : SC w B a b c d wx.drew := ⟨h.1.drew, h.2.1, h.2.2.1, h.2.2.2.1, h.2.2.2.2⟩
theorem Box6.mark {w : World} {B0 B : Nat} {a b c d e f : Int} (h : Box6 w B0 a b c d e f) (hne : B0 ≠ B) : Box6 (marked w B) B0 a b c d e f := by
  have hn : B ≠ B0 := Ne.symm hne
  refine ⟨?_, ?_, ?_, ?_, ?_, ?_⟩
  all_goals
    rw [marked, World.cell?_setCell_far _ _ _ _ hn, World.cell?_setCell_far _ _ _ _ hn, World.cell?_setCell_far _ _ _ _ hn, World.cell?_setCell_far _ _ _ _ hn, World.cell?_setCell_far _ _ _ _ hn, World.cell?_setCell_far _ _ _ _ hn]
  · exact h.1
  · exact h.2.1
  · exact h.2.2.1
  · exact h.2.2.2.1
  · exact h.2.2.2.2.1
  · exact h.2.2.2.2.2
theorem keep10p {X : World → Prop} {w W : World} {P : Nat} {x0 x1 x2 x3 x4 x5 x6 x7 x8 x9 v0 v1 v2 v3 : Value} (hX : X W → X ((((W.setCell ⟨P, 0, none⟩ v0).setCell ⟨P, 1, none⟩ v1).setCell ⟨P, 2, none⟩ v2).setCell ⟨P, 3, none⟩ v3)) (h : Below w.heap.size w W ∧ W.cell? ⟨w.heap.size, 0, none⟩ = some x0 ∧ W.cell? ⟨w.heap.size, 1, none⟩ = some x1 ∧ W.cell? ⟨w.heap.size, 2, none⟩ = some x2 ∧ W.cell? ⟨w.heap.size, 3, none⟩ = some x3 ∧ W.cell? ⟨w.heap.size + 1, 0, none⟩ = some x4 ∧ W.cell? ⟨w.heap.size + 1, 1, none⟩ = some x5 ∧ W.cell? ⟨w.heap.size + 1, 2, none⟩ = some x6 ∧ W.cell? ⟨w.heap.size + 1, 3, none⟩ = some x7 ∧ W.cell? ⟨w.heap.size + 1, 4, none⟩ = some x8 ∧ W.cell? ⟨w.heap.size + 1, 5, none⟩ = some x9 ∧ X W) (hP : w.heap.size + 1 < P) : Below w.heap.size w ((((W.setCell ⟨P, 0, none⟩ v0).setCell ⟨P, 1, none⟩ v1).setCell ⟨P, 2, none⟩ v2).setCell ⟨P, 3, none⟩ v3) ∧ ((((W.setCell ⟨P, 0, none⟩ v0).setCell ⟨P, 1, none⟩ v1).setCell ⟨P, 2, none⟩ v2).setCell ⟨P, 3, none⟩ v3).cell? ⟨w.heap.size, 0, none⟩ = some x0 ∧ ((((W.setCell ⟨P, 0, none⟩ v0).setCell ⟨P, 1, none⟩ v1).setCell ⟨P, 2, none⟩ v2).setCell ⟨P, 3, none⟩ v3).cell? ⟨w.heap.size, 1, none⟩ = some x1 ∧ ((((W.setCell ⟨P, 0, none⟩ v0).setCell ⟨P, 1, none⟩ v1).setCell ⟨P, 2, none⟩ v2).setCell ⟨P, 3, none⟩ v3).cell? ⟨w.heap.size, 2, none⟩ = some x2 ∧ ((((W.setCell ⟨P, 0, none⟩ v0).setCell ⟨P, 1, none⟩ v1).setCell ⟨P, 2, none⟩ v2).setCell ⟨P, 3, none⟩ v3).cell? ⟨w.heap.size, 3, none⟩ = some x3 ∧ ((((W.setCell ⟨P, 0, none⟩ v0).setCell ⟨P, 1, none⟩ v1).setCell ⟨P, 2, none⟩ v2).setCell ⟨P, 3, none⟩ v3).cell? ⟨w.heap.size + 1, 0, none⟩ = some x4 ∧ ((((W.setCell ⟨P, 0, none⟩ v0).setCell ⟨P, 1, none⟩ v1).setCell ⟨P, 2, none⟩ v2).setCell ⟨P, 3, none⟩ v3).cell? ⟨w.heap.size + 1, 1, none⟩ = some x5 ∧ ((((W.setCell ⟨P, 0, none⟩ v0).setCell ⟨P, 1, none⟩ v1).setCell ⟨P, 2, none⟩ v2).setCell ⟨P, 3, none⟩ v3).cell? ⟨w.heap.size + 1, 2, none⟩ = some x6 ∧ ((((W.setCell ⟨P, 0, none⟩ v0).setCell ⟨P, 1, none⟩ v1).setCell ⟨P, 2, none⟩ v2).setCell ⟨P, 3, none⟩ v3).cell? ⟨w.heap.size + 1, 3, none⟩ = some x7 ∧ ((((W.setCell ⟨P, 0, none⟩ v0).setCell ⟨P, 1, none⟩ v1).setCell ⟨P, 2, none⟩ v2).setCell ⟨P, 3, none⟩ v3).cell? ⟨w.heap.size + 1, 4, none⟩ = some x8 ∧ ((((W.setCell ⟨P, 0, none⟩ v0).setCell ⟨P, 1, none⟩ v1).setCell ⟨P, 2, none⟩ v2).setCell ⟨P, 3, none⟩ v3).cell? ⟨w.heap.size + 1, 5, none⟩ = some x9 ∧ X ((((W.setCell ⟨P, 0, none⟩ v0).setCell ⟨P, 1, none⟩ v1).setCell ⟨P, 2, none⟩ v2).setCell ⟨P, 3, none⟩ v3) :=
  ⟨below_put4 h.1 (by omega) _ _ _ _, put4_far (by omega) h.2.1, put4_far (by omega) h.2.2.1, put4_far (by omega) h.2.2.2.1, put4_far (by omega) h.2.2.2.2.1, put4_far (by omega) h.2.2.2.2.2.1, put4_far (by omega) h.2.2.2.2.2.2.1, put4_far (by omega) h.2.2.2.2.2.2.2.1, put4_far (by omega) h.2.2.2.2.2.2.2.2.1, put4_far (by omega) h.2.2.2.2.2.2.2.2.2.1, put4_far (by omega) h.2.2.2.2.2.2.2.2.2.2.1, hX h.2.2.2.2.2.2.2.2.2.2.2⟩
theorem sc_far {w W : World} {P B : Nat} {a b c d : Int} {v0 v1 v2 v3 : Value} (h : SC w B a b c d W) (hP : w.heap.size ≤ P) (hne : P ≠ B) : SC w B a b c d ((((W.setCell ⟨P, 0, none⟩ v0).setCell ⟨P, 1, none⟩ v1).setCell ⟨P, 2, none⟩ v2).setCell ⟨P, 3, none⟩ v3) :=
  ⟨below_put4 h.1 hP _ _ _ _, put4_far hne h.2.1, put4_far hne h.2.2.1, put4_far hne h.2.2.2.1, put4_far hne h.2.2.2.2⟩
theorem row_facts {u : World} {P : Nat} {z0 z1 z2 z3 : Value} (h : u.heap[P]? = some (.cells #[z0, z1, z2, z3] 33 (0, 0))) : (∀ i, u.frozen? ⟨P, i, none⟩ = false) ∧ u.cell? ⟨P, 0, none⟩ = some z0 ∧ u.cell? ⟨P, 1, none⟩ = some z1 ∧ u.cell? ⟨P, 2, none⟩ = some z2 ∧ u.cell? ⟨P, 3, none⟩ = some z3 :=
  ⟨fun i => frozen_of_row _ _ i _ _ h, (cell_of_row _ _ _ _ _ _ h).trans rfl, (cell_of_row _ _ _ _ _ _ h).trans rfl, (cell_of_row _ _ _ _ _ _ h).trans rfl, (cell_of_row _ _ _ _ _ _ h).trans rfl⟩
theorem belNext {w W W' : World} {R : Prop} (hS : Below w.heap.size w W ∧ R) (hb : Below W.heap.size W W') : Below w.heap.size w W' := hS.1.trans (hb.mono hS.1.size)
theorem tabS {w W : World} {R : Prop} (h : Tab w) (hS : Below w.heap.size w W ∧ R) : Tab W := h.below hS.1
theorem sc_put4 {w u : World} {P : Nat} (bel : Below w.heap.size w u) (hP : w.heap.size ≤ P) {z0 z1 z2 z3 : Value} (hr : u.heap[P]? = some (.cells #[z0, z1, z2, z3] 33 (0, 0))) (n0 n1 n2 n3 : Int) : SC w P n0 n1 n2 n3 ((((u.setCell ⟨P, 0, none⟩ (.int .i64 n0)).setCell ⟨P, 1, none⟩ (.int .i64 n1)).setCell ⟨P, 2, none⟩ (.int .i64 n2)).setCell ⟨P, 3, none⟩ (.int .i64 n3)) := by
  have e : ((((u.setCell ⟨P, 0, none⟩ (.int .i64 n0)).setCell ⟨P, 1, none⟩ (.int .i64 n1)).setCell ⟨P, 2, none⟩ (.int .i64 n2)).setCell ⟨P, 3, none⟩ (.int .i64 n3)).heap[P]? = some (.cells #[.int .i64 n0, .int .i64 n1, .int .i64 n2, .int .i64 n3] 33 (0, 0)) := by
    rw [heap_setCell_same _ P 3 _ _ _ (heap_setCell_same _ P 2 _ _ _ (heap_setCell_same _ P 1 _ _ _ (heap_setCell_same _ P 0 _ _ _ hr)))]
    rfl
  exact ⟨below_put4 bel hP _ _ _ _, (cell_of_row _ _ _ _ _ _ e).trans rfl, (cell_of_row _ _ _ _ _ _ e).trans rfl, (cell_of_row _ _ _ _ _ _ e).trans rfl, (cell_of_row _ _ _ _ _ _ e).trans rfl⟩
theorem two_start (w : World) (a b c d mk mf mt ml mw md : Int) : SC w w.heap.size a b c d ((w.alloc (.cells #[.int .i64 a, .int .i64 b, .int .i64 c, .int .i64 d] 62)).alloc (.cells #[.int .i64 mk, .int .i64 mf, .int .i64 mt, .int .i64 ml, .int .i64 mw, .int .i64 md] 63)) ∧
    Box6 ((w.alloc (.cells #[.int .i64 a, .int .i64 b, .int .i64 c, .int .i64 d] 62)).alloc (.cells #[.int .i64 mk, .int .i64 mf, .int .i64 mt, .int .i64 ml, .int .i64 mw, .int .i64 md] 63)) (w.heap.size + 1) mk mf mt ml mw md := by
  refine ⟨sc_alloc (sc_box w a b c d _) _, ?_⟩
  generalize hA : Obj.cells #[.int .i64 a, .int .i64 b, .int .i64 c, .int .i64 d] 62 = A
  generalize hB : Obj.cells #[.int .i64 mk, .int .i64 mf, .int .i64 mt, .int .i64 ml, .int .i64 mw, .int .i64 md] 63 = B
  have e1 : ((w.alloc A).alloc B).heap[w.heap.size + 1]? = some B := by
    have := heap_alloc_new (w.alloc A) B; simpa only [World.size_alloc] using this
  subst hB
  exact ⟨(cell_of_row _ _ _ _ _ _ e1).trans rfl, (cell_of_row _ _ _ _ _ _ e1).trans rfl, (cell_of_row _ _ _ _ _ _ e1).trans rfl, (cell_of_row _ _ _ _ _ _ e1).trans rfl, (cell_of_row _ _ _ _ _ _ e1).trans rfl, (cell_of_row _ _ _ _ _ _ e1).trans rfl⟩

end Go.Proofs.YtjhaloeahidplaaDoor

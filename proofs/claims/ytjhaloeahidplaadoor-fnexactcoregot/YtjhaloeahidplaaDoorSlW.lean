/- the world of a call with a slot, a message and a result -/
import Derived.Test.YtjhaloeahidplaaDoorSlN
import Derived.Deep.RegionHeld
namespace Go.Proofs.YtjhaloeahidplaaDoor
open Go.RowKit
set_option linter.unusedVariables false
set_option linter.unusedSimpArgs false

/-- the world of a call with a slot's box, a message's box and a result's -/
def CW (w : World) (a b c d mk mf mt ml mw md : Int) (wx : World) : Prop :=
  (Below w.heap.size w wx ∧ w.heap.size + 2 < wx.heap.size) ∧ (wx.cell? ⟨w.heap.size, 0, none⟩ = some (.int .i64 a) ∧ wx.cell? ⟨w.heap.size, 1, none⟩ = some (.int .i64 b) ∧ wx.cell? ⟨w.heap.size, 2, none⟩ = some (.int .i64 c) ∧ wx.cell? ⟨w.heap.size, 3, none⟩ = some (.int .i64 d)) ∧
  Box6 wx (w.heap.size + 1) mk mf mt ml mw md ∧
  ((∀ i, wx.frozen? ⟨w.heap.size + 1 + 1, i, none⟩ = false) ∧ wx.cell? ⟨w.heap.size + 1 + 1, 0, none⟩ = some (.int .i64 0) ∧ wx.cell? ⟨w.heap.size + 1 + 1, 1, none⟩ = some (.int .i64 0) ∧ wx.cell? ⟨w.heap.size + 1 + 1, 2, none⟩ = some (.int .i64 0) ∧ wx.cell? ⟨w.heap.size + 1 + 1, 3, none⟩ = some (.int .i64 0))

theorem keep6 {w W W' : World} {p0 p1 p2 p3 p4 p5 : Addr} {x0 x1 x2 x3 x4 x5 : Value} (h : Below w.heap.size w W ∧ W.cell? p0 = some x0 ∧ W.cell? p1 = some x1 ∧ W.cell? p2 = some x2 ∧ W.cell? p3 = some x3 ∧ W.cell? p4 = some x4 ∧ W.cell? p5 = some x5) (hb : Below W.heap.size W W') : Below w.heap.size w W' ∧ W'.cell? p0 = some x0 ∧ W'.cell? p1 = some x1 ∧ W'.cell? p2 = some x2 ∧ W'.cell? p3 = some x3 ∧ W'.cell? p4 = some x4 ∧ W'.cell? p5 = some x5 := ⟨h.1.trans (hb.mono h.1.size), keepc hb h.2.1, keepc hb h.2.2.1, keepc hb h.2.2.2.1, keepc hb h.2.2.2.2.1, keepc hb h.2.2.2.2.2.1, keepc hb h.2.2.2.2.2.2⟩
theorem put4_far {W : World} {B C i : Nat} {v0 v1 v2 v3 u : Value} (hne : B ≠ C) (h : W.cell? ⟨C, i, none⟩ = some u) : ((((W.setCell ⟨B, 0, none⟩ v0).setCell ⟨B, 1, none⟩ v1).setCell ⟨B, 2, none⟩ v2).setCell ⟨B, 3, none⟩ v3).cell? ⟨C, i, none⟩ = some u := by
  rw [World.cell?_setCell_far _ _ _ _ hne, World.cell?_setCell_far _ _ _ _ hne, World.cell?_setCell_far _ _ _ _ hne, World.cell?_setCell_far _ _ _ _ hne]; exact h
theorem keep6p {w W : World} {B B0 B1 : Nat} {x0 x1 x2 x3 x4 x5 v0 v1 v2 v3 : Value} (h : Below w.heap.size w W ∧ W.cell? ⟨B0, 0, none⟩ = some x0 ∧ W.cell? ⟨B0, 1, none⟩ = some x1 ∧ W.cell? ⟨B0, 2, none⟩ = some x2 ∧ W.cell? ⟨B0, 3, none⟩ = some x3 ∧ W.cell? ⟨B1, 2, none⟩ = some x4 ∧ W.cell? ⟨B1, 3, none⟩ = some x5) (hB : w.heap.size ≤ B) (hne : B ≠ B0 ∧ B ≠ B1) : Below w.heap.size w ((((W.setCell ⟨B, 0, none⟩ v0).setCell ⟨B, 1, none⟩ v1).setCell ⟨B, 2, none⟩ v2).setCell ⟨B, 3, none⟩ v3) ∧ ((((W.setCell ⟨B, 0, none⟩ v0).setCell ⟨B, 1, none⟩ v1).setCell ⟨B, 2, none⟩ v2).setCell ⟨B, 3, none⟩ v3).cell? ⟨B0, 0, none⟩ = some x0 ∧ ((((W.setCell ⟨B, 0, none⟩ v0).setCell ⟨B, 1, none⟩ v1).setCell ⟨B, 2, none⟩ v2).setCell ⟨B, 3, none⟩ v3).cell? ⟨B0, 1, none⟩ = some x1 ∧ ((((W.setCell ⟨B, 0, none⟩ v0).setCell ⟨B, 1, none⟩ v1).setCell ⟨B, 2, none⟩ v2).setCell ⟨B, 3, none⟩ v3).cell? ⟨B0, 2, none⟩ = some x2 ∧ ((((W.setCell ⟨B, 0, none⟩ v0).setCell ⟨B, 1, none⟩ v1).setCell ⟨B, 2, none⟩ v2).setCell ⟨B, 3, none⟩ v3).cell? ⟨B0, 3, none⟩ = some x3 ∧ ((((W.setCell ⟨B, 0, none⟩ v0).setCell ⟨B, 1, none⟩ v1).setCell ⟨B, 2, none⟩ v2).setCell ⟨B, 3, none⟩ v3).cell? ⟨B1, 2, none⟩ = some x4 ∧ ((((W.setCell ⟨B, 0, none⟩ v0).setCell ⟨B, 1, none⟩ v1).setCell ⟨B, 2, none⟩ v2).setCell ⟨B, 3, none⟩ v3).cell? ⟨B1, 3, none⟩ = some x5 := ⟨below_put4 h.1 hB _ _ _ _, put4_far hne.1 h.2.1, put4_far hne.1 h.2.2.1, put4_far hne.1 h.2.2.2.1, put4_far hne.1 h.2.2.2.2.1, put4_far hne.2 h.2.2.2.2.2.1, put4_far hne.2 h.2.2.2.2.2.2⟩

theorem CW.next {w wx wy : World} {a b c d mk mf mt ml mw md : Int} (h : CW w a b c d mk mf mt ml mw md wx) (hb : Below wx.heap.size wx wy) : CW w a b c d mk mf mt ml mw md wy := by
  obtain ⟨⟨h1, h2⟩, ⟨c0, c1, c2, c3⟩, h3, h4, r0, r1, r2, r3⟩ := h
  exact ⟨⟨h1.trans (hb.mono h1.size), Nat.lt_of_lt_of_le h2 hb.size⟩, ⟨keepc hb c0, keepc hb c1, keepc hb c2, keepc hb c3⟩, h3.next hb, fun i => (hb.frozen (p := ⟨w.heap.size + 1 + 1, i, none⟩) h2).trans (h4 i), keepc hb r0, keepc hb r1, keepc hb r2, keepc hb r3⟩
theorem CW.drew {w wx : World} {a b c d mk mf mt ml mw md : Int} (h : CW w a b c d mk mf mt ml mw md wx) : CW w a b c d mk mf mt ml mw md wx.drew := ⟨⟨h.1.1.drew, h.1.2⟩, h.2⟩
theorem cw_start (w : World) (a b c d mk mf mt ml mw md : Int) : CW w a b c d mk mf mt ml mw md (((w.alloc (.cells #[.int .i64 a, .int .i64 b, .int .i64 c, .int .i64 d] 33)).alloc (.cells #[.int .i64 mk, .int .i64 mf, .int .i64 mt, .int .i64 ml, .int .i64 mw, .int .i64 md] 25)).alloc (.cells #[.int .i64 0, .int .i64 0, .int .i64 0, .int .i64 0] 33)) := by
  generalize hA : Obj.cells #[.int .i64 a, .int .i64 b, .int .i64 c, .int .i64 d] 33 = A
  generalize hB : Obj.cells #[.int .i64 mk, .int .i64 mf, .int .i64 mt, .int .i64 ml, .int .i64 mw, .int .i64 md] 25 = B
  generalize hC : Obj.cells #[.int .i64 0, .int .i64 0, .int .i64 0, .int .i64 0] 33 = C
  have e0 : (((w.alloc A).alloc B).alloc C).heap[w.heap.size]? = some A := by
    rw [Below.heap_alloc _ _ _ (by simp; omega), Below.heap_alloc _ _ _ (by simp)]; exact heap_alloc_new _ _
  have e1 : (((w.alloc A).alloc B).alloc C).heap[w.heap.size + 1]? = some B := by
    rw [Below.heap_alloc _ _ _ (by simp)]; have := heap_alloc_new (w.alloc A) B; simpa only [World.size_alloc] using this
  have e2 : (((w.alloc A).alloc B).alloc C).heap[w.heap.size + 1 + 1]? = some C := by
    have := heap_alloc_new ((w.alloc A).alloc B) C; simpa only [World.size_alloc] using this
  subst hA hB hC
  refine ⟨⟨((((Below.refl _ _).alloc (Nat.le_refl _) _).alloc (by simp) _).alloc (by simp; omega) _), by simp⟩, ⟨?_, ?_, ?_, ?_⟩, ⟨?_, ?_, ?_, ?_, ?_, ?_⟩, fun i => frozen_of_row _ _ i _ _ e2, ?_, ?_, ?_, ?_⟩
  all_goals first
    | exact (cell_of_row _ _ _ _ _ _ e0).trans rfl
    | exact (cell_of_row _ _ _ _ _ _ e1).trans rfl
    | exact (cell_of_row _ _ _ _ _ _ e2).trans rfl


end Go.Proofs.YtjhaloeahidplaaDoor

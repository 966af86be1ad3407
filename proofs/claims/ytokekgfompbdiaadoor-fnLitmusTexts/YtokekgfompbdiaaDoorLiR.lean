/- slices of BAct: copied, compared (written by mkRow.py) -/
import Derived.Test.YtokekgfompbdiaaDoorLiF
import Derived.Deep.RegionHeld3
namespace Go.Proofs.YtokekgfompbdiaaDoor
open Go.RowKit
set_option linter.unusedVariables false
set_option linter.unusedSimpArgs false

theorem Orow.set5 {w : World} {base g n cap k : Nat} {T : TypeId} {f : Nat → Nat → Int} (hk : k < n) (h : Orow w base T 5 (.slice (some ⟨g, 0, none⟩) n cap) n k f) :
    Orow (((((w.setCell ⟨g, k * 5, none⟩ (.int .i64 (f k 0))).setCell ⟨g, k * 5 + 1, none⟩ (.int .i64 (f k 1))).setCell ⟨g, k * 5 + 2, none⟩ (.int .i64 (f k 2))).setCell ⟨g, k * 5 + 3, none⟩ (.int .i64 (f k 3))).setCell ⟨g, k * 5 + 4, none⟩ (.int .i64 (f k 4))) base T 5 (.slice (some ⟨g, 0, none⟩) n cap) n (k + 1) f := by
  have h2 := (((((World.ownsRow.stored h (k * 5) (.int .i64 (f k 0))).1.stored (k * 5 + 1) (.int .i64 (f k 1))).1.stored (k * 5 + 2) (.int .i64 (f k 2))).1.stored (k * 5 + 3) (.int .i64 (f k 3))).1.stored (k * 5 + 4) (.int .i64 (f k 4))).1
  unfold Orow
  rw [← rowC_sets (l := ((((((rowC 5 n k f).set (k * 5) (.int .i64 (f k 0))).set (k * 5 + 1) (.int .i64 (f k 1))).set (k * 5 + 2) (.int .i64 (f k 2))).set (k * 5 + 3) (.int .i64 (f k 3))).set (k * 5 + 4) (.int .i64 (f k 4)))) hk (by simp [rowC_length]) ?_ ?_]
  · exact h2
  · intro x hx hne
    rw [List.getElem?_set_ne (by omega), List.getElem?_set_ne (by omega), List.getElem?_set_ne (by omega), List.getElem?_set_ne (by omega), List.getElem?_set_ne (by omega)]
  · intro i hi
    match i, hi with
    | 0, _ => rw [List.getElem?_set_ne (by omega), List.getElem?_set_ne (by omega), List.getElem?_set_ne (by omega), List.getElem?_set_ne (by omega), Nat.add_zero, List.getElem?_set_self (by simp only [List.length_set, rowC_length]; omega)]
    | 1, _ => rw [List.getElem?_set_ne (by omega), List.getElem?_set_ne (by omega), List.getElem?_set_ne (by omega), List.getElem?_set_self (by simp only [List.length_set, rowC_length]; omega)]
    | 2, _ => rw [List.getElem?_set_ne (by omega), List.getElem?_set_ne (by omega), List.getElem?_set_self (by simp only [List.length_set, rowC_length]; omega)]
    | 3, _ => rw [List.getElem?_set_ne (by omega), List.getElem?_set_self (by simp only [List.length_set, rowC_length]; omega)]
    | 4, _ => rw [List.getElem?_set_self (by simp only [List.length_set, rowC_length]; omega)]

theorem infoBAct : (Tryd.prog.info? 42).map (fun i => (i.zero, i.size, i.bytes)) = some (some (.agg #[.int .i64 0, .int .i64 0, .int .i64 0, .int .i64 0, .int .i64 0]), 5, 40) := by kernel_rfl

/-- the cells of a struct of a row that is the call's own -/
theorem Orow.at5 {w : World} {base g n cap k j : Nat} {T : TypeId} {f : Nat → Nat → Int} (hj : j < n) (h : Orow w base T 5 (.slice (some ⟨g, 0, none⟩) n cap) n k f) :
    (∀ i, w.frozen? ⟨g, i, none⟩ = false) ∧ (∃ o, w.cell? ⟨g, j * 5, none⟩ = some o) ∧ (∃ o, w.cell? ⟨g, j * 5 + 1, none⟩ = some o) ∧ (∃ o, w.cell? ⟨g, j * 5 + 2, none⟩ = some o) ∧ (∃ o, w.cell? ⟨g, j * 5 + 3, none⟩ = some o) ∧ (∃ o, w.cell? ⟨g, j * 5 + 4, none⟩ = some o) := by
  refine ⟨fun i => World.ownsRow.frozenAt h i, ?_, ?_, ?_, ?_, ?_⟩
  · have := World.ownsRow.cellAt h (j * 5) (by omega)
    rw [rowC_get (by omega)] at this
    exact ⟨_, this⟩
  · have := World.ownsRow.cellAt h (j * 5 + 1) (by omega)
    rw [rowC_get (by omega)] at this
    exact ⟨_, this⟩
  · have := World.ownsRow.cellAt h (j * 5 + 2) (by omega)
    rw [rowC_get (by omega)] at this
    exact ⟨_, this⟩
  · have := World.ownsRow.cellAt h (j * 5 + 3) (by omega)
    rw [rowC_get (by omega)] at this
    exact ⟨_, this⟩
  · have := World.ownsRow.cellAt h (j * 5 + 4) (by omega)
    rw [rowC_get (by omega)] at this
    exact ⟨_, this⟩

theorem keepR5 {w W W' : World} {p0 p1 p2 p3 p4 p5 p6 p7 p8 p9 : Addr} {x0 x1 x2 x3 x4 x5 x6 x7 x8 x9 : Value} (h : Below w.heap.size w W ∧ W.cell? p0 = some x0 ∧ W.cell? p1 = some x1 ∧ W.cell? p2 = some x2 ∧ W.cell? p3 = some x3 ∧ W.cell? p4 = some x4 ∧ W.cell? p5 = some x5 ∧ W.cell? p6 = some x6 ∧ W.cell? p7 = some x7 ∧ W.cell? p8 = some x8 ∧ W.cell? p9 = some x9) (hb : Below W.heap.size W W') : Below w.heap.size w W' ∧ W'.cell? p0 = some x0 ∧ W'.cell? p1 = some x1 ∧ W'.cell? p2 = some x2 ∧ W'.cell? p3 = some x3 ∧ W'.cell? p4 = some x4 ∧ W'.cell? p5 = some x5 ∧ W'.cell? p6 = some x6 ∧ W'.cell? p7 = some x7 ∧ W'.cell? p8 = some x8 ∧ W'.cell? p9 = some x9 := ⟨h.1.trans (hb.mono h.1.size), keepc hb h.2.1, keepc hb h.2.2.1, keepc hb h.2.2.2.1, keepc hb h.2.2.2.2.1, keepc hb h.2.2.2.2.2.1, keepc hb h.2.2.2.2.2.2.1, keepc hb h.2.2.2.2.2.2.2.1, keepc hb h.2.2.2.2.2.2.2.2.1, keepc hb h.2.2.2.2.2.2.2.2.2.1, keepc hb h.2.2.2.2.2.2.2.2.2.2⟩

end Go.Proofs.YtokekgfompbdiaaDoor

/- impl.LineOk -/
import Derived.Test.YtacgfeddbcoigaaLqA
namespace Go.Proofs.Ytacgfeddbcoigaa
open Go.RowKit
set_option linter.unusedVariables false
set_option linter.unusedSimpArgs false

/-- a right line -/
def lineP (mem ow : Int) (zs : List Int) (bu wt ac : Int) (n : Nat) (f : Nat → Nat → Int) : Prop :=
  (0 ≤ mem ∧ mem ≤ 1000000) ∧ (0 ≤ ow ∧ ow ≤ 5) ∧ Ids.ok zs = true ∧
  ((bu = 0 ∧ wt = 0 ∧ ac = 0 ∧ n = 0) ∨ ((1 ≤ bu ∧ bu ≤ 5) ∧ (1 ≤ wt ∧ wt ≤ 2) ∧ (1 ≤ ac ∧ ac ≤ 5) ∧ n ≤ 10 ∧ ∀ j, j < n → reqB (f j 0) (f j 1) = true))
open Classical in
noncomputable def lineB (mem ow : Int) (zs : List Int) (bu wt ac : Int) (n : Nat) (f : Nat → Nat → Int) : Bool := decide (lineP mem ow zs bu wt ac n f)
theorem lineB_yes {mem ow : Int} {zs : List Int} {bu wt ac : Int} {n : Nat} {f : Nat → Nat → Int} (h : lineP mem ow zs bu wt ac n f) : true = lineB mem ow zs bu wt ac n f := by simp [lineB, h]
theorem lineB_no {mem ow : Int} {zs : List Int} {bu wt ac : Int} {n : Nat} {f : Nat → Nat → Int} (h : ¬ lineP mem ow zs bu wt ac n f) : false = lineB mem ow zs bu wt ac n f := by simp [lineB, h]

/-- a busy line's own part -/
def busyP (bu wt ac : Int) (n : Nat) (f : Nat → Nat → Int) : Prop := (1 ≤ bu ∧ bu ≤ 5) ∧ (1 ≤ wt ∧ wt ≤ 2) ∧ (1 ≤ ac ∧ ac ≤ 5) ∧ n ≤ 10 ∧ ∀ j, j < n → reqB (f j 0) (f j 1) = true
open Classical in
noncomputable def busyB (bu wt ac : Int) (n : Nat) (f : Nat → Nat → Int) : Bool := decide (busyP bu wt ac n f)
theorem busyB_yes {bu wt ac : Int} {n : Nat} {f : Nat → Nat → Int} (h : busyP bu wt ac n f) : true = busyB bu wt ac n f := by simp [busyB, h]
theorem busyB_no {bu wt ac : Int} {n : Nat} {f : Nat → Nat → Int} (h : ¬ busyP bu wt ac n f) : false = busyB bu wt ac n f := by simp [busyB, h]

abbrev ln7 (mem ow : Int) (sv : Value) (bu wt ac : Int) (qv : Value) : Array Value := #[.int .i64 mem, .int .i64 ow, sv, .int .i64 bu, .int .i64 wt, .int .i64 ac, qv]
/-- a line's box -/
def LB (w : World) (B : Nat) (mem ow : Int) (sv : Value) (bu wt ac : Int) (qv : Value) (wx : World) : Prop :=
  Below w.heap.size w wx ∧ wx.cell? ⟨B, 0, none⟩ = some (.int .i64 mem) ∧ wx.cell? ⟨B, 1, none⟩ = some (.int .i64 ow) ∧ wx.cell? ⟨B, 2, none⟩ = some sv ∧ wx.cell? ⟨B, 3, none⟩ = some (.int .i64 bu) ∧ wx.cell? ⟨B, 4, none⟩ = some (.int .i64 wt) ∧ wx.cell? ⟨B, 5, none⟩ = some (.int .i64 ac) ∧ wx.cell? ⟨B, 6, none⟩ = some qv
theorem LB.next {w wx wy : World} {B : Nat} {mem ow : Int} {sv : Value} {bu wt ac : Int} {qv : Value} (h : LB w B mem ow sv bu wt ac qv wx) (hb : Below wx.heap.size wx wy) : LB w B mem ow sv bu wt ac qv wy :=
  ⟨h.1.trans (hb.mono h.1.size), keepc hb h.2.1, keepc hb h.2.2.1, keepc hb h.2.2.2.1, keepc hb h.2.2.2.2.1, keepc hb h.2.2.2.2.2.1, keepc hb h.2.2.2.2.2.2.1, keepc hb h.2.2.2.2.2.2.2⟩
theorem lb_here {w wx : World} (h : Below w.heap.size w wx) (mem ow : Int) (sv : Value) (bu wt ac : Int) (qv : Value) (T : TypeId) : LB w wx.heap.size mem ow sv bu wt ac qv (wx.alloc (.cells (ln7 mem ow sv bu wt ac qv) T)) := by
  have e := heap_alloc_new wx (.cells (ln7 mem ow sv bu wt ac qv) T)
  exact ⟨h.alloc h.size _, (cell_of_row _ _ _ _ _ _ e).trans rfl, (cell_of_row _ _ _ _ _ _ e).trans rfl, (cell_of_row _ _ _ _ _ _ e).trans rfl, (cell_of_row _ _ _ _ _ _ e).trans rfl, (cell_of_row _ _ _ _ _ _ e).trans rfl, (cell_of_row _ _ _ _ _ _ e).trans rfl, (cell_of_row _ _ _ _ _ _ e).trans rfl⟩
theorem lb_box (w : World) (mem ow : Int) (sv : Value) (bu wt ac : Int) (qv : Value) (T : TypeId) : LB w w.heap.size mem ow sv bu wt ac qv (w.alloc (.cells (ln7 mem ow sv bu wt ac qv) T)) := lb_here (Below.refl _ _) _ _ _ _ _ _ _ _

end Go.Proofs.Ytacgfeddbcoigaa

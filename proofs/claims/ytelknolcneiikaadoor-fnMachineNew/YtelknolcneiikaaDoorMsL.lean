/- laws.toMachine -/
import Derived.Test.YtelknolcneiikaaDoorMsC
import Derived.Test.YtelknolcneiikaaDoorRwMsg
namespace Go.Proofs.YtelknolcneiikaaDoor
open Go.RowKit
set_option linter.unusedVariables false
set_option linter.unusedSimpArgs false

theorem Oss.set {w : World} {g C k B i : Nat} {L : Nat → Nat} {F : Nat → Nat → Nat → Int} {v : Value} (h : Oss w g C k L F) (hlt : B < g) : Oss (w.setCell ⟨B, i, none⟩ v) g C k L F := by
  obtain ⟨cur, h1, h2, h3⟩ := h
  refine ⟨cur, ?_, h2, fun c hc => ?_⟩
  · rw [heap_setCell_other _ _ _ _ (by first | omega | (simp; omega))]; exact h1
  · obtain ⟨ib, a, b, d⟩ := h3 c hc
    exact ⟨ib, a, b, d.set (by omega)⟩
theorem Ols.set {w : World} {g n k B i : Nat} {G : Nat → LnD} {v : Value} (h : Ols w g n k G) (hlt : B < g) : Ols (w.setCell ⟨B, i, none⟩ v) g n k G := by
  obtain ⟨cur, h1, h2, h3⟩ := h
  refine ⟨cur, ?_, h2, fun c hc => ?_⟩
  · rw [heap_setCell_other _ _ _ _ (by first | omega | (simp; omega))]; exact h1
  · obtain ⟨sg, qg, a, b, d, s, q⟩ := h3 c hc
    exact ⟨sg, qg, a, b, d, s.set (by omega), q.set (by omega)⟩

theorem row3_facts {w : World} {B : Nat} {T : TypeId} {v0 v1 v2 : Value} (h : w.heap[B]? = some (.cells #[v0, v1, v2] T (0, 0))) : (∀ i, w.frozen? ⟨B, i, none⟩ = false) ∧ w.cell? ⟨B, 0, none⟩ = some v0 ∧ w.cell? ⟨B, 1, none⟩ = some v1 ∧ w.cell? ⟨B, 2, none⟩ = some v2 :=
  ⟨fun i => frozen_of_row _ _ i _ _ h, (cell_of_row _ _ _ _ _ _ h).trans rfl, (cell_of_row _ _ _ _ _ _ h).trans rfl, (cell_of_row _ _ _ _ _ _ h).trans rfl⟩

abbrev nil3 : Value := .slice none 0 0
abbrev full (g n : Nat) : Value := .slice (some ⟨g, 0, none⟩) n n

end Go.Proofs.YtelknolcneiikaaDoor

/- toLine, eqLine, szLine -/
import Derived.Test.YtelknolcneiikaaDoorLqA
import Derived.Test.YtelknolcneiikaaDoorLqB
import Derived.Deep.Heap
namespace Go.Proofs.YtelknolcneiikaaDoor
open Go.RowKit
set_option linter.unusedVariables false
set_option linter.unusedSimpArgs false

theorem row7_facts {w : World} {B : Nat} {T : TypeId} {v0 v1 v2 v3 v4 v5 v6 : Value} (h : w.heap[B]? = some (.cells #[v0, v1, v2, v3, v4, v5, v6] T (0, 0))) : (∀ i, w.frozen? ⟨B, i, none⟩ = false) ∧ w.cell? ⟨B, 0, none⟩ = some v0 ∧ w.cell? ⟨B, 1, none⟩ = some v1 ∧ w.cell? ⟨B, 2, none⟩ = some v2 ∧ w.cell? ⟨B, 3, none⟩ = some v3 ∧ w.cell? ⟨B, 4, none⟩ = some v4 ∧ w.cell? ⟨B, 5, none⟩ = some v5 ∧ w.cell? ⟨B, 6, none⟩ = some v6 :=
  ⟨fun i => frozen_of_row _ _ i _ _ h, (cell_of_row _ _ _ _ _ _ h).trans rfl, (cell_of_row _ _ _ _ _ _ h).trans rfl, (cell_of_row _ _ _ _ _ _ h).trans rfl, (cell_of_row _ _ _ _ _ _ h).trans rfl, (cell_of_row _ _ _ _ _ _ h).trans rfl, (cell_of_row _ _ _ _ _ _ h).trans rfl, (cell_of_row _ _ _ _ _ _ h).trans rfl⟩

/-- a slice that lies in one block is read alike where another block is written -/
theorem Sl.set {w : World} {g n cap B i : Nat} {zs : List Int} {v : Value} (h : Sl w (.slice (some ⟨g, 0, none⟩) n cap) zs) (hne : B ≠ g) : Sl (w.setCell ⟨B, i, none⟩ v) (.slice (some ⟨g, 0, none⟩) n cap) zs := by
  obtain ⟨ad, c, e, h⟩ := h
  refine ⟨ad, c, e, fun hp => ?_⟩
  obtain ⟨b, off, rfl, hc⟩ := h hp
  simp only [Value.slice.injEq, Option.some.injEq, Addr.mk.injEq] at e
  obtain ⟨⟨rfl, rfl, _⟩, _, _⟩ := e
  exact ⟨g, 0, rfl, fun j hj => by rw [World.cell?_setCell_far _ _ _ _ hne]; exact hc j hj⟩
theorem Sr.set {w : World} {g m n cap B i : Nat} {f : Nat → Nat → Int} {v : Value} (h : Sr w (.slice (some ⟨g, 0, none⟩) n cap) m n f) (hne : B ≠ g) : Sr (w.setCell ⟨B, i, none⟩ v) (.slice (some ⟨g, 0, none⟩) n cap) m n f := by
  obtain ⟨ad, c, e, h⟩ := h
  refine ⟨ad, c, e, fun hp => ?_⟩
  obtain ⟨b, off, rfl, hc⟩ := h hp
  simp only [Value.slice.injEq, Option.some.injEq, Addr.mk.injEq] at e
  obtain ⟨⟨rfl, rfl, _⟩, _, _⟩ := e
  exact ⟨g, 0, rfl, fun j hj k hk => by rw [World.cell?_setCell_far _ _ _ _ hne]; exact hc j hj k hk⟩
theorem Ow.block {w : World} {base : Nat} {g n cap : Nat} {zs : List Int} (h : Ow w base (.slice (some ⟨g, 0, none⟩) n cap) zs) : base ≤ g ∧ g < w.heap.size := World.ownsRow.lt h g rfl
theorem Orow.block {w : World} {base : Nat} {T : TypeId} {m g n cap k l : Nat} {f : Nat → Nat → Int} (h : Orow w base T m (.slice (some ⟨g, 0, none⟩) l cap) n k f) : base ≤ g ∧ g < w.heap.size := World.ownsRow.lt h g rfl

abbrev zln : Array Value := ln7 0 0 (.slice none 0 0) 0 0 0 (.slice none 0 0)

end Go.Proofs.YtelknolcneiikaaDoor
